/- What impl.StanzaText and spec.StanzaText answer. -/
import Derived.Test.YtgcfognljkebjaaGreatDoorStTextI
import Derived.Test.YtgcfognljkebjaaGreatDoorStMark
import Derived.Test.YtgcfognljkebjaaGreatDoorStRightI
import Derived.Test.YtgcfognljkebjaaGreatDoorStRightS
namespace Go.Proofs.YtgcfognljkebjaaGreatDoor
set_option linter.unusedSimpArgs false
set_option linter.unusedVariables false
open Go.RowKit Go.Joins

/-- The text of a stanza. -/
noncomputable def stT (k t f o : ByteArray) (n : Int) (b : ByteArray) : ByteArray := if stB k t f o n b = true then strOf (markL k.data.toList t.data.toList f.data.toList o.data.toList n b.data.toList) else ⟨#[]⟩
theorem stB_id {k t f o : ByteArray} {n : Int} {b : ByteArray} (h : stB k t f o n b = true) : 0 ≤ n ∧ n ≤ 1000000000 ∧ b.size ≤ 400 := by
  unfold stB timeB at h
  simp at h
  omega
theorem fld_big (wd v : List UInt8) (h : v.length ≤ 2000000) (hw : wd.length ≤ 10) : (fldL wd v).length ≤ 2000100 := by
  have := fld_len wd v
  omega
set_option maxRecDepth 100000 in
set_option maxHeartbeats 4000000 in
theorem impl_sttext (k t f o : ByteArray) (n : Int) (b : ByteArray) (w : World) (hk : k.size ≤ 2000000) (ht : t.size ≤ 2000000) (hf : f.size ≤ 2000000) (ho : o.size ≤ 2000000) (hbz : b.size ≤ 2000000) (hm : MaxL w) (hp : TabP w) :
    Calls Tryz.prog 110 #[.agg #[.string k, .string t, .string f, .string o, .int .i64 n, .string b]] w fun e w' => e = .returned (.string (stT k t f o n b)) ∧ Below w.heap.size w w' := by
  have i0 := fun w hm => impl_stright k t f o n b w (by unfold maxLen; omega) (by unfold maxLen; omega) (by unfold maxLen; omega) (by unfold maxLen; omega) hm
  have HM := Lib.hid (fun W (h : Below (w.alloc (.cells #[.string k, .string t, .string f, .string o, .int .i64 n, .string b] 70)).heap.size (w.alloc (.cells #[.string k, .string t, .string f, .string o, .int .i64 n, .string b] 70)) W) => hm.below (below_one h) hm.pos)
  have HK := Lib.hid (fun W (h : Below (w.alloc (.cells #[.string k, .string t, .string f, .string o, .int .i64 n, .string b] 70)).heap.size (w.alloc (.cells #[.string k, .string t, .string f, .string o, .int .i64 n, .string b] 70)) W) => (box_six h).1)
  have HT := Lib.hid (fun W (h : Below (w.alloc (.cells #[.string k, .string t, .string f, .string o, .int .i64 n, .string b] 70)).heap.size (w.alloc (.cells #[.string k, .string t, .string f, .string o, .int .i64 n, .string b] 70)) W) => hp.below (below_one h))
  clear hm hp
  unfold stT
  by_cases hst : stB k t f o n b = true
  · obtain ⟨hn0, hn1, hb4⟩ := stB_id hst
    rw [if_pos hst]
    rw [hst] at i0
    clear hst
    have i1 : ∀ w, Calls Tryz.prog 129 #[.string ⟨#[116, 121, 112, 101]⟩, .string t] w fun e w' => e = .returned (.string (strOf (fldL wType t.data.toList))) ∧ Below w.heap.size w w' := fun w => impl_field ⟨#[116, 121, 112, 101]⟩ t w (show (4 : Nat) ≤ 10 by decide) ht
    have i2 : ∀ w, Calls Tryz.prog 129 #[.string ⟨#[102, 114, 111, 109]⟩, .string f] w fun e w' => e = .returned (.string (strOf (fldL wFrom f.data.toList))) ∧ Below w.heap.size w w' := fun w => impl_field ⟨#[102, 114, 111, 109]⟩ f w (show (4 : Nat) ≤ 10 by decide) hf
    have i3 : ∀ w, Calls Tryz.prog 129 #[.string ⟨#[116, 111]⟩, .string o] w fun e w' => e = .returned (.string (strOf (fldL wTo o.data.toList))) ∧ Below w.heap.size w w' := fun w => impl_field ⟨#[116, 111]⟩ o w (show (2 : Nat) ≤ 10 by decide) ho
    have i4 := fun w hp => impl_idtext n w hn0 hn1 hp
    have hid := id_len hn0 hn1
    have i5 : ∀ w, Calls Tryz.prog 129 #[.string ⟨#[105, 100]⟩, .string (strOf (idL n))] w fun e w' => e = .returned (.string (strOf (fldL wId (idL n)))) ∧ Below w.heap.size w w' := fun w => by
      have := impl_field ⟨#[105, 100]⟩ (strOf (idL n)) w (show (2 : Nat) ≤ 10 by decide) (by rw [strOf_size]; omega)
      rw [strOf_data] at this
      exact this
    have l1 := fld_big wType t.data.toList (by rw [size_data]; exact ht) (by decide)
    have l2 := fld_big wFrom f.data.toList (by rw [size_data]; exact hf) (by decide)
    have l3 := fld_big wTo o.data.toList (by rw [size_data]; exact ho) (by decide)
    have l4 := fld_big wId (idL n) (by omega) (by decide)
    obtain ⟨F1, hF1⟩ : ∃ F1, F1 = strOf (fldL wType t.data.toList) := ⟨_, rfl⟩
    obtain ⟨F2, hF2⟩ : ∃ F2, F2 = strOf (fldL wFrom f.data.toList) := ⟨_, rfl⟩
    obtain ⟨F3, hF3⟩ : ∃ F3, F3 = strOf (fldL wTo o.data.toList) := ⟨_, rfl⟩
    obtain ⟨F4, hF4⟩ : ∃ F4, F4 = strOf (fldL wId (idL n)) := ⟨_, rfl⟩
    obtain ⟨D, hD⟩ : ∃ D, D = strOf (idL n) := ⟨_, rfl⟩
    have HH : Hid (flat [⟨#[60]⟩, k, F1, F2, F3, F4] = headL k.data.toList t.data.toList f.data.toList o.data.toList n) := Lib.hid (by rw [hF1, hF2, hF3, hF4]; simp [flat, headL, strOf_data])
    have HL : Hid ((headL k.data.toList t.data.toList f.data.toList o.data.toList n).length ≤ 20000000) := Lib.hid (by
      have := size_data k
      simp [headL]
      omega)
    obtain ⟨X, hX⟩ : ∃ X, X = strOf (headL k.data.toList t.data.toList f.data.toList o.data.toList n) := ⟨_, rfl⟩
    have i6 : ∀ w : World, Calls Tryz.prog 26 #[.slice (some ⟨w.heap.size, 0, none⟩) 6 6] (w.alloc (.cells #[.string ⟨#[60]⟩, .string k, .string F1, .string F2, .string F3, .string F4] 9)) fun e w' => e = .returned (.string X) ∧ Below w.heap.size w w' := fun w => by
      have := joined_new w [⟨#[60]⟩, k, F1, F2, F3, F4] (by simp) (by rw [HH.out]; have := HL.out; omega)
      rw [HH.out, ← hX] at this
      exact this
    rw [← hF1] at i1
    rw [← hF2] at i2
    rw [← hF3] at i3
    rw [← hF4, ← hD] at i5
    rw [← hD] at i4
    have HX := Lib.hid hX
    clear hX hF1 hF2 hF3 hF4 hD l1 l2 l3 l4 hid HH
    rcases Nat.eq_zero_or_pos b.size with g4 | g4
    · obtain ⟨n4, e4⟩ := empty_of g4
      have z4 := list_none g4
      have i7 : ∀ w : World, Calls Tryz.prog 26 #[.slice (some ⟨w.heap.size, 0, none⟩) 2 2] (w.alloc (.cells #[.string X, .string ⟨#[47, 62]⟩] 9)) fun e w' => e = .returned (.string (strOf (markL k.data.toList t.data.toList f.data.toList o.data.toList n b.data.toList))) ∧ Below w.heap.size w w' := fun w => by
        have e : flat [X, ⟨#[47, 62]⟩] = markL k.data.toList t.data.toList f.data.toList o.data.toList n b.data.toList := by rw [HX.out, z4]; simp [flat, markL, endL, strOf_data]
        have := joined_new w [X, ⟨#[47, 62]⟩] (by simp) (by rw [HX.out]; have := HL.out; simp [flat, strOf_data]; omega)
        rw [e] at this
        exact this
      obtain ⟨Z, hZ⟩ : ∃ Z, Z = strOf (markL k.data.toList t.data.toList f.data.toList o.data.toList n b.data.toList) := ⟨_, rfl⟩
      rw [← hZ] at i7 ⊢
      clear hZ z4
      go_enter Tryz.func110, Tryz.ntmps110
      go_wp2_with (go_at_call 109; go_fit (i0 _ (HM.out _ (Below.refl _ _))); rintro e w1 ⟨rfl, hb⟩; obtain ⟨c0, c1, c2, c3, c4, c5⟩ := HK.out _ hb)
      have hS0 := box_six hb.drew
      refine wp_region_held_drew (S := (fun W => (W.cell? ⟨w.heap.size, 0, none⟩ = some (.string k) ∧ W.cell? ⟨w.heap.size, 1, none⟩ = some (.string t) ∧ W.cell? ⟨w.heap.size, 2, none⟩ = some (.string f) ∧ W.cell? ⟨w.heap.size, 3, none⟩ = some (.string o) ∧ W.cell? ⟨w.heap.size, 4, none⟩ = some (.int .i64 n) ∧ W.cell? ⟨w.heap.size, 5, none⟩ = some (.string b)) ∧ Below (w.alloc (.cells #[.string k, .string t, .string f, .string o, .int .i64 n, .string b] 70)).heap.size (w.alloc (.cells #[.string k, .string t, .string f, .string o, .int .i64 n, .string b] 70)) W)) (by kernel_rfl) hS0 (fun hHeld => ?_)
      clear hS0 c0 c1 c2 c3 c4 c5 hb
      refine takeH (i := 0) (k := 7) (v := .pointer (some ⟨w.heap.size, 0, none⟩)) rfl (by rfl) (by kernel_rfl) (by kernel_rfl) (by kernel_rfl) (fun _ _ _ h => h) (by rfl) ?_ hHeld ?_
      · intro w1 hSw; obtain ⟨⟨p0, p1, p2, p3, p4, p5⟩, _⟩ := hSw; go_simp
      (try simp only [Act.put, List.setIfInBounds_toArray, List.set_cons_zero, List.set_cons_succ])
      refine takeH (i := 1) (k := 8) (v := .string k) rfl (by rfl) (by kernel_rfl) (by kernel_rfl) (by kernel_rfl) (fun _ _ _ h => h) (by rfl) ?_ hHeld ?_
      · intro w1 hSw; obtain ⟨⟨p0, p1, p2, p3, p4, p5⟩, _⟩ := hSw; go_simp
      (try simp only [Act.put, List.setIfInBounds_toArray, List.set_cons_zero, List.set_cons_succ])
      refine takeH (i := 2) (k := 9) (v := .pointer (some ⟨w.heap.size, 1, none⟩)) rfl (by rfl) (by kernel_rfl) (by kernel_rfl) (by kernel_rfl) (fun _ _ _ h => h) (by rfl) ?_ hHeld ?_
      · intro w1 hSw; obtain ⟨⟨p0, p1, p2, p3, p4, p5⟩, _⟩ := hSw; go_simp
      (try simp only [Act.put, List.setIfInBounds_toArray, List.set_cons_zero, List.set_cons_succ])
      refine takeH (i := 3) (k := 10) (v := .string t) rfl (by rfl) (by kernel_rfl) (by kernel_rfl) (by kernel_rfl) (fun _ _ _ h => h) (by rfl) ?_ hHeld ?_
      · intro w1 hSw; obtain ⟨⟨p0, p1, p2, p3, p4, p5⟩, _⟩ := hSw; go_simp
      (try simp only [Act.put, List.setIfInBounds_toArray, List.set_cons_zero, List.set_cons_succ])
      refine takeH (i := 5) (k := 12) (v := .pointer (some ⟨w.heap.size, 2, none⟩)) rfl (by rfl) (by kernel_rfl) (by kernel_rfl) (by kernel_rfl) (fun _ _ _ h => h) (by rfl) ?_ hHeld ?_
      · intro w1 hSw; obtain ⟨⟨p0, p1, p2, p3, p4, p5⟩, _⟩ := hSw; go_simp
      (try simp only [Act.put, List.setIfInBounds_toArray, List.set_cons_zero, List.set_cons_succ])
      refine takeH (i := 6) (k := 13) (v := .string f) rfl (by rfl) (by kernel_rfl) (by kernel_rfl) (by kernel_rfl) (fun _ _ _ h => h) (by rfl) ?_ hHeld ?_
      · intro w1 hSw; obtain ⟨⟨p0, p1, p2, p3, p4, p5⟩, _⟩ := hSw; go_simp
      (try simp only [Act.put, List.setIfInBounds_toArray, List.set_cons_zero, List.set_cons_succ])
      refine takeH (i := 8) (k := 15) (v := .pointer (some ⟨w.heap.size, 3, none⟩)) rfl (by rfl) (by kernel_rfl) (by kernel_rfl) (by kernel_rfl) (fun _ _ _ h => h) (by rfl) ?_ hHeld ?_
      · intro w1 hSw; obtain ⟨⟨p0, p1, p2, p3, p4, p5⟩, _⟩ := hSw; go_simp
      (try simp only [Act.put, List.setIfInBounds_toArray, List.set_cons_zero, List.set_cons_succ])
      refine takeH (i := 9) (k := 16) (v := .string o) rfl (by rfl) (by kernel_rfl) (by kernel_rfl) (by kernel_rfl) (fun _ _ _ h => h) (by rfl) ?_ hHeld ?_
      · intro w1 hSw; obtain ⟨⟨p0, p1, p2, p3, p4, p5⟩, _⟩ := hSw; go_simp
      (try simp only [Act.put, List.setIfInBounds_toArray, List.set_cons_zero, List.set_cons_succ])
      refine takeH (i := 11) (k := 18) (v := .pointer (some ⟨w.heap.size, 4, none⟩)) rfl (by rfl) (by kernel_rfl) (by kernel_rfl) (by kernel_rfl) (fun _ _ _ h => h) (by rfl) ?_ hHeld ?_
      · intro w1 hSw; obtain ⟨⟨p0, p1, p2, p3, p4, p5⟩, _⟩ := hSw; go_simp
      (try simp only [Act.put, List.setIfInBounds_toArray, List.set_cons_zero, List.set_cons_succ])
      refine takeH (i := 12) (k := 19) (v := .int .i64 n) rfl (by rfl) (by kernel_rfl) (by kernel_rfl) (by kernel_rfl) (fun _ _ _ h => h) (by rfl) ?_ hHeld ?_
      · intro w1 hSw; obtain ⟨⟨p0, p1, p2, p3, p4, p5⟩, _⟩ := hSw; go_simp
      (try simp only [Act.put, List.setIfInBounds_toArray, List.set_cons_zero, List.set_cons_succ])
      refine wpAnyH_ready (rs := [4]) (by kernel_rfl) (by simp) ?_
      refine AllReadyH.cons rfl (fun K hK => ?_) AllReadyH.nil
      rw [if_pos (by rfl)]
      go_simp
      go_fit (i1 _)
      rintro e wm ⟨rfl, hb2⟩
      refine hK.out _ _ (box_six (heldOn hHeld hb2)) (fun hHeld => ?_)
      clear hK K
      (try simp only [Act.put, List.setIfInBounds_toArray, List.set_cons_zero, List.set_cons_succ])
      refine wpAnyH_ready (rs := [7]) (by kernel_rfl) (by simp) ?_
      refine AllReadyH.cons rfl (fun K hK => ?_) AllReadyH.nil
      rw [if_pos (by rfl)]
      go_simp
      go_fit (i2 _)
      rintro e wm ⟨rfl, hb2⟩
      refine hK.out _ _ (box_six (heldOn hHeld hb2)) (fun hHeld => ?_)
      clear hK K
      (try simp only [Act.put, List.setIfInBounds_toArray, List.set_cons_zero, List.set_cons_succ])
      refine wpAnyH_ready (rs := [10]) (by kernel_rfl) (by simp) ?_
      refine AllReadyH.cons rfl (fun K hK => ?_) AllReadyH.nil
      rw [if_pos (by rfl)]
      go_simp
      go_fit (i3 _)
      rintro e wm ⟨rfl, hb2⟩
      refine hK.out _ _ (box_six (heldOn hHeld hb2)) (fun hHeld => ?_)
      clear hK K
      (try simp only [Act.put, List.setIfInBounds_toArray, List.set_cons_zero, List.set_cons_succ])
      refine wpAnyH_ready (rs := [13]) (by kernel_rfl) (by simp) ?_
      refine AllReadyH.cons rfl (fun K hK => ?_) AllReadyH.nil
      rw [if_pos (by rfl)]
      go_simp
      go_fit (i4 _ (HT.out _ hHeld.2))
      rintro e wm ⟨rfl, hb2⟩
      refine hK.out _ _ (box_six (heldOn hHeld hb2)) (fun hHeld => ?_)
      clear hK K
      (try simp only [Act.put, List.setIfInBounds_toArray, List.set_cons_zero, List.set_cons_succ])
      refine wpAnyH_ready (rs := [14]) (by kernel_rfl) (by simp) ?_
      refine AllReadyH.cons rfl (fun K hK => ?_) AllReadyH.nil
      rw [if_pos (by rfl)]
      go_simp
      go_fit (i5 _)
      rintro e wm ⟨rfl, hb2⟩
      refine hK.out _ _ (box_six (heldOn hHeld hb2)) (fun hHeld => ?_)
      clear hK K
      (try simp only [Act.put, List.setIfInBounds_toArray, List.set_cons_zero, List.set_cons_succ])
      have hHeld0 := hHeld
      refine wpAnyH_ready (rs := [15]) (by kernel_rfl) (by simp) ?_
      refine AllReadyH.cons rfl (fun K hK => ?_) AllReadyH.nil
      rw [if_pos (by rfl)]
      go_simp
      refine hK.out _ _ (box_six (hHeld.2.alloc hHeld.2.size _)) (fun hHeld => ?_)
      clear hK K
      (try simp only [Act.put, List.setIfInBounds_toArray, List.set_cons_zero, List.set_cons_succ])
      refine wpAnyH_ready (rs := [16]) (by kernel_rfl) (by simp) ?_
      refine AllReadyH.cons rfl (fun K hK => ?_) AllReadyH.nil
      rw [if_pos (by rfl)]
      go_simp
      go_fit (i6 _)
      rintro e wm ⟨rfl, hb2⟩
      refine hK.out _ _ (box_six (heldOn hHeld0 hb2)) (fun hHeld => ?_)
      clear hK K
      (try simp only [Act.put, List.setIfInBounds_toArray, List.set_cons_zero, List.set_cons_succ])
      clear hHeld0
      refine takeH (i := 17) (k := 3) (v := .string X) rfl (by rfl) (by kernel_rfl) (by kernel_rfl) (by kernel_rfl) (fun _ _ _ h => h) (by rfl) ?_ hHeld ?_
      · intro w1 hSw; obtain ⟨⟨p0, p1, p2, p3, p4, p5⟩, _⟩ := hSw; go_simp
      (try simp only [Act.put, List.setIfInBounds_toArray, List.set_cons_zero, List.set_cons_succ])
      refine wpAnyH_done (by kernel_rfl) ?_ _
      obtain ⟨⟨p0, p1, p2, p3, p4, p5⟩, hb⟩ := hHeld
      go_wp2_with (go_at_call 26; go_fit (i7 _); rintro e w7 ⟨rfl, hb2⟩; replace hb := hb.trans (hb2.mono hb.size); clear hb2)
      go_ret
      exact ⟨rfl, below_one hb⟩
    · have n4 := ne_nil g4
      have e4 := not_empty g4
      have z4 := list_some g4
      have j1 := fun w => impl_esc b w (by omega)
      have j2 := fun w => impl_endtag k w hk
      have lE := escL_len b.data.toList
      have i7 : ∀ w : World, Calls Tryz.prog 26 #[.slice (some ⟨w.heap.size, 0, none⟩) 4 4] (w.alloc (.cells #[.string X, .string ⟨#[62]⟩, .string (strOf (escL b.data.toList)), .string (strOf (60 :: 47 :: (k.data.toList ++ [62])))] 9)) fun e w' => e = .returned (.string (strOf (markL k.data.toList t.data.toList f.data.toList o.data.toList n b.data.toList))) ∧ Below w.heap.size w w' := fun w => by
        have e : flat [X, ⟨#[62]⟩, strOf (escL b.data.toList), strOf (60 :: 47 :: (k.data.toList ++ [62]))] = markL k.data.toList t.data.toList f.data.toList o.data.toList n b.data.toList := by rw [HX.out]; unfold markL endL; rw [if_neg z4]; simp [flat, strOf_data]
        have := joined_new w [X, ⟨#[62]⟩, strOf (escL b.data.toList), strOf (60 :: 47 :: (k.data.toList ++ [62]))] (by simp) (by rw [HX.out]; have := HL.out; have := size_data b; have := size_data k; simp [flat, strOf_data] at *; omega)
        rw [e] at this
        exact this
      obtain ⟨Z, hZ⟩ : ∃ Z, Z = strOf (markL k.data.toList t.data.toList f.data.toList o.data.toList n b.data.toList) := ⟨_, rfl⟩
      obtain ⟨E, hE⟩ : ∃ E, E = strOf (escL b.data.toList) := ⟨_, rfl⟩
      obtain ⟨G, hG⟩ : ∃ G, G = strOf (60 :: 47 :: (k.data.toList ++ [62])) := ⟨_, rfl⟩
      rw [← hZ, ← hE, ← hG] at i7
      rw [← hE] at j1
      rw [← hG] at j2
      rw [← hZ]
      clear hZ hE hG z4 lE
      go_enter Tryz.func110, Tryz.ntmps110
      go_wp2_with (go_at_call 109; go_fit (i0 _ (HM.out _ (Below.refl _ _))); rintro e w1 ⟨rfl, hb⟩; obtain ⟨c0, c1, c2, c3, c4, c5⟩ := HK.out _ hb)
      have hS0 := box_six hb.drew
      refine wp_region_held_drew (S := (fun W => (W.cell? ⟨w.heap.size, 0, none⟩ = some (.string k) ∧ W.cell? ⟨w.heap.size, 1, none⟩ = some (.string t) ∧ W.cell? ⟨w.heap.size, 2, none⟩ = some (.string f) ∧ W.cell? ⟨w.heap.size, 3, none⟩ = some (.string o) ∧ W.cell? ⟨w.heap.size, 4, none⟩ = some (.int .i64 n) ∧ W.cell? ⟨w.heap.size, 5, none⟩ = some (.string b)) ∧ Below (w.alloc (.cells #[.string k, .string t, .string f, .string o, .int .i64 n, .string b] 70)).heap.size (w.alloc (.cells #[.string k, .string t, .string f, .string o, .int .i64 n, .string b] 70)) W)) (by kernel_rfl) hS0 (fun hHeld => ?_)
      clear hS0 c0 c1 c2 c3 c4 c5 hb
      refine takeH (i := 0) (k := 7) (v := .pointer (some ⟨w.heap.size, 0, none⟩)) rfl (by rfl) (by kernel_rfl) (by kernel_rfl) (by kernel_rfl) (fun _ _ _ h => h) (by rfl) ?_ hHeld ?_
      · intro w1 hSw; obtain ⟨⟨p0, p1, p2, p3, p4, p5⟩, _⟩ := hSw; go_simp
      (try simp only [Act.put, List.setIfInBounds_toArray, List.set_cons_zero, List.set_cons_succ])
      refine takeH (i := 1) (k := 8) (v := .string k) rfl (by rfl) (by kernel_rfl) (by kernel_rfl) (by kernel_rfl) (fun _ _ _ h => h) (by rfl) ?_ hHeld ?_
      · intro w1 hSw; obtain ⟨⟨p0, p1, p2, p3, p4, p5⟩, _⟩ := hSw; go_simp
      (try simp only [Act.put, List.setIfInBounds_toArray, List.set_cons_zero, List.set_cons_succ])
      refine takeH (i := 2) (k := 9) (v := .pointer (some ⟨w.heap.size, 1, none⟩)) rfl (by rfl) (by kernel_rfl) (by kernel_rfl) (by kernel_rfl) (fun _ _ _ h => h) (by rfl) ?_ hHeld ?_
      · intro w1 hSw; obtain ⟨⟨p0, p1, p2, p3, p4, p5⟩, _⟩ := hSw; go_simp
      (try simp only [Act.put, List.setIfInBounds_toArray, List.set_cons_zero, List.set_cons_succ])
      refine takeH (i := 3) (k := 10) (v := .string t) rfl (by rfl) (by kernel_rfl) (by kernel_rfl) (by kernel_rfl) (fun _ _ _ h => h) (by rfl) ?_ hHeld ?_
      · intro w1 hSw; obtain ⟨⟨p0, p1, p2, p3, p4, p5⟩, _⟩ := hSw; go_simp
      (try simp only [Act.put, List.setIfInBounds_toArray, List.set_cons_zero, List.set_cons_succ])
      refine takeH (i := 5) (k := 12) (v := .pointer (some ⟨w.heap.size, 2, none⟩)) rfl (by rfl) (by kernel_rfl) (by kernel_rfl) (by kernel_rfl) (fun _ _ _ h => h) (by rfl) ?_ hHeld ?_
      · intro w1 hSw; obtain ⟨⟨p0, p1, p2, p3, p4, p5⟩, _⟩ := hSw; go_simp
      (try simp only [Act.put, List.setIfInBounds_toArray, List.set_cons_zero, List.set_cons_succ])
      refine takeH (i := 6) (k := 13) (v := .string f) rfl (by rfl) (by kernel_rfl) (by kernel_rfl) (by kernel_rfl) (fun _ _ _ h => h) (by rfl) ?_ hHeld ?_
      · intro w1 hSw; obtain ⟨⟨p0, p1, p2, p3, p4, p5⟩, _⟩ := hSw; go_simp
      (try simp only [Act.put, List.setIfInBounds_toArray, List.set_cons_zero, List.set_cons_succ])
      refine takeH (i := 8) (k := 15) (v := .pointer (some ⟨w.heap.size, 3, none⟩)) rfl (by rfl) (by kernel_rfl) (by kernel_rfl) (by kernel_rfl) (fun _ _ _ h => h) (by rfl) ?_ hHeld ?_
      · intro w1 hSw; obtain ⟨⟨p0, p1, p2, p3, p4, p5⟩, _⟩ := hSw; go_simp
      (try simp only [Act.put, List.setIfInBounds_toArray, List.set_cons_zero, List.set_cons_succ])
      refine takeH (i := 9) (k := 16) (v := .string o) rfl (by rfl) (by kernel_rfl) (by kernel_rfl) (by kernel_rfl) (fun _ _ _ h => h) (by rfl) ?_ hHeld ?_
      · intro w1 hSw; obtain ⟨⟨p0, p1, p2, p3, p4, p5⟩, _⟩ := hSw; go_simp
      (try simp only [Act.put, List.setIfInBounds_toArray, List.set_cons_zero, List.set_cons_succ])
      refine takeH (i := 11) (k := 18) (v := .pointer (some ⟨w.heap.size, 4, none⟩)) rfl (by rfl) (by kernel_rfl) (by kernel_rfl) (by kernel_rfl) (fun _ _ _ h => h) (by rfl) ?_ hHeld ?_
      · intro w1 hSw; obtain ⟨⟨p0, p1, p2, p3, p4, p5⟩, _⟩ := hSw; go_simp
      (try simp only [Act.put, List.setIfInBounds_toArray, List.set_cons_zero, List.set_cons_succ])
      refine takeH (i := 12) (k := 19) (v := .int .i64 n) rfl (by rfl) (by kernel_rfl) (by kernel_rfl) (by kernel_rfl) (fun _ _ _ h => h) (by rfl) ?_ hHeld ?_
      · intro w1 hSw; obtain ⟨⟨p0, p1, p2, p3, p4, p5⟩, _⟩ := hSw; go_simp
      (try simp only [Act.put, List.setIfInBounds_toArray, List.set_cons_zero, List.set_cons_succ])
      refine wpAnyH_ready (rs := [4]) (by kernel_rfl) (by simp) ?_
      refine AllReadyH.cons rfl (fun K hK => ?_) AllReadyH.nil
      rw [if_pos (by rfl)]
      go_simp
      go_fit (i1 _)
      rintro e wm ⟨rfl, hb2⟩
      refine hK.out _ _ (box_six (heldOn hHeld hb2)) (fun hHeld => ?_)
      clear hK K
      (try simp only [Act.put, List.setIfInBounds_toArray, List.set_cons_zero, List.set_cons_succ])
      refine wpAnyH_ready (rs := [7]) (by kernel_rfl) (by simp) ?_
      refine AllReadyH.cons rfl (fun K hK => ?_) AllReadyH.nil
      rw [if_pos (by rfl)]
      go_simp
      go_fit (i2 _)
      rintro e wm ⟨rfl, hb2⟩
      refine hK.out _ _ (box_six (heldOn hHeld hb2)) (fun hHeld => ?_)
      clear hK K
      (try simp only [Act.put, List.setIfInBounds_toArray, List.set_cons_zero, List.set_cons_succ])
      refine wpAnyH_ready (rs := [10]) (by kernel_rfl) (by simp) ?_
      refine AllReadyH.cons rfl (fun K hK => ?_) AllReadyH.nil
      rw [if_pos (by rfl)]
      go_simp
      go_fit (i3 _)
      rintro e wm ⟨rfl, hb2⟩
      refine hK.out _ _ (box_six (heldOn hHeld hb2)) (fun hHeld => ?_)
      clear hK K
      (try simp only [Act.put, List.setIfInBounds_toArray, List.set_cons_zero, List.set_cons_succ])
      refine wpAnyH_ready (rs := [13]) (by kernel_rfl) (by simp) ?_
      refine AllReadyH.cons rfl (fun K hK => ?_) AllReadyH.nil
      rw [if_pos (by rfl)]
      go_simp
      go_fit (i4 _ (HT.out _ hHeld.2))
      rintro e wm ⟨rfl, hb2⟩
      refine hK.out _ _ (box_six (heldOn hHeld hb2)) (fun hHeld => ?_)
      clear hK K
      (try simp only [Act.put, List.setIfInBounds_toArray, List.set_cons_zero, List.set_cons_succ])
      refine wpAnyH_ready (rs := [14]) (by kernel_rfl) (by simp) ?_
      refine AllReadyH.cons rfl (fun K hK => ?_) AllReadyH.nil
      rw [if_pos (by rfl)]
      go_simp
      go_fit (i5 _)
      rintro e wm ⟨rfl, hb2⟩
      refine hK.out _ _ (box_six (heldOn hHeld hb2)) (fun hHeld => ?_)
      clear hK K
      (try simp only [Act.put, List.setIfInBounds_toArray, List.set_cons_zero, List.set_cons_succ])
      have hHeld0 := hHeld
      refine wpAnyH_ready (rs := [15]) (by kernel_rfl) (by simp) ?_
      refine AllReadyH.cons rfl (fun K hK => ?_) AllReadyH.nil
      rw [if_pos (by rfl)]
      go_simp
      refine hK.out _ _ (box_six (hHeld.2.alloc hHeld.2.size _)) (fun hHeld => ?_)
      clear hK K
      (try simp only [Act.put, List.setIfInBounds_toArray, List.set_cons_zero, List.set_cons_succ])
      refine wpAnyH_ready (rs := [16]) (by kernel_rfl) (by simp) ?_
      refine AllReadyH.cons rfl (fun K hK => ?_) AllReadyH.nil
      rw [if_pos (by rfl)]
      go_simp
      go_fit (i6 _)
      rintro e wm ⟨rfl, hb2⟩
      refine hK.out _ _ (box_six (heldOn hHeld0 hb2)) (fun hHeld => ?_)
      clear hK K
      (try simp only [Act.put, List.setIfInBounds_toArray, List.set_cons_zero, List.set_cons_succ])
      clear hHeld0
      refine takeH (i := 17) (k := 3) (v := .string X) rfl (by rfl) (by kernel_rfl) (by kernel_rfl) (by kernel_rfl) (fun _ _ _ h => h) (by rfl) ?_ hHeld ?_
      · intro w1 hSw; obtain ⟨⟨p0, p1, p2, p3, p4, p5⟩, _⟩ := hSw; go_simp
      (try simp only [Act.put, List.setIfInBounds_toArray, List.set_cons_zero, List.set_cons_succ])
      refine wpAnyH_done (by kernel_rfl) ?_ _
      obtain ⟨⟨p0, p1, p2, p3, p4, p5⟩, hb⟩ := hHeld
      go_wp2
      have hS0 := box_six hb.drew
      refine wp_region_held_drew (S := (fun W => (W.cell? ⟨w.heap.size, 0, none⟩ = some (.string k) ∧ W.cell? ⟨w.heap.size, 1, none⟩ = some (.string t) ∧ W.cell? ⟨w.heap.size, 2, none⟩ = some (.string f) ∧ W.cell? ⟨w.heap.size, 3, none⟩ = some (.string o) ∧ W.cell? ⟨w.heap.size, 4, none⟩ = some (.int .i64 n) ∧ W.cell? ⟨w.heap.size, 5, none⟩ = some (.string b)) ∧ Below (w.alloc (.cells #[.string k, .string t, .string f, .string o, .int .i64 n, .string b] 70)).heap.size (w.alloc (.cells #[.string k, .string t, .string f, .string o, .int .i64 n, .string b] 70)) W)) (by kernel_rfl) hS0 (fun hHeld => ?_)
      clear hS0 p0 p1 p2 p3 p4 p5 hb
      refine takeH (i := 0) (k := 30) (v := .string X) rfl (by rfl) (by kernel_rfl) (by kernel_rfl) (by kernel_rfl) (fun _ _ _ h => h) (by rfl) ?_ hHeld ?_
      · intro w1 hSw; obtain ⟨⟨p0, p1, p2, p3, p4, p5⟩, _⟩ := hSw; go_simp
      (try simp only [Act.put, List.setIfInBounds_toArray, List.set_cons_zero, List.set_cons_succ])
      refine takeH (i := 1) (k := 31) (v := .pointer (some ⟨w.heap.size, 5, none⟩)) rfl (by rfl) (by kernel_rfl) (by kernel_rfl) (by kernel_rfl) (fun _ _ _ h => h) (by rfl) ?_ hHeld ?_
      · intro w1 hSw; obtain ⟨⟨p0, p1, p2, p3, p4, p5⟩, _⟩ := hSw; go_simp
      (try simp only [Act.put, List.setIfInBounds_toArray, List.set_cons_zero, List.set_cons_succ])
      refine takeH (i := 2) (k := 32) (v := .string b) rfl (by rfl) (by kernel_rfl) (by kernel_rfl) (by kernel_rfl) (fun _ _ _ h => h) (by rfl) ?_ hHeld ?_
      · intro w1 hSw; obtain ⟨⟨p0, p1, p2, p3, p4, p5⟩, _⟩ := hSw; go_simp
      (try simp only [Act.put, List.setIfInBounds_toArray, List.set_cons_zero, List.set_cons_succ])
      refine takeH (i := 4) (k := 34) (v := .pointer (some ⟨w.heap.size, 0, none⟩)) rfl (by rfl) (by kernel_rfl) (by kernel_rfl) (by kernel_rfl) (fun _ _ _ h => h) (by rfl) ?_ hHeld ?_
      · intro w1 hSw; obtain ⟨⟨p0, p1, p2, p3, p4, p5⟩, _⟩ := hSw; go_simp
      (try simp only [Act.put, List.setIfInBounds_toArray, List.set_cons_zero, List.set_cons_succ])
      refine takeH (i := 5) (k := 35) (v := .string k) rfl (by rfl) (by kernel_rfl) (by kernel_rfl) (by kernel_rfl) (fun _ _ _ h => h) (by rfl) ?_ hHeld ?_
      · intro w1 hSw; obtain ⟨⟨p0, p1, p2, p3, p4, p5⟩, _⟩ := hSw; go_simp
      (try simp only [Act.put, List.setIfInBounds_toArray, List.set_cons_zero, List.set_cons_succ])
      refine wpAnyH_ready (rs := [3]) (by kernel_rfl) (by simp) ?_
      refine AllReadyH.cons rfl (fun K hK => ?_) AllReadyH.nil
      rw [if_pos (by rfl)]
      go_simp
      go_fit (j1 _)
      rintro e wm ⟨rfl, hb2⟩
      refine hK.out _ _ (box_six (heldOn hHeld hb2)) (fun hHeld => ?_)
      clear hK K
      (try simp only [Act.put, List.setIfInBounds_toArray, List.set_cons_zero, List.set_cons_succ])
      refine wpAnyH_ready (rs := [6]) (by kernel_rfl) (by simp) ?_
      refine AllReadyH.cons rfl (fun K hK => ?_) AllReadyH.nil
      rw [if_pos (by rfl)]
      go_simp
      go_fit (j2 _)
      rintro e wm ⟨rfl, hb2⟩
      refine hK.out _ _ (box_six (heldOn hHeld hb2)) (fun hHeld => ?_)
      clear hK K
      (try simp only [Act.put, List.setIfInBounds_toArray, List.set_cons_zero, List.set_cons_succ])
      have hHeld0 := hHeld
      refine wpAnyH_ready (rs := [7]) (by kernel_rfl) (by simp) ?_
      refine AllReadyH.cons rfl (fun K hK => ?_) AllReadyH.nil
      rw [if_pos (by rfl)]
      go_simp
      refine hK.out _ _ (box_six (hHeld.2.alloc hHeld.2.size _)) (fun hHeld => ?_)
      clear hK K
      (try simp only [Act.put, List.setIfInBounds_toArray, List.set_cons_zero, List.set_cons_succ])
      refine wpAnyH_ready (rs := [8]) (by kernel_rfl) (by simp) ?_
      refine AllReadyH.cons rfl (fun K hK => ?_) AllReadyH.nil
      rw [if_pos (by rfl)]
      go_simp
      go_fit (i7 _)
      rintro e wm ⟨rfl, hb2⟩
      refine hK.out _ _ (box_six (heldOn hHeld0 hb2)) (fun hHeld => ?_)
      clear hK K
      (try simp only [Act.put, List.setIfInBounds_toArray, List.set_cons_zero, List.set_cons_succ])
      clear hHeld0
      refine takeH (i := 9) (k := 2) (v := .string Z) rfl (by rfl) (by kernel_rfl) (by kernel_rfl) (by kernel_rfl) (fun _ _ _ h => h) (by rfl) ?_ hHeld ?_
      · intro w1 hSw; obtain ⟨⟨p0, p1, p2, p3, p4, p5⟩, _⟩ := hSw; go_simp
      (try simp only [Act.put, List.setIfInBounds_toArray, List.set_cons_zero, List.set_cons_succ])
      refine wpAnyH_done (by kernel_rfl) ?_ _
      obtain ⟨⟨p0, p1, p2, p3, p4, p5⟩, hb⟩ := hHeld
      go_wp2
      go_ret
      exact ⟨rfl, below_one hb⟩
  · rw [if_neg hst]
    have hst' : stB k t f o n b = false := by simpa using hst
    rw [hst'] at i0
    clear hst hst'
    go_enter Tryz.func110, Tryz.ntmps110
    go_wp2_with (go_at_call 109; go_fit (i0 _ (HM.out _ (Below.refl _ _))); rintro e w1 ⟨rfl, hb⟩)
    go_ret
    exact ⟨rfl, below_one hb⟩
set_option maxRecDepth 100000 in
set_option maxHeartbeats 4000000 in
theorem spec_sttext (k t f o : ByteArray) (n : Int) (b : ByteArray) (w : World) (hk : k.size ≤ 2000000) (ht : t.size ≤ 2000000) (hf : f.size ≤ 2000000) (ho : o.size ≤ 2000000) (hbz : b.size ≤ 2000000) :
    Calls Tryz.prog 54 #[.agg #[.string k, .string t, .string f, .string o, .int .i64 n, .string b]] w fun e w' => e = .returned (.string (stT k t f o n b)) ∧ Below w.heap.size w w' := by
  have i0 := fun w => spec_stright k t f o n b w (by unfold maxLen; omega) (by omega) (by omega) (by unfold maxLen; omega)
  have HK := Lib.hid (fun W (h : Below (w.alloc (.cells #[.string k, .string t, .string f, .string o, .int .i64 n, .string b] 70)).heap.size (w.alloc (.cells #[.string k, .string t, .string f, .string o, .int .i64 n, .string b] 70)) W) => (box_six h).1)
  unfold stT
  by_cases hst : stB k t f o n b = true
  · obtain ⟨hn0, hn1, hb4⟩ := stB_id hst
    rw [if_pos hst]
    rw [hst] at i0
    have i1 := fun w => spec_mark k t f o n b w hk ht hf ho hn0 hn1 (by omega)
    clear hst
    obtain ⟨Z, hZ⟩ : ∃ Z, Z = strOf (markL k.data.toList t.data.toList f.data.toList o.data.toList n b.data.toList) := ⟨_, rfl⟩
    rw [← hZ] at i1 ⊢
    clear hZ
    go_enter Tryz.func54, Tryz.ntmps54
    go_wp2_with (first
      | (go_at_call 68; go_fit (i0 _); rintro e w1 ⟨rfl, hb⟩; obtain ⟨c0, c1, c2, c3, c4, c5⟩ := HK.out _ hb)
      | (go_at_call 69; go_fit (i1 _); rintro e w1 ⟨rfl, hb2⟩; replace hb := hb.trans (hb2.mono hb.size)))
    go_ret
    exact ⟨rfl, below_one hb⟩
  · rw [if_neg hst]
    have hst' : stB k t f o n b = false := by simpa using hst
    rw [hst'] at i0
    clear hst hst'
    go_enter Tryz.func54, Tryz.ntmps54
    go_wp2_with (go_at_call 68; go_fit (i0 _); rintro e w1 ⟨rfl, hb⟩)
    go_ret
    exact ⟨rfl, below_one hb⟩
end Go.Proofs.YtgcfognljkebjaaGreatDoor
