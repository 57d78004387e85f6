/- The key of a stream: the program's function and the specification's. -/
import Derived.Test.YtpbogdfgomfpjaaDoorShaSpec4
import Derived.Test.YtpbogdfgomfpjaaDoorHexM
import Derived.Test.YtpbogdfgomfpjaaDoorStTextS
import Derived.Test.YtpbogdfgomfpjaaDoorStTextI
import Derived.Test.YtpbogdfgomfpjaaDoorSmHead
import Derived.Deep.RegionHeld3
namespace Go.Proofs.YtpbogdfgomfpjaaDoor
set_option linter.unusedSimpArgs false
set_option linter.unusedVariables false
open Go.RowKit

/-- The text that is hashed. -/
def kyT (t f : ByteArray) (n : Int) : ByteArray := strOf (t.data.toList ++ (32 :: (f.data.toList ++ (32 :: idL n))))
/-- Such a key can be made. -/
noncomputable def kyB (s t f : ByteArray) (n : Int) : Bool := decide (0 < s.size) && decide (s.size ≤ 100) && domB t && domB f && (decide (1 ≤ n) && decide (n ≤ 1000000000))
noncomputable def kyS (s t f : ByteArray) (n : Int) : ByteArray := if kyB s t f n = true then strOf (hexL (macIn (strOf (shaL s)) (kyT t f n))) else ⟨#[]⟩
theorem kyB_parts {s t f : ByteArray} {n : Int} (h : kyB s t f n = true) : 0 < s.size ∧ s.size ≤ 100 ∧ domB t = true ∧ domB f = true ∧ 1 ≤ n ∧ n ≤ 1000000000 := by
  unfold kyB at h
  simp only [Bool.and_eq_true, decide_eq_true_eq] at h
  obtain ⟨⟨⟨⟨h1, h2⟩, h3⟩, h4⟩, h5, h6⟩ := h
  exact ⟨h1, h2, h3, h4, h5, h6⟩
theorem kyS_no {s t f : ByteArray} {n : Int} (h : kyB s t f n = false) : kyS s t f n = ⟨#[]⟩ := by unfold kyS; rw [if_neg (by rw [h]; exact Bool.false_ne_true)]
theorem kyS_yes {s t f : ByteArray} {n : Int} (h : kyB s t f n = true) : kyS s t f n = strOf (hexL (macIn (strOf (shaL s)) (kyT t f n))) := by unfold kyS; rw [if_pos h]
theorem macIn_len (k t : ByteArray) : (macIn k t).length = 32 := by
  unfold macIn
  exact macRaw_len _ _
theorem ky_id_len {n : Int} (h0 : 0 < n) (h1 : n ≤ 1000000000) : (idL n).length ≤ 10 := by
  have : idL n = dgL n.toNat := by unfold idL dgL Lib.itoa; rw [if_neg (by omega), if_neg (by omega), if_neg (by omega)]
  rw [this]
  exact dg_len _ (by omega)
theorem kyT_size {t f : ByteArray} {n : Int} (ht : t.size ≤ 30) (hf : f.size ≤ 30) (h0 : 0 < n) (h1 : n ≤ 1000000000) : (kyT t f n).size ≤ 72 := by
  have := ky_id_len h0 h1
  unfold kyT
  rw [strOf_size, List.length_append, List.length_cons, List.length_append, List.length_cons, size_toL, size_toL]
  omega
theorem flat_ky (t f : ByteArray) (n : Int) : strOf (flat [t, ⟨#[32]⟩, f, ⟨#[32]⟩, strOf (idL n)]) = kyT t f n := by
  unfold kyT
  simp [flat, strOf_data]
set_option maxRecDepth 100000 in
set_option maxHeartbeats 1000000 in
theorem impl_maker (s : ByteArray) (w : World) (hT : Tabs w) (hs : s.size ≤ 100) :
    Calls Tryd.prog 43 #[.string s] w fun e w' => (∃ g, e = .returned (.func (.func 74) #[] #[.pointer (some ⟨g, 0, none⟩)]) ∧ w'.cell? ⟨g, 0, none⟩ = some (.string (strOf (shaL s)))) ∧ Below w.heap.size w w' := by
  have i1 := impl_digest s w hT (by omega)
  rw [digL_small (by omega)] at i1
  clear hT
  obtain ⟨K, hK⟩ : ∃ K, strOf (shaL s) = K := ⟨_, rfl⟩
  rw [hK] at i1 ⊢
  clear hK
  go_enter Tryd.func43, Tryd.ntmps43
  go_wp2_with (go_at_call 73; go_fit i1; rintro e w1 ⟨rfl, hb1⟩)
  go_ret
  exact ⟨⟨_, rfl, (Arr.fresh w1 9 [.string K]).cell 0⟩, hb1.alloc hb1.size _⟩
theorem dom_size {s : ByteArray} (h : domB s = true) : s.size ≤ 30 := by
  have := (domB_iff.1 h).2.1
  unfold partB at this
  simp at this
  omega
set_option maxRecDepth 100000 in
set_option maxHeartbeats 1000000 in
theorem impl_make1 (h t f : ByteArray) (n : Int) (g : Nat) (w : World) (hT : Tabs w) (hp : TabP w) (hh : h.size ≤ 32) (ht : t.size ≤ 30) (hf : f.size ≤ 30) (h0 : 0 < n) (h1 : n ≤ 1000000000) (hc : w.cell? ⟨g, 0, none⟩ = some (.string h)) :
    Calls Tryd.prog 74 #[.string t, .string f, .int .i64 n, .pointer (some ⟨g, 0, none⟩)] w fun e w' => e = .returned (.string (strOf (hexL (macIn h (kyT t f n))))) ∧ Below w.heap.size w w' := by
  have hg : g < w.heap.size := block_lt_of_cell hc
  have hky := kyT_size ht hf h0 h1
  have hid := ky_id_len h0 h1
  have hil : Lib.itoa n = idL n := by unfold idL; rw [if_neg (by omega)]
  have hmk : macIn h (kyT t f n) = macL h (kyT t f n) := (macL_small (by omega)).symm
  have hml : (strOf (macIn h (kyT t f n))).size = 32 := by rw [strOf_size, macIn_len]
  have i1 := fun W => Tryd.strconv_FormatInt_10 n (by omega) (by omega) W
  have i2 := fun W => joined_new W [t, ⟨#[32]⟩, f, ⟨#[32]⟩, strOf (idL n)] (by simp) (by simp [flat, strOf_data]; have := size_toL t; have := size_toL f; simp at *; omega)
  have i3 := fun W hT => impl_mac h (kyT t f n) W hT (by omega) (by omega)
  have i4 := fun W => impl_hex (strOf (macIn h (kyT t f n))) W (by rw [hml]; omega) (by rw [hml]; omega)
  rw [strOf_data] at i4
  rw [← hmk] at i3
  rw [flat_ky] at i2
  rw [hil] at i1
  obtain ⟨X, hX⟩ : ∃ X, macIn h (kyT t f n) = X := ⟨_, rfl⟩
  obtain ⟨Y, hY⟩ : ∃ Y, kyT t f n = Y := ⟨_, rfl⟩
  obtain ⟨Z, hZ⟩ : ∃ Z, strOf (idL n) = Z := ⟨_, rfl⟩
  have hidx : ∀ W, TabP W → Calls Tryd.prog 77 #[.int .i64 n, .int .i64 10] W fun e W' => e = .returned (.string Z) ∧ Below W.heap.size W W' := fun W hW => by
    refine (i1 W hW).mono ?_
    rintro e W' ⟨rfl, kk, os, rfl⟩
    exact ⟨by rw [← hZ]; rfl, Lib.below_grow _ W (Nat.le_refl _) kk os⟩
  rw [hX] at i3 i4 ⊢
  rw [hY] at i2 i3
  rw [hZ] at i2
  clear hX hY hZ hmk hml hky hid hil i1
  go_enter Tryd.func74, Tryd.ntmps74
  go_wp2
  refine wp_region_held_drew (S := fun W => W.cell? ⟨g, 0, none⟩ = some (.string h)) (by kernel_rfl) hc (fun hHeld => ?_)
  refine takeQ (i := 0) (k := 8) (v := .string h) rfl (by rfl) (by kernel_rfl) (by kernel_rfl) (by kernel_rfl) (fun _ _ _ h => h) (by rfl) ?_ hHeld ?_
  · intro w1 hSw; go_simp
  (try simp only [Act.put, List.setIfInBounds_toArray, List.set_cons_zero, List.set_cons_succ])
  refine takeQ (i := 1) (k := 9) (v := .string t) rfl (by rfl) (by kernel_rfl) (by kernel_rfl) (by kernel_rfl) (fun _ _ _ h => h) (by rfl) ?_ hHeld ?_
  · intro w1 hSw; go_simp
  (try simp only [Act.put, List.setIfInBounds_toArray, List.set_cons_zero, List.set_cons_succ])
  refine takeQ (i := 2) (k := 10) (v := .string f) rfl (by rfl) (by kernel_rfl) (by kernel_rfl) (by kernel_rfl) (fun _ _ _ h => h) (by rfl) ?_ hHeld ?_
  · intro w1 hSw; go_simp
  (try simp only [Act.put, List.setIfInBounds_toArray, List.set_cons_zero, List.set_cons_succ])
  refine takeQ (i := 3) (k := 11) (v := .int .i64 n) rfl (by rfl) (by kernel_rfl) (by kernel_rfl) (by kernel_rfl) (fun _ _ _ h => h) (by rfl) ?_ hHeld ?_
  · intro w1 hSw; go_simp
  (try simp only [Act.put, List.setIfInBounds_toArray, List.set_cons_zero, List.set_cons_succ])
  refine wpAnyH_ready (rs := [4]) (by kernel_rfl) (by simp) ?_
  refine AllReadyH.cons rfl (fun K hK => ?_) AllReadyH.nil
  rw [if_pos (by rfl)]
  go_simp
  go_fit (hidx _ (hp.below (Below.refl _ _).drew))
  rintro e w1 ⟨rfl, hb⟩
  have hb1 : Below w.heap.size w w1 := (Below.refl w.heap.size w).drew.trans hb
  refine hK.out _ _ ((hb1.cell (p := ⟨g, 0, none⟩) hg).trans hc) (fun hHeld => ?_)
  clear hK K hb
  (try simp only [Act.put, List.setIfInBounds_toArray, List.set_cons_zero, List.set_cons_succ])
  refine wpAnyH_ready (rs := [5]) (by kernel_rfl) (by simp) ?_
  refine AllReadyH.cons rfl (fun K hK => ?_) AllReadyH.nil
  rw [if_pos (by rfl)]
  go_simp
  refine hK.out _ _ (((hb1.alloc hb1.size _).cell (p := ⟨g, 0, none⟩) hg).trans hc) (fun hHeld => ?_)
  clear hK K
  (try simp only [Act.put, List.setIfInBounds_toArray, List.set_cons_zero, List.set_cons_succ])
  refine wpAnyH_ready (rs := [6]) (by kernel_rfl) (by simp) ?_
  refine AllReadyH.cons rfl (fun K hK => ?_) AllReadyH.nil
  rw [if_pos (by rfl)]
  go_simp
  go_fit (i2 w1)
  rintro e w2 ⟨rfl, hb⟩
  have hb2 : Below w.heap.size w w2 := hb1.trans (hb.mono hb1.size)
  refine hK.out _ _ ((hb2.cell (p := ⟨g, 0, none⟩) hg).trans hc) (fun hHeld => ?_)
  clear hK K hb
  (try simp only [Act.put, List.setIfInBounds_toArray, List.set_cons_zero, List.set_cons_succ])
  refine wpAnyH_ready (rs := [7]) (by kernel_rfl) (by simp) ?_
  refine AllReadyH.cons rfl (fun K hK => ?_) AllReadyH.nil
  rw [if_pos (by rfl)]
  go_simp
  go_fit (i3 w2 (hT.below hb2))
  rintro e w3 ⟨rfl, hb⟩
  have hb3 : Below w.heap.size w w3 := hb2.trans (hb.mono hb2.size)
  refine hK.out _ _ ((hb3.cell (p := ⟨g, 0, none⟩) hg).trans hc) (fun hHeld => ?_)
  clear hK K hb
  (try simp only [Act.put, List.setIfInBounds_toArray, List.set_cons_zero, List.set_cons_succ])
  refine wpAnyH_ready (rs := [8]) (by kernel_rfl) (by simp) ?_
  refine AllReadyH.cons rfl (fun K hK => ?_) AllReadyH.nil
  rw [if_pos (by rfl)]
  go_simp
  go_fit (i4 w3)
  rintro e w4 ⟨rfl, hb⟩
  have hb4 : Below w.heap.size w w4 := hb3.trans (hb.mono hb3.size)
  refine hK.out _ _ ((hb4.cell (p := ⟨g, 0, none⟩) hg).trans hc) (fun hHeld => ?_)
  clear hK K hb
  (try simp only [Act.put, List.setIfInBounds_toArray, List.set_cons_zero, List.set_cons_succ])
  refine takeQ (i := 9) (k := 7) (v := .string (strOf (hexL X))) rfl (by rfl) (by kernel_rfl) (by kernel_rfl) (by kernel_rfl) (fun _ _ _ h => h) (by rfl) ?_ hHeld ?_
  · intro w1 hSw; go_simp
  (try simp only [Act.put, List.setIfInBounds_toArray, List.set_cons_zero, List.set_cons_succ])
  refine wpAnyH_done (by kernel_rfl) ?_ _
  go_wp2
  go_ret
  exact ⟨rfl, hb4⟩
end Go.Proofs.YtpbogdfgomfpjaaDoor
