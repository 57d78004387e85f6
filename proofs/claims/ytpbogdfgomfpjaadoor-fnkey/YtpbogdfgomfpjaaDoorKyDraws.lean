/- What FnKey draws. -/
import Derived.Test.YtpbogdfgomfpjaaDoorDbKeyF
import Derived.Test.YtpbogdfgomfpjaaDoorPickDraws
import Derived.Test.YtpbogdfgomfpjaaDoorSpoilDraws
import Derived.Test.YtpbogdfgomfpjaaDoorSmJoin
namespace Go.Proofs.YtpbogdfgomfpjaaDoor
set_option linter.unusedSimpArgs false
set_option linter.unusedVariables false
open Go.RowKit

theorem zero_arr (w : World) (n : Nat) : Arr (w.alloc (.cells (madeCells #[.int .u8 0] n) 5)) w.heap.size 5 ((List.replicate n (0 : UInt8)).map byteV) := by
  have h : Arr (w.alloc (.cells (madeCells #[.int .u8 0] n) 5)) w.heap.size 5 (madeCells #[.int .u8 0] n).toList := heap_alloc_new w _
  rw [madeCells_zero] at h
  exact h
theorem conv_zero (W : World) (b n : Nat) (hA : Arr W b 5 ((List.replicate n (0 : UInt8)).map byteV)) : (convert 22 9 (.slice (some ⟨b, 0, none⟩) n n)).run Tryd.prog W = .ok (.string (strOf (List.replicate n 0))) W := by
  refine run_string_arr (P := Tryd.prog) _ 22 9 5 b 5 n n _ (List.replicate n 0) hA ?_ (by simp) Tryd.underlying22 Tryd.underlying5 Tryd.underlying9
  unfold Heads
  exact List.take_of_length_le (by simp)
theorem make_zero (n : Nat) (hn : n ≤ 1000) (u : World) : (Instr.makeSlice 22 (.int .i64 (n : Int)) (.int .i64 (n : Int))).run Tryd.prog u =
      .ok (.slice (some ⟨u.heap.size, 0, none⟩) n n) (u.alloc (.cells (madeCells #[.int .u8 0] n) 5)) := by
  obtain ⟨i0, hi, hz0, hz1, hz2⟩ := info_parts info_u8h
  have h := run_make (P := Tryd.prog) u 22 5 i0 (.int .u8 0) Tryd.underlying22 hi hz0 .i64 .i64 (n : Int) (n : Int) (by omega) (Int.le_refl _) (by rw [hz2]; omega) (by omega)
  rw [h]
  simp [hz1, Value.cells]
theorem five_row (wy : World) (z1 z2 : ByteArray) (h1 : z1.size ≤ 101) (h2 : z2.size ≤ 101) : StrRow (wy.alloc (.cells #[.string ⟨#[115]⟩, .string ⟨#[]⟩, .string ⟨#[115, 101, 99, 114, 101, 116]⟩, .string z1, .string z2] 9)) wy.heap.size 5 101 :=
  strRow_at wy 9 101 wy.heap.size [⟨#[115]⟩, ⟨#[]⟩, ⟨#[115, 101, 99, 114, 101, 116]⟩, z1, z2] rfl (by
    intro s hs
    simp only [List.mem_cons, List.not_mem_nil, or_false] at hs
    rcases hs with rfl | rfl | rfl | rfl | rfl
    · show 1 ≤ 101; omega
    · show 0 ≤ 101; omega
    · show 6 ≤ 101; omega
    · exact h1
    · exact h2)
theorem two_row (wd : World) : StrRow (wd.alloc (.cells #[.string ⟨#[97]⟩, .string ⟨#[120]⟩] 9)) wd.heap.size 2 3 :=
  strRow_at wd 9 3 wd.heap.size [⟨#[97]⟩, ⟨#[120]⟩] rfl (by
    intro s hs
    simp only [List.mem_cons, List.not_mem_nil, or_false] at hs
    rcases hs with rfl | rfl
    · show 1 ≤ 3; omega
    · show 1 ≤ 3; omega)
theorem strRow_on {w w' : World} {b n M : Nat} (h : StrRow w b n M) (hb : Below w.heap.size w w') : StrRow w' b n M := fun j hj => by
  obtain ⟨s, h1, h2⟩ := h j hj
  exact ⟨s, (hb.cell (p := ⟨b, j, none⟩) (lt_of_cell h1)).trans h1, h2⟩
theorem ints_at {W : World} {b R : Nat} (h : Arr W b 2 [.int .i64 0, .int .i64 1, .int .i64 77, .int .i64 1000000000, .int .i64 1000000001]) (h0 : (0 : Int) ≤ (R : Int)) (h1 : (R : Int) < 5 ∨ (R : Int) = 0) : ∃ n, W.cell? ⟨b, R, none⟩ = some (.int .i64 n) := by
  have e : R = 0 ∨ R = 1 ∨ R = 2 ∨ R = 3 ∨ R = 4 := by omega
  rcases e with rfl | rfl | rfl | rfl | rfl
  · exact ⟨_, h.cell 0⟩
  · exact ⟨_, h.cell 1⟩
  · exact ⟨_, h.cell 2⟩
  · exact ⟨_, h.cell 3⟩
  · exact ⟨_, h.cell 4⟩
/-- What DrawDbKey answers. -/
def KyDrawn (v : Value) : Prop := ∃ (s t f : ByteArray) (n : Int), v = .tuple #[.string s, .string t, .string f, .int .i64 n] ∧ s.size ≤ 101 ∧ t.size ≤ 3 ∧ f.size ≤ 3
set_option maxRecDepth 100000 in
set_option maxHeartbeats 3000000 in
theorem draw_key (a : Option Addr) (len cap : Nat) (w : World) (hlen : len ≤ 1048576) (hrow : SrcRow w w.heap.size a len) :
    Calls Tryd.prog 10 #[.slice a len cap] w fun e w' => (∃ v, e = .returned v ∧ KyDrawn v) ∧ Below w.heap.size w w' := by
  have hm1 : ∀ u : World, (Instr.makeSlice 22 (.int .i64 100) (.int .i64 100)).run Tryd.prog u = .ok (.slice (some ⟨u.heap.size, 0, none⟩) 100 100) (u.alloc (.cells (madeCells #[.int .u8 0] 100) 5)) := fun u => make_zero 100 (by omega) u
  have hm2 : ∀ u : World, (Instr.makeSlice 22 (.int .i64 101) (.int .i64 101)).run Tryd.prog u = .ok (.slice (some ⟨u.heap.size, 0, none⟩) 101 101) (u.alloc (.cells (madeCells #[.int .u8 0] 101) 5)) := fun u => make_zero 101 (by omega) u
  have hq1 := fun W b h => conv_zero W b 100 h
  have hq2 := fun W b h => conv_zero W b 101 h
  have ha1 := fun W => zero_arr W 100
  have ha2 := fun W => zero_arr W 101
  obtain ⟨z1, hz1⟩ : ∃ z, strOf (List.replicate 100 0) = z := ⟨_, rfl⟩
  obtain ⟨z2, hz2⟩ : ∃ z, strOf (List.replicate 101 0) = z := ⟨_, rfl⟩
  have hzz : z1.size ≤ 101 ∧ z2.size ≤ 101 := by rw [← hz1, ← hz2, strOf_size, strOf_size, List.length_replicate, List.length_replicate]; omega
  rw [hz1] at hq1
  rw [hz2] at hq2
  obtain ⟨L1, hL1⟩ : ∃ L, (List.replicate 100 (0 : UInt8)).map byteV = L := ⟨_, rfl⟩
  obtain ⟨L2, hL2⟩ : ∃ L, (List.replicate 101 (0 : UInt8)).map byteV = L := ⟨_, rfl⟩
  obtain ⟨M1, hM1⟩ : ∃ L, madeCells #[Value.int .u8 0] 100 = L := ⟨_, rfl⟩
  obtain ⟨M2, hM2⟩ : ∃ L, madeCells #[Value.int .u8 0] 101 = L := ⟨_, rfl⟩
  rw [hL1] at hq1 ha1
  rw [hL2] at hq2 ha2
  rw [hM1] at hm1 ha1
  rw [hM2] at hm2 ha2
  clear hz1 hz2 hL1 hL2 hM1 hM2
  have HR := Lib.hid hrow
  clear hrow
  go_enter Tryd.func10, Tryd.ntmps10
  go_wp2_with (go_at_call 38; refine (src_source a len cap _ hlen HR.out).mono ?_; rintro e w1 ⟨rfl, hS1, hb1⟩)
  refine region_join [11, 12, 13, 14, 15, 16, 17, 7] (fun vs W => ∃ s : ByteArray, vs 7 = .string s ∧ s.size ≤ 101 ∧ Src W w.heap.size w.heap.size ∧ w1.grownBy W (some w.heap.size)) ?_ ?_
  · refine wp_region_held_drew (S := fun _ => True) (by kernel_rfl) trivial (fun hHeld => ?_)
    have hS2 : Src w1.drew w.heap.size w.heap.size := hS1.on (Below.refl _ _).drew
    have hgd : w1.grownBy w1.drew (some w.heap.size) := grown_drew (World.grownBy.refl w1 _)
    generalize w1.drew = wd at hS2 hgd hHeld ⊢
    refine takeQ (i := 0) (k := 11) (v := .pointer (some ⟨w.heap.size, 0, none⟩)) rfl (by rfl) (by kernel_rfl) (by kernel_rfl) (by kernel_rfl) (fun _ _ _ h => h) (by rfl) ?_ hHeld ?_
    · intro w1 hSw; go_simp
    (try simp only [Act.put, List.setIfInBounds_toArray, List.set_cons_zero, List.set_cons_succ])
    refine wpAnyH_ready (rs := [1, 3]) (by kernel_rfl) (by simp) ?_
    refine AllReadyH.cons rfl (fun K hK => ?_) (AllReadyH.cons rfl (fun K hK => ?_) AllReadyH.nil)
    · rw [if_pos (by rfl)]
      go_simp
      refine hK.out _ _ trivial (fun hHeld => ?_)
      clear hK K
      (try simp only [Act.put, List.setIfInBounds_toArray, List.set_cons_zero, List.set_cons_succ])
      refine wpAnyH_ready (rs := [2, 3]) (by kernel_rfl) (by simp) ?_
      refine AllReadyH.cons rfl (fun K hK => ?_) (AllReadyH.cons rfl (fun K hK => ?_) AllReadyH.nil)
      · rw [if_pos (by rfl)]
        have hcv := hq1 (wd.alloc (.cells M1 5)) (wd.heap.size) (ha1 wd)
        go_simp
        clear hcv
        refine hK.out _ _ trivial (fun hHeld => ?_)
        clear hK K
        (try simp only [Act.put, List.setIfInBounds_toArray, List.set_cons_zero, List.set_cons_succ])
        refine wpAnyH_ready (rs := [3]) (by kernel_rfl) (by simp) ?_
        refine AllReadyH.cons rfl (fun K hK => ?_) AllReadyH.nil
        rw [if_pos (by rfl)]
        go_simp
        refine hK.out _ _ trivial (fun hHeld => ?_)
        clear hK K
        (try simp only [Act.put, List.setIfInBounds_toArray, List.set_cons_zero, List.set_cons_succ])
        refine wpAnyH_ready (rs := [4]) (by kernel_rfl) (by simp) ?_
        refine AllReadyH.cons rfl (fun K hK => ?_) AllReadyH.nil
        rw [if_pos (by rfl)]
        have hcv := hq2 ((wd.alloc (.cells M1 5)).alloc (.cells M2 5)) (wd.heap.size + 1) ((by have h := ha2 (wd.alloc (.cells M1 5)); rw [World.size_alloc] at h; exact h))
        go_simp
        clear hcv
        refine hK.out _ _ trivial (fun hHeld => ?_)
        clear hK K
        (try simp only [Act.put, List.setIfInBounds_toArray, List.set_cons_zero, List.set_cons_succ])
        generalize hwy : ((wd.alloc (.cells M1 5)).alloc (.cells M2 5)) = wy at hHeld ⊢
        have hsy : Src wy w.heap.size w.heap.size := by rw [← hwy]; exact (hS2.alloc _).alloc _
        have hgy : w1.grownBy wy (some w.heap.size) := by rw [← hwy]; exact grown_alloc (grown_alloc hgd _) _
        clear hwy
        refine wpAnyH_ready (rs := [5]) (by kernel_rfl) (by simp) ?_
        refine AllReadyH.cons rfl (fun K hK => ?_) AllReadyH.nil
        rw [if_pos (by rfl)]
        go_simp
        refine hK.out _ _ trivial (fun hHeld => ?_)
        clear hK K
        (try simp only [Act.put, List.setIfInBounds_toArray, List.set_cons_zero, List.set_cons_succ])
        refine wpAnyH_ready (rs := [6]) (by kernel_rfl) (by simp) ?_
        refine AllReadyH.cons rfl (fun K hK => ?_) AllReadyH.nil
        rw [if_pos (by rfl)]
        go_simp
        go_fit (src_pick w.heap.size w.heap.size wy.heap.size 5 101 _ (by omega) (by omega) (hsy.alloc _) (by have := hsy.lt; omega) (five_row wy z1 z2 hzz.1 hzz.2))
        rintro e w3 ⟨_, rfl, ⟨s, rfl, hs⟩, hS3, hg3⟩
        refine hK.out _ _ trivial (fun hHeld => ?_)
        clear hK K
        (try simp only [Act.put, List.setIfInBounds_toArray, List.set_cons_zero, List.set_cons_succ])
        refine takeQ (i := 7) (k := 7) (v := .string s) rfl (by rfl) (by kernel_rfl) (by kernel_rfl) (by kernel_rfl) (fun _ _ _ h => h) (by rfl) ?_ hHeld ?_
        · intro w1 hSw; go_simp
        (try simp only [Act.put, List.setIfInBounds_toArray, List.set_cons_zero, List.set_cons_succ])
        refine wpAnyH_done (by kernel_rfl) ?_ _
        exact ⟨⟨s, rfl, hs, hS3, (grown_alloc hgy _).trans hg3⟩, by simp only [putAll, Act.put, List.setIfInBounds_toArray, List.set_cons_zero, List.set_cons_succ]; rfl⟩
      · rw [if_pos (by rfl)]
        go_simp
        refine hK.out _ _ trivial (fun hHeld => ?_)
        clear hK K
        (try simp only [Act.put, List.setIfInBounds_toArray, List.set_cons_zero, List.set_cons_succ])
        refine wpAnyH_ready (rs := [2, 4]) (by kernel_rfl) (by simp) ?_
        refine AllReadyH.cons rfl (fun K hK => ?_) (AllReadyH.cons rfl (fun K hK => ?_) AllReadyH.nil)
        · rw [if_pos (by rfl)]
          have hcv := hq1 ((wd.alloc (.cells M1 5)).alloc (.cells M2 5)) (wd.heap.size) ((ha1 wd).alloc _)
          go_simp
          clear hcv
          refine hK.out _ _ trivial (fun hHeld => ?_)
          clear hK K
          (try simp only [Act.put, List.setIfInBounds_toArray, List.set_cons_zero, List.set_cons_succ])
          refine wpAnyH_ready (rs := [4]) (by kernel_rfl) (by simp) ?_
          refine AllReadyH.cons rfl (fun K hK => ?_) AllReadyH.nil
          rw [if_pos (by rfl)]
          have hcv := hq2 ((wd.alloc (.cells M1 5)).alloc (.cells M2 5)) (wd.heap.size + 1) ((by have h := ha2 (wd.alloc (.cells M1 5)); rw [World.size_alloc] at h; exact h))
          go_simp
          clear hcv
          refine hK.out _ _ trivial (fun hHeld => ?_)
          clear hK K
          (try simp only [Act.put, List.setIfInBounds_toArray, List.set_cons_zero, List.set_cons_succ])
          generalize hwy : ((wd.alloc (.cells M1 5)).alloc (.cells M2 5)) = wy at hHeld ⊢
          have hsy : Src wy w.heap.size w.heap.size := by rw [← hwy]; exact (hS2.alloc _).alloc _
          have hgy : w1.grownBy wy (some w.heap.size) := by rw [← hwy]; exact grown_alloc (grown_alloc hgd _) _
          clear hwy
          refine wpAnyH_ready (rs := [5]) (by kernel_rfl) (by simp) ?_
          refine AllReadyH.cons rfl (fun K hK => ?_) AllReadyH.nil
          rw [if_pos (by rfl)]
          go_simp
          refine hK.out _ _ trivial (fun hHeld => ?_)
          clear hK K
          (try simp only [Act.put, List.setIfInBounds_toArray, List.set_cons_zero, List.set_cons_succ])
          refine wpAnyH_ready (rs := [6]) (by kernel_rfl) (by simp) ?_
          refine AllReadyH.cons rfl (fun K hK => ?_) AllReadyH.nil
          rw [if_pos (by rfl)]
          go_simp
          go_fit (src_pick w.heap.size w.heap.size wy.heap.size 5 101 _ (by omega) (by omega) (hsy.alloc _) (by have := hsy.lt; omega) (five_row wy z1 z2 hzz.1 hzz.2))
          rintro e w3 ⟨_, rfl, ⟨s, rfl, hs⟩, hS3, hg3⟩
          refine hK.out _ _ trivial (fun hHeld => ?_)
          clear hK K
          (try simp only [Act.put, List.setIfInBounds_toArray, List.set_cons_zero, List.set_cons_succ])
          refine takeQ (i := 7) (k := 7) (v := .string s) rfl (by rfl) (by kernel_rfl) (by kernel_rfl) (by kernel_rfl) (fun _ _ _ h => h) (by rfl) ?_ hHeld ?_
          · intro w1 hSw; go_simp
          (try simp only [Act.put, List.setIfInBounds_toArray, List.set_cons_zero, List.set_cons_succ])
          refine wpAnyH_done (by kernel_rfl) ?_ _
          exact ⟨⟨s, rfl, hs, hS3, (grown_alloc hgy _).trans hg3⟩, by simp only [putAll, Act.put, List.setIfInBounds_toArray, List.set_cons_zero, List.set_cons_succ]; rfl⟩
        · rw [if_pos (by rfl)]
          have hcv := hq2 ((wd.alloc (.cells M1 5)).alloc (.cells M2 5)) (wd.heap.size + 1) ((by have h := ha2 (wd.alloc (.cells M1 5)); rw [World.size_alloc] at h; exact h))
          go_simp
          clear hcv
          refine hK.out _ _ trivial (fun hHeld => ?_)
          clear hK K
          (try simp only [Act.put, List.setIfInBounds_toArray, List.set_cons_zero, List.set_cons_succ])
          refine wpAnyH_ready (rs := [2]) (by kernel_rfl) (by simp) ?_
          refine AllReadyH.cons rfl (fun K hK => ?_) AllReadyH.nil
          rw [if_pos (by rfl)]
          have hcv := hq1 ((wd.alloc (.cells M1 5)).alloc (.cells M2 5)) (wd.heap.size) ((ha1 wd).alloc _)
          go_simp
          clear hcv
          refine hK.out _ _ trivial (fun hHeld => ?_)
          clear hK K
          (try simp only [Act.put, List.setIfInBounds_toArray, List.set_cons_zero, List.set_cons_succ])
          generalize hwy : ((wd.alloc (.cells M1 5)).alloc (.cells M2 5)) = wy at hHeld ⊢
          have hsy : Src wy w.heap.size w.heap.size := by rw [← hwy]; exact (hS2.alloc _).alloc _
          have hgy : w1.grownBy wy (some w.heap.size) := by rw [← hwy]; exact grown_alloc (grown_alloc hgd _) _
          clear hwy
          refine wpAnyH_ready (rs := [5]) (by kernel_rfl) (by simp) ?_
          refine AllReadyH.cons rfl (fun K hK => ?_) AllReadyH.nil
          rw [if_pos (by rfl)]
          go_simp
          refine hK.out _ _ trivial (fun hHeld => ?_)
          clear hK K
          (try simp only [Act.put, List.setIfInBounds_toArray, List.set_cons_zero, List.set_cons_succ])
          refine wpAnyH_ready (rs := [6]) (by kernel_rfl) (by simp) ?_
          refine AllReadyH.cons rfl (fun K hK => ?_) AllReadyH.nil
          rw [if_pos (by rfl)]
          go_simp
          go_fit (src_pick w.heap.size w.heap.size wy.heap.size 5 101 _ (by omega) (by omega) (hsy.alloc _) (by have := hsy.lt; omega) (five_row wy z1 z2 hzz.1 hzz.2))
          rintro e w3 ⟨_, rfl, ⟨s, rfl, hs⟩, hS3, hg3⟩
          refine hK.out _ _ trivial (fun hHeld => ?_)
          clear hK K
          (try simp only [Act.put, List.setIfInBounds_toArray, List.set_cons_zero, List.set_cons_succ])
          refine takeQ (i := 7) (k := 7) (v := .string s) rfl (by rfl) (by kernel_rfl) (by kernel_rfl) (by kernel_rfl) (fun _ _ _ h => h) (by rfl) ?_ hHeld ?_
          · intro w1 hSw; go_simp
          (try simp only [Act.put, List.setIfInBounds_toArray, List.set_cons_zero, List.set_cons_succ])
          refine wpAnyH_done (by kernel_rfl) ?_ _
          exact ⟨⟨s, rfl, hs, hS3, (grown_alloc hgy _).trans hg3⟩, by simp only [putAll, Act.put, List.setIfInBounds_toArray, List.set_cons_zero, List.set_cons_succ]; rfl⟩
    · rw [if_pos (by rfl)]
      go_simp
      refine hK.out _ _ trivial (fun hHeld => ?_)
      clear hK K
      (try simp only [Act.put, List.setIfInBounds_toArray, List.set_cons_zero, List.set_cons_succ])
      refine wpAnyH_ready (rs := [1, 4]) (by kernel_rfl) (by simp) ?_
      refine AllReadyH.cons rfl (fun K hK => ?_) (AllReadyH.cons rfl (fun K hK => ?_) AllReadyH.nil)
      · rw [if_pos (by rfl)]
        go_simp
        refine hK.out _ _ trivial (fun hHeld => ?_)
        clear hK K
        (try simp only [Act.put, List.setIfInBounds_toArray, List.set_cons_zero, List.set_cons_succ])
        refine wpAnyH_ready (rs := [2, 4]) (by kernel_rfl) (by simp) ?_
        refine AllReadyH.cons rfl (fun K hK => ?_) (AllReadyH.cons rfl (fun K hK => ?_) AllReadyH.nil)
        · rw [if_pos (by rfl)]
          have hcv := hq1 ((wd.alloc (.cells M2 5)).alloc (.cells M1 5)) (wd.heap.size + 1) ((by have h := ha1 (wd.alloc (.cells M2 5)); rw [World.size_alloc] at h; exact h))
          go_simp
          clear hcv
          refine hK.out _ _ trivial (fun hHeld => ?_)
          clear hK K
          (try simp only [Act.put, List.setIfInBounds_toArray, List.set_cons_zero, List.set_cons_succ])
          refine wpAnyH_ready (rs := [4]) (by kernel_rfl) (by simp) ?_
          refine AllReadyH.cons rfl (fun K hK => ?_) AllReadyH.nil
          rw [if_pos (by rfl)]
          have hcv := hq2 ((wd.alloc (.cells M2 5)).alloc (.cells M1 5)) (wd.heap.size) ((ha2 wd).alloc _)
          go_simp
          clear hcv
          refine hK.out _ _ trivial (fun hHeld => ?_)
          clear hK K
          (try simp only [Act.put, List.setIfInBounds_toArray, List.set_cons_zero, List.set_cons_succ])
          generalize hwy : ((wd.alloc (.cells M2 5)).alloc (.cells M1 5)) = wy at hHeld ⊢
          have hsy : Src wy w.heap.size w.heap.size := by rw [← hwy]; exact (hS2.alloc _).alloc _
          have hgy : w1.grownBy wy (some w.heap.size) := by rw [← hwy]; exact grown_alloc (grown_alloc hgd _) _
          clear hwy
          refine wpAnyH_ready (rs := [5]) (by kernel_rfl) (by simp) ?_
          refine AllReadyH.cons rfl (fun K hK => ?_) AllReadyH.nil
          rw [if_pos (by rfl)]
          go_simp
          refine hK.out _ _ trivial (fun hHeld => ?_)
          clear hK K
          (try simp only [Act.put, List.setIfInBounds_toArray, List.set_cons_zero, List.set_cons_succ])
          refine wpAnyH_ready (rs := [6]) (by kernel_rfl) (by simp) ?_
          refine AllReadyH.cons rfl (fun K hK => ?_) AllReadyH.nil
          rw [if_pos (by rfl)]
          go_simp
          go_fit (src_pick w.heap.size w.heap.size wy.heap.size 5 101 _ (by omega) (by omega) (hsy.alloc _) (by have := hsy.lt; omega) (five_row wy z1 z2 hzz.1 hzz.2))
          rintro e w3 ⟨_, rfl, ⟨s, rfl, hs⟩, hS3, hg3⟩
          refine hK.out _ _ trivial (fun hHeld => ?_)
          clear hK K
          (try simp only [Act.put, List.setIfInBounds_toArray, List.set_cons_zero, List.set_cons_succ])
          refine takeQ (i := 7) (k := 7) (v := .string s) rfl (by rfl) (by kernel_rfl) (by kernel_rfl) (by kernel_rfl) (fun _ _ _ h => h) (by rfl) ?_ hHeld ?_
          · intro w1 hSw; go_simp
          (try simp only [Act.put, List.setIfInBounds_toArray, List.set_cons_zero, List.set_cons_succ])
          refine wpAnyH_done (by kernel_rfl) ?_ _
          exact ⟨⟨s, rfl, hs, hS3, (grown_alloc hgy _).trans hg3⟩, by simp only [putAll, Act.put, List.setIfInBounds_toArray, List.set_cons_zero, List.set_cons_succ]; rfl⟩
        · rw [if_pos (by rfl)]
          have hcv := hq2 ((wd.alloc (.cells M2 5)).alloc (.cells M1 5)) (wd.heap.size) ((ha2 wd).alloc _)
          go_simp
          clear hcv
          refine hK.out _ _ trivial (fun hHeld => ?_)
          clear hK K
          (try simp only [Act.put, List.setIfInBounds_toArray, List.set_cons_zero, List.set_cons_succ])
          refine wpAnyH_ready (rs := [2]) (by kernel_rfl) (by simp) ?_
          refine AllReadyH.cons rfl (fun K hK => ?_) AllReadyH.nil
          rw [if_pos (by rfl)]
          have hcv := hq1 ((wd.alloc (.cells M2 5)).alloc (.cells M1 5)) (wd.heap.size + 1) ((by have h := ha1 (wd.alloc (.cells M2 5)); rw [World.size_alloc] at h; exact h))
          go_simp
          clear hcv
          refine hK.out _ _ trivial (fun hHeld => ?_)
          clear hK K
          (try simp only [Act.put, List.setIfInBounds_toArray, List.set_cons_zero, List.set_cons_succ])
          generalize hwy : ((wd.alloc (.cells M2 5)).alloc (.cells M1 5)) = wy at hHeld ⊢
          have hsy : Src wy w.heap.size w.heap.size := by rw [← hwy]; exact (hS2.alloc _).alloc _
          have hgy : w1.grownBy wy (some w.heap.size) := by rw [← hwy]; exact grown_alloc (grown_alloc hgd _) _
          clear hwy
          refine wpAnyH_ready (rs := [5]) (by kernel_rfl) (by simp) ?_
          refine AllReadyH.cons rfl (fun K hK => ?_) AllReadyH.nil
          rw [if_pos (by rfl)]
          go_simp
          refine hK.out _ _ trivial (fun hHeld => ?_)
          clear hK K
          (try simp only [Act.put, List.setIfInBounds_toArray, List.set_cons_zero, List.set_cons_succ])
          refine wpAnyH_ready (rs := [6]) (by kernel_rfl) (by simp) ?_
          refine AllReadyH.cons rfl (fun K hK => ?_) AllReadyH.nil
          rw [if_pos (by rfl)]
          go_simp
          go_fit (src_pick w.heap.size w.heap.size wy.heap.size 5 101 _ (by omega) (by omega) (hsy.alloc _) (by have := hsy.lt; omega) (five_row wy z1 z2 hzz.1 hzz.2))
          rintro e w3 ⟨_, rfl, ⟨s, rfl, hs⟩, hS3, hg3⟩
          refine hK.out _ _ trivial (fun hHeld => ?_)
          clear hK K
          (try simp only [Act.put, List.setIfInBounds_toArray, List.set_cons_zero, List.set_cons_succ])
          refine takeQ (i := 7) (k := 7) (v := .string s) rfl (by rfl) (by kernel_rfl) (by kernel_rfl) (by kernel_rfl) (fun _ _ _ h => h) (by rfl) ?_ hHeld ?_
          · intro w1 hSw; go_simp
          (try simp only [Act.put, List.setIfInBounds_toArray, List.set_cons_zero, List.set_cons_succ])
          refine wpAnyH_done (by kernel_rfl) ?_ _
          exact ⟨⟨s, rfl, hs, hS3, (grown_alloc hgy _).trans hg3⟩, by simp only [putAll, Act.put, List.setIfInBounds_toArray, List.set_cons_zero, List.set_cons_succ]; rfl⟩
      · rw [if_pos (by rfl)]
        have hcv := hq2 (wd.alloc (.cells M2 5)) (wd.heap.size) (ha2 wd)
        go_simp
        clear hcv
        refine hK.out _ _ trivial (fun hHeld => ?_)
        clear hK K
        (try simp only [Act.put, List.setIfInBounds_toArray, List.set_cons_zero, List.set_cons_succ])
        refine wpAnyH_ready (rs := [1]) (by kernel_rfl) (by simp) ?_
        refine AllReadyH.cons rfl (fun K hK => ?_) AllReadyH.nil
        rw [if_pos (by rfl)]
        go_simp
        refine hK.out _ _ trivial (fun hHeld => ?_)
        clear hK K
        (try simp only [Act.put, List.setIfInBounds_toArray, List.set_cons_zero, List.set_cons_succ])
        refine wpAnyH_ready (rs := [2]) (by kernel_rfl) (by simp) ?_
        refine AllReadyH.cons rfl (fun K hK => ?_) AllReadyH.nil
        rw [if_pos (by rfl)]
        have hcv := hq1 ((wd.alloc (.cells M2 5)).alloc (.cells M1 5)) (wd.heap.size + 1) ((by have h := ha1 (wd.alloc (.cells M2 5)); rw [World.size_alloc] at h; exact h))
        go_simp
        clear hcv
        refine hK.out _ _ trivial (fun hHeld => ?_)
        clear hK K
        (try simp only [Act.put, List.setIfInBounds_toArray, List.set_cons_zero, List.set_cons_succ])
        generalize hwy : ((wd.alloc (.cells M2 5)).alloc (.cells M1 5)) = wy at hHeld ⊢
        have hsy : Src wy w.heap.size w.heap.size := by rw [← hwy]; exact (hS2.alloc _).alloc _
        have hgy : w1.grownBy wy (some w.heap.size) := by rw [← hwy]; exact grown_alloc (grown_alloc hgd _) _
        clear hwy
        refine wpAnyH_ready (rs := [5]) (by kernel_rfl) (by simp) ?_
        refine AllReadyH.cons rfl (fun K hK => ?_) AllReadyH.nil
        rw [if_pos (by rfl)]
        go_simp
        refine hK.out _ _ trivial (fun hHeld => ?_)
        clear hK K
        (try simp only [Act.put, List.setIfInBounds_toArray, List.set_cons_zero, List.set_cons_succ])
        refine wpAnyH_ready (rs := [6]) (by kernel_rfl) (by simp) ?_
        refine AllReadyH.cons rfl (fun K hK => ?_) AllReadyH.nil
        rw [if_pos (by rfl)]
        go_simp
        go_fit (src_pick w.heap.size w.heap.size wy.heap.size 5 101 _ (by omega) (by omega) (hsy.alloc _) (by have := hsy.lt; omega) (five_row wy z1 z2 hzz.1 hzz.2))
        rintro e w3 ⟨_, rfl, ⟨s, rfl, hs⟩, hS3, hg3⟩
        refine hK.out _ _ trivial (fun hHeld => ?_)
        clear hK K
        (try simp only [Act.put, List.setIfInBounds_toArray, List.set_cons_zero, List.set_cons_succ])
        refine takeQ (i := 7) (k := 7) (v := .string s) rfl (by rfl) (by kernel_rfl) (by kernel_rfl) (by kernel_rfl) (fun _ _ _ h => h) (by rfl) ?_ hHeld ?_
        · intro w1 hSw; go_simp
        (try simp only [Act.put, List.setIfInBounds_toArray, List.set_cons_zero, List.set_cons_succ])
        refine wpAnyH_done (by kernel_rfl) ?_ _
        exact ⟨⟨s, rfl, hs, hS3, (grown_alloc hgy _).trans hg3⟩, by simp only [putAll, Act.put, List.setIfInBounds_toArray, List.set_cons_zero, List.set_cons_succ]; rfl⟩
  · rintro vs w3 ⟨s, hv7, hs, hS3, hg3⟩
    have hb3 := src_below hb1 hg3
    clear hg3 hb1 hS1 hm1 hm2
    simp only [putAll, Act.put, List.setIfInBounds_toArray, List.set_cons_zero, List.set_cons_succ]
    rw [hv7]
    clear hv7 hq1 hq2 ha1 ha2
    go_wp2_with (go_at_call 39; go_fit (src_pick w.heap.size w.heap.size w3.heap.size 3 3 _ (by omega) (by omega) (hS3.alloc _) (by have := hS3.lt; omega) (strRow_at w3 9 3 w3.heap.size [⟨#[97]⟩, ⟨#[98, 46, 99]⟩, ⟨#[65]⟩] rfl (by intro s hs; simp only [List.mem_cons, List.not_mem_nil, or_false] at hs; rcases hs with rfl | rfl | rfl <;> first | (show 1 ≤ 3; omega) | (show 3 ≤ 3; omega)))); rintro e w4 ⟨_, rfl, ⟨t, rfl, ht⟩, hS4, hg4⟩; have hb4 := src_below (hb3.alloc hb3.size _) hg4; clear hg4 hb3 hS3)
    refine region_join [21, 22, 23, 24, 25, 26, 27, 28, 29, 30, 2, 3, 4, 5] (fun vs W => ∃ (f : ByteArray) (n : Int), vs 2 = .string s ∧ vs 3 = .string t ∧ vs 4 = .string f ∧ vs 5 = .int .i64 n ∧ f.size ≤ 3 ∧ Below w.heap.size w W) ?_ ?_
    · refine wp_region_held_drew (S := fun _ => True) (by kernel_rfl) trivial (fun hHeld => ?_)
      have hS5 : Src w4.drew w.heap.size w.heap.size := hS4.on (Below.refl _ _).drew
      have hb5 : Below w.heap.size w w4.drew := hb4.drew
      generalize w4.drew = wd at hS5 hb5 hHeld ⊢
      clear hS4 hb4
      refine takeQ (i := 0) (k := 21) (v := .string s) rfl (by rfl) (by kernel_rfl) (by kernel_rfl) (by kernel_rfl) (fun _ _ _ h => h) (by rfl) ?_ hHeld ?_
      · intro w1 hSw; go_simp
      (try simp only [Act.put, List.setIfInBounds_toArray, List.set_cons_zero, List.set_cons_succ])
      refine takeQ (i := 1) (k := 22) (v := .string t) rfl (by rfl) (by kernel_rfl) (by kernel_rfl) (by kernel_rfl) (fun _ _ _ h => h) (by rfl) ?_ hHeld ?_
      · intro w1 hSw; go_simp
      (try simp only [Act.put, List.setIfInBounds_toArray, List.set_cons_zero, List.set_cons_succ])
      refine takeQ (i := 2) (k := 23) (v := .pointer (some ⟨w.heap.size, 0, none⟩)) rfl (by rfl) (by kernel_rfl) (by kernel_rfl) (by kernel_rfl) (fun _ _ _ h => h) (by rfl) ?_ hHeld ?_
      · intro w1 hSw; go_simp
      (try simp only [Act.put, List.setIfInBounds_toArray, List.set_cons_zero, List.set_cons_succ])
      refine takeQ (i := 6) (k := 27) (v := .pointer (some ⟨w.heap.size, 0, none⟩)) rfl (by rfl) (by kernel_rfl) (by kernel_rfl) (by kernel_rfl) (fun _ _ _ h => h) (by rfl) ?_ hHeld ?_
      · intro w1 hSw; go_simp
      (try simp only [Act.put, List.setIfInBounds_toArray, List.set_cons_zero, List.set_cons_succ])
      refine wpAnyH_ready (rs := [3, 5]) (by kernel_rfl) (by simp) ?_
      refine AllReadyH.cons rfl (fun K hK => ?_) (AllReadyH.cons rfl (fun K hK => ?_) AllReadyH.nil)
      · rw [if_pos (by rfl)]
        go_simp
        refine hK.out _ _ trivial (fun hHeld => ?_)
        clear hK K
        (try simp only [Act.put, List.setIfInBounds_toArray, List.set_cons_zero, List.set_cons_succ])
        have hSz := hS5
        have hP : StrRow (wd.alloc (.cells #[.string ⟨#[97]⟩, .string ⟨#[120]⟩] 9)) wd.heap.size 2 3 := two_row wd
        have hpb : wd.heap.size ≠ w.heap.size := by have := hS5.lt; omega
        have hbz := hb5.alloc hb5.size (.cells #[.string ⟨#[97]⟩, .string ⟨#[120]⟩] 9)
        have hSz := hS5.alloc (.cells #[.string ⟨#[97]⟩, .string ⟨#[120]⟩] 9)
        have hpl : wd.heap.size < (wd.alloc (.cells #[.string ⟨#[97]⟩, .string ⟨#[120]⟩] 9)).heap.size := by simp
        clear hS5 hb5
        generalize hbp : wd.heap.size = bp at hP hpb hpl ⊢
        clear hbp
        generalize wd.alloc _ = wd at hP hbz hSz hpl hHeld ⊢
        have hS5 := hSz
        have hb5 := hbz
        clear hSz hbz
        refine wpAnyH_ready (rs := [4, 5]) (by kernel_rfl) (by simp) ?_
        refine AllReadyH.cons rfl (fun K hK => ?_) (AllReadyH.cons rfl (fun K hK => ?_) AllReadyH.nil)
        · rw [if_pos (by rfl)]
          go_simp
          go_fit (src_pick w.heap.size w.heap.size bp 2 3 _ (by omega) (by omega) hS5 hpb hP)
          rintro e wx ⟨_, rfl, ⟨f, rfl, hf⟩, hSz, hgz⟩
          have hbz := below_grown hb5 hb5.size hgz (Nat.le_refl _)
          refine hK.out _ _ trivial (fun hHeld => ?_)
          clear hK K
          (try simp only [Act.put, List.setIfInBounds_toArray, List.set_cons_zero, List.set_cons_succ])
          clear hS5 hb5 hgz
          have hS5 := hSz
          have hb5 := hbz
          clear hSz hbz hP
          generalize wx = wd at hS5 hb5 hHeld ⊢
          refine wpAnyH_ready (rs := [5, 7]) (by kernel_rfl) (by simp) ?_
          refine AllReadyH.cons rfl (fun K hK => ?_) (AllReadyH.cons rfl (fun K hK => ?_) AllReadyH.nil)
          · rw [if_pos (by rfl)]
            go_simp
            refine hK.out _ _ trivial (fun hHeld => ?_)
            clear hK K
            (try simp only [Act.put, List.setIfInBounds_toArray, List.set_cons_zero, List.set_cons_succ])
            have hI : Arr (wd.alloc (.cells #[.int .i64 0, .int .i64 1, .int .i64 77, .int .i64 1000000000, .int .i64 1000000001] 2)) wd.heap.size 2 [.int .i64 0, .int .i64 1, .int .i64 77, .int .i64 1000000000, .int .i64 1000000001] := Arr.fresh wd _ _
            have hib : wd.heap.size ≠ w.heap.size := by have := hS5.lt; omega
            have hbz := hb5.alloc hb5.size (.cells #[.int .i64 0, .int .i64 1, .int .i64 77, .int .i64 1000000000, .int .i64 1000000001] 2)
            have hSz := hS5.alloc (.cells #[.int .i64 0, .int .i64 1, .int .i64 77, .int .i64 1000000000, .int .i64 1000000001] 2)
            generalize hbi : wd.heap.size = bi at hI hib ⊢
            clear hbi hS5 hb5
            generalize wd.alloc _ = wd at hI hbz hSz hHeld ⊢
            have hS5 := hSz
            have hb5 := hbz
            clear hSz hbz
            refine wpAnyH_ready (rs := [7]) (by kernel_rfl) (by simp) ?_
            refine AllReadyH.cons rfl (fun K hK => ?_) AllReadyH.nil
            rw [if_pos (by rfl)]
            go_simp
            go_fit (src_n w.heap.size w.heap.size 5 _ (by omega) hS5)
            rintro e wx ⟨_, rfl, ⟨r, rfl, hr0, hr1⟩, hSz, hgz⟩
            obtain ⟨R, rfl⟩ : ∃ R : Nat, r = R := ⟨r.toNat, by omega⟩
            have hr5 : (R : Int) < 5 := by omega
            have hbz := below_grown hb5 hb5.size hgz (Nat.le_refl _)
            have hI := hI.other hgz (fun e => hib (by injection e with e; exact e.symm))
            refine hK.out _ _ trivial (fun hHeld => ?_)
            clear hK K
            (try simp only [Act.put, List.setIfInBounds_toArray, List.set_cons_zero, List.set_cons_succ])
            clear hS5 hb5 hgz
            have hS5 := hSz
            have hb5 := hbz
            clear hSz hbz
            generalize wx = wd at hS5 hb5 hHeld hI ⊢
            refine takeQ (i := 10) (k := 2) (v := .string s) rfl (by rfl) (by kernel_rfl) (by kernel_rfl) (by kernel_rfl) (fun _ _ _ h => h) (by rfl) ?_ hHeld ?_
            · intro w1 hSw; go_simp
            (try simp only [Act.put, List.setIfInBounds_toArray, List.set_cons_zero, List.set_cons_succ])
            refine takeQ (i := 11) (k := 3) (v := .string t) rfl (by rfl) (by kernel_rfl) (by kernel_rfl) (by kernel_rfl) (fun _ _ _ h => h) (by rfl) ?_ hHeld ?_
            · intro w1 hSw; go_simp
            (try simp only [Act.put, List.setIfInBounds_toArray, List.set_cons_zero, List.set_cons_succ])
            refine takeQ (i := 12) (k := 4) (v := .string f) rfl (by rfl) (by kernel_rfl) (by kernel_rfl) (by kernel_rfl) (fun _ _ _ h => h) (by rfl) ?_ hHeld ?_
            · intro w1 hSw; go_simp
            (try simp only [Act.put, List.setIfInBounds_toArray, List.set_cons_zero, List.set_cons_succ])
            obtain ⟨n, hn⟩ := ints_at hI hr0 hr1
            refine takeQ (i := 8) (k := 29) (v := .pointer (some ⟨bi, R, none⟩)) rfl (by rfl) (by kernel_rfl) (by kernel_rfl) (by kernel_rfl) (fun _ _ _ h => h) (by rfl) ?_ hHeld ?_
            · intro w1 hSw; go_simp
            (try simp only [Act.put, List.setIfInBounds_toArray, List.set_cons_zero, List.set_cons_succ])
            refine wpAnyH_ready (rs := [9]) (by kernel_rfl) (by simp) ?_
            refine AllReadyH.cons rfl (fun K hK => ?_) AllReadyH.nil
            rw [if_pos (by rfl)]
            go_simp
            refine hK.out _ _ trivial (fun hHeld => ?_)
            clear hK K
            (try simp only [Act.put, List.setIfInBounds_toArray, List.set_cons_zero, List.set_cons_succ])
            refine takeQ (i := 13) (k := 5) (v := .int .i64 n) rfl (by rfl) (by kernel_rfl) (by kernel_rfl) (by kernel_rfl) (fun _ _ _ h => h) (by rfl) ?_ hHeld ?_
            · intro w1 hSw; go_simp
            (try simp only [Act.put, List.setIfInBounds_toArray, List.set_cons_zero, List.set_cons_succ])
            refine wpAnyH_done (by kernel_rfl) ?_ _
            exact ⟨⟨f, n, rfl, rfl, rfl, rfl, hf, hb5⟩, by simp only [putAll, Act.put, List.setIfInBounds_toArray, List.set_cons_zero, List.set_cons_succ]; rfl⟩
          · rw [if_pos (by rfl)]
            go_simp
            go_fit (src_n w.heap.size w.heap.size 5 _ (by omega) hS5)
            rintro e wx ⟨_, rfl, ⟨r, rfl, hr0, hr1⟩, hSz, hgz⟩
            obtain ⟨R, rfl⟩ : ∃ R : Nat, r = R := ⟨r.toNat, by omega⟩
            have hr5 : (R : Int) < 5 := by omega
            have hbz := below_grown hb5 hb5.size hgz (Nat.le_refl _)
            refine hK.out _ _ trivial (fun hHeld => ?_)
            clear hK K
            (try simp only [Act.put, List.setIfInBounds_toArray, List.set_cons_zero, List.set_cons_succ])
            clear hS5 hb5 hgz
            have hS5 := hSz
            have hb5 := hbz
            clear hSz hbz
            generalize wx = wd at hS5 hb5 hHeld ⊢
            refine takeQ (i := 10) (k := 2) (v := .string s) rfl (by rfl) (by kernel_rfl) (by kernel_rfl) (by kernel_rfl) (fun _ _ _ h => h) (by rfl) ?_ hHeld ?_
            · intro w1 hSw; go_simp
            (try simp only [Act.put, List.setIfInBounds_toArray, List.set_cons_zero, List.set_cons_succ])
            refine takeQ (i := 11) (k := 3) (v := .string t) rfl (by rfl) (by kernel_rfl) (by kernel_rfl) (by kernel_rfl) (fun _ _ _ h => h) (by rfl) ?_ hHeld ?_
            · intro w1 hSw; go_simp
            (try simp only [Act.put, List.setIfInBounds_toArray, List.set_cons_zero, List.set_cons_succ])
            refine takeQ (i := 12) (k := 4) (v := .string f) rfl (by rfl) (by kernel_rfl) (by kernel_rfl) (by kernel_rfl) (fun _ _ _ h => h) (by rfl) ?_ hHeld ?_
            · intro w1 hSw; go_simp
            (try simp only [Act.put, List.setIfInBounds_toArray, List.set_cons_zero, List.set_cons_succ])
            refine wpAnyH_ready (rs := [5]) (by kernel_rfl) (by simp) ?_
            refine AllReadyH.cons rfl (fun K hK => ?_) AllReadyH.nil
            rw [if_pos (by rfl)]
            go_simp
            refine hK.out _ _ trivial (fun hHeld => ?_)
            clear hK K
            (try simp only [Act.put, List.setIfInBounds_toArray, List.set_cons_zero, List.set_cons_succ])
            have hI : Arr (wd.alloc (.cells #[.int .i64 0, .int .i64 1, .int .i64 77, .int .i64 1000000000, .int .i64 1000000001] 2)) wd.heap.size 2 [.int .i64 0, .int .i64 1, .int .i64 77, .int .i64 1000000000, .int .i64 1000000001] := Arr.fresh wd _ _
            have hib : wd.heap.size ≠ w.heap.size := by have := hS5.lt; omega
            have hbz := hb5.alloc hb5.size (.cells #[.int .i64 0, .int .i64 1, .int .i64 77, .int .i64 1000000000, .int .i64 1000000001] 2)
            have hSz := hS5.alloc (.cells #[.int .i64 0, .int .i64 1, .int .i64 77, .int .i64 1000000000, .int .i64 1000000001] 2)
            generalize hbi : wd.heap.size = bi at hI hib ⊢
            clear hbi hS5 hb5
            generalize wd.alloc _ = wd at hI hbz hSz hHeld ⊢
            have hS5 := hSz
            have hb5 := hbz
            clear hSz hbz
            obtain ⟨n, hn⟩ := ints_at hI hr0 hr1
            refine takeQ (i := 8) (k := 29) (v := .pointer (some ⟨bi, R, none⟩)) rfl (by rfl) (by kernel_rfl) (by kernel_rfl) (by kernel_rfl) (fun _ _ _ h => h) (by rfl) ?_ hHeld ?_
            · intro w1 hSw; go_simp
            (try simp only [Act.put, List.setIfInBounds_toArray, List.set_cons_zero, List.set_cons_succ])
            refine wpAnyH_ready (rs := [9]) (by kernel_rfl) (by simp) ?_
            refine AllReadyH.cons rfl (fun K hK => ?_) AllReadyH.nil
            rw [if_pos (by rfl)]
            go_simp
            refine hK.out _ _ trivial (fun hHeld => ?_)
            clear hK K
            (try simp only [Act.put, List.setIfInBounds_toArray, List.set_cons_zero, List.set_cons_succ])
            refine takeQ (i := 13) (k := 5) (v := .int .i64 n) rfl (by rfl) (by kernel_rfl) (by kernel_rfl) (by kernel_rfl) (fun _ _ _ h => h) (by rfl) ?_ hHeld ?_
            · intro w1 hSw; go_simp
            (try simp only [Act.put, List.setIfInBounds_toArray, List.set_cons_zero, List.set_cons_succ])
            refine wpAnyH_done (by kernel_rfl) ?_ _
            exact ⟨⟨f, n, rfl, rfl, rfl, rfl, hf, hb5⟩, by simp only [putAll, Act.put, List.setIfInBounds_toArray, List.set_cons_zero, List.set_cons_succ]; rfl⟩
        · rw [if_pos (by rfl)]
          go_simp
          refine hK.out _ _ trivial (fun hHeld => ?_)
          clear hK K
          (try simp only [Act.put, List.setIfInBounds_toArray, List.set_cons_zero, List.set_cons_succ])
          have hI : Arr (wd.alloc (.cells #[.int .i64 0, .int .i64 1, .int .i64 77, .int .i64 1000000000, .int .i64 1000000001] 2)) wd.heap.size 2 [.int .i64 0, .int .i64 1, .int .i64 77, .int .i64 1000000000, .int .i64 1000000001] := Arr.fresh wd _ _
          have hib : wd.heap.size ≠ w.heap.size := by have := hS5.lt; omega
          have hbz := hb5.alloc hb5.size (.cells #[.int .i64 0, .int .i64 1, .int .i64 77, .int .i64 1000000000, .int .i64 1000000001] 2)
          have hSz := hS5.alloc (.cells #[.int .i64 0, .int .i64 1, .int .i64 77, .int .i64 1000000000, .int .i64 1000000001] 2)
          have hP := strRow_on hP ((Below.refl _ _).alloc (Nat.le_refl _) (.cells #[.int .i64 0, .int .i64 1, .int .i64 77, .int .i64 1000000000, .int .i64 1000000001] 2))
          generalize hbi : wd.heap.size = bi at hI hib ⊢
          clear hbi hS5 hb5
          generalize wd.alloc _ = wd at hI hbz hSz hHeld hP ⊢
          have hS5 := hSz
          have hb5 := hbz
          clear hSz hbz
          refine wpAnyH_ready (rs := [4]) (by kernel_rfl) (by simp) ?_
          refine AllReadyH.cons rfl (fun K hK => ?_) AllReadyH.nil
          rw [if_pos (by rfl)]
          go_simp
          go_fit (src_pick w.heap.size w.heap.size bp 2 3 _ (by omega) (by omega) hS5 hpb hP)
          rintro e wx ⟨_, rfl, ⟨f, rfl, hf⟩, hSz, hgz⟩
          have hbz := below_grown hb5 hb5.size hgz (Nat.le_refl _)
          have hI := hI.other hgz (fun e => hib (by injection e with e; exact e.symm))
          refine hK.out _ _ trivial (fun hHeld => ?_)
          clear hK K
          (try simp only [Act.put, List.setIfInBounds_toArray, List.set_cons_zero, List.set_cons_succ])
          clear hS5 hb5 hgz
          have hS5 := hSz
          have hb5 := hbz
          clear hSz hbz hP
          generalize wx = wd at hS5 hb5 hHeld hI ⊢
          refine wpAnyH_ready (rs := [7]) (by kernel_rfl) (by simp) ?_
          refine AllReadyH.cons rfl (fun K hK => ?_) AllReadyH.nil
          rw [if_pos (by rfl)]
          go_simp
          go_fit (src_n w.heap.size w.heap.size 5 _ (by omega) hS5)
          rintro e wx ⟨_, rfl, ⟨r, rfl, hr0, hr1⟩, hSz, hgz⟩
          obtain ⟨R, rfl⟩ : ∃ R : Nat, r = R := ⟨r.toNat, by omega⟩
          have hr5 : (R : Int) < 5 := by omega
          have hbz := below_grown hb5 hb5.size hgz (Nat.le_refl _)
          have hI := hI.other hgz (fun e => hib (by injection e with e; exact e.symm))
          refine hK.out _ _ trivial (fun hHeld => ?_)
          clear hK K
          (try simp only [Act.put, List.setIfInBounds_toArray, List.set_cons_zero, List.set_cons_succ])
          clear hS5 hb5 hgz
          have hS5 := hSz
          have hb5 := hbz
          clear hSz hbz
          generalize wx = wd at hS5 hb5 hHeld hI ⊢
          refine takeQ (i := 10) (k := 2) (v := .string s) rfl (by rfl) (by kernel_rfl) (by kernel_rfl) (by kernel_rfl) (fun _ _ _ h => h) (by rfl) ?_ hHeld ?_
          · intro w1 hSw; go_simp
          (try simp only [Act.put, List.setIfInBounds_toArray, List.set_cons_zero, List.set_cons_succ])
          refine takeQ (i := 11) (k := 3) (v := .string t) rfl (by rfl) (by kernel_rfl) (by kernel_rfl) (by kernel_rfl) (fun _ _ _ h => h) (by rfl) ?_ hHeld ?_
          · intro w1 hSw; go_simp
          (try simp only [Act.put, List.setIfInBounds_toArray, List.set_cons_zero, List.set_cons_succ])
          refine takeQ (i := 12) (k := 4) (v := .string f) rfl (by rfl) (by kernel_rfl) (by kernel_rfl) (by kernel_rfl) (fun _ _ _ h => h) (by rfl) ?_ hHeld ?_
          · intro w1 hSw; go_simp
          (try simp only [Act.put, List.setIfInBounds_toArray, List.set_cons_zero, List.set_cons_succ])
          obtain ⟨n, hn⟩ := ints_at hI hr0 hr1
          refine takeQ (i := 8) (k := 29) (v := .pointer (some ⟨bi, R, none⟩)) rfl (by rfl) (by kernel_rfl) (by kernel_rfl) (by kernel_rfl) (fun _ _ _ h => h) (by rfl) ?_ hHeld ?_
          · intro w1 hSw; go_simp
          (try simp only [Act.put, List.setIfInBounds_toArray, List.set_cons_zero, List.set_cons_succ])
          refine wpAnyH_ready (rs := [9]) (by kernel_rfl) (by simp) ?_
          refine AllReadyH.cons rfl (fun K hK => ?_) AllReadyH.nil
          rw [if_pos (by rfl)]
          go_simp
          refine hK.out _ _ trivial (fun hHeld => ?_)
          clear hK K
          (try simp only [Act.put, List.setIfInBounds_toArray, List.set_cons_zero, List.set_cons_succ])
          refine takeQ (i := 13) (k := 5) (v := .int .i64 n) rfl (by rfl) (by kernel_rfl) (by kernel_rfl) (by kernel_rfl) (fun _ _ _ h => h) (by rfl) ?_ hHeld ?_
          · intro w1 hSw; go_simp
          (try simp only [Act.put, List.setIfInBounds_toArray, List.set_cons_zero, List.set_cons_succ])
          refine wpAnyH_done (by kernel_rfl) ?_ _
          exact ⟨⟨f, n, rfl, rfl, rfl, rfl, hf, hb5⟩, by simp only [putAll, Act.put, List.setIfInBounds_toArray, List.set_cons_zero, List.set_cons_succ]; rfl⟩
      · rw [if_pos (by rfl)]
        go_simp
        refine hK.out _ _ trivial (fun hHeld => ?_)
        clear hK K
        (try simp only [Act.put, List.setIfInBounds_toArray, List.set_cons_zero, List.set_cons_succ])
        have hI : Arr (wd.alloc (.cells #[.int .i64 0, .int .i64 1, .int .i64 77, .int .i64 1000000000, .int .i64 1000000001] 2)) wd.heap.size 2 [.int .i64 0, .int .i64 1, .int .i64 77, .int .i64 1000000000, .int .i64 1000000001] := Arr.fresh wd _ _
        have hib : wd.heap.size ≠ w.heap.size := by have := hS5.lt; omega
        have hbz := hb5.alloc hb5.size (.cells #[.int .i64 0, .int .i64 1, .int .i64 77, .int .i64 1000000000, .int .i64 1000000001] 2)
        have hSz := hS5.alloc (.cells #[.int .i64 0, .int .i64 1, .int .i64 77, .int .i64 1000000000, .int .i64 1000000001] 2)
        generalize hbi : wd.heap.size = bi at hI hib ⊢
        clear hbi hS5 hb5
        generalize wd.alloc _ = wd at hI hbz hSz hHeld ⊢
        have hS5 := hSz
        have hb5 := hbz
        clear hSz hbz
        refine wpAnyH_ready (rs := [3]) (by kernel_rfl) (by simp) ?_
        refine AllReadyH.cons rfl (fun K hK => ?_) AllReadyH.nil
        rw [if_pos (by rfl)]
        go_simp
        refine hK.out _ _ trivial (fun hHeld => ?_)
        clear hK K
        (try simp only [Act.put, List.setIfInBounds_toArray, List.set_cons_zero, List.set_cons_succ])
        have hSz := hS5
        have hP : StrRow (wd.alloc (.cells #[.string ⟨#[97]⟩, .string ⟨#[120]⟩] 9)) wd.heap.size 2 3 := two_row wd
        have hpb : wd.heap.size ≠ w.heap.size := by have := hS5.lt; omega
        have hbz := hb5.alloc hb5.size (.cells #[.string ⟨#[97]⟩, .string ⟨#[120]⟩] 9)
        have hSz := hS5.alloc (.cells #[.string ⟨#[97]⟩, .string ⟨#[120]⟩] 9)
        have hpl : wd.heap.size < (wd.alloc (.cells #[.string ⟨#[97]⟩, .string ⟨#[120]⟩] 9)).heap.size := by simp
        clear hS5 hb5
        have hI := hI.alloc (.cells #[.string ⟨#[97]⟩, .string ⟨#[120]⟩] 9)
        generalize hbp : wd.heap.size = bp at hP hpb hpl ⊢
        clear hbp
        generalize wd.alloc _ = wd at hP hbz hSz hpl hHeld hI ⊢
        have hS5 := hSz
        have hb5 := hbz
        clear hSz hbz
        refine wpAnyH_ready (rs := [4]) (by kernel_rfl) (by simp) ?_
        refine AllReadyH.cons rfl (fun K hK => ?_) AllReadyH.nil
        rw [if_pos (by rfl)]
        go_simp
        go_fit (src_pick w.heap.size w.heap.size bp 2 3 _ (by omega) (by omega) hS5 hpb hP)
        rintro e wx ⟨_, rfl, ⟨f, rfl, hf⟩, hSz, hgz⟩
        have hbz := below_grown hb5 hb5.size hgz (Nat.le_refl _)
        have hI := hI.other hgz (fun e => hib (by injection e with e; exact e.symm))
        refine hK.out _ _ trivial (fun hHeld => ?_)
        clear hK K
        (try simp only [Act.put, List.setIfInBounds_toArray, List.set_cons_zero, List.set_cons_succ])
        clear hS5 hb5 hgz
        have hS5 := hSz
        have hb5 := hbz
        clear hSz hbz hP
        generalize wx = wd at hS5 hb5 hHeld hI ⊢
        refine wpAnyH_ready (rs := [7]) (by kernel_rfl) (by simp) ?_
        refine AllReadyH.cons rfl (fun K hK => ?_) AllReadyH.nil
        rw [if_pos (by rfl)]
        go_simp
        go_fit (src_n w.heap.size w.heap.size 5 _ (by omega) hS5)
        rintro e wx ⟨_, rfl, ⟨r, rfl, hr0, hr1⟩, hSz, hgz⟩
        obtain ⟨R, rfl⟩ : ∃ R : Nat, r = R := ⟨r.toNat, by omega⟩
        have hr5 : (R : Int) < 5 := by omega
        have hbz := below_grown hb5 hb5.size hgz (Nat.le_refl _)
        have hI := hI.other hgz (fun e => hib (by injection e with e; exact e.symm))
        refine hK.out _ _ trivial (fun hHeld => ?_)
        clear hK K
        (try simp only [Act.put, List.setIfInBounds_toArray, List.set_cons_zero, List.set_cons_succ])
        clear hS5 hb5 hgz
        have hS5 := hSz
        have hb5 := hbz
        clear hSz hbz
        generalize wx = wd at hS5 hb5 hHeld hI ⊢
        refine takeQ (i := 10) (k := 2) (v := .string s) rfl (by rfl) (by kernel_rfl) (by kernel_rfl) (by kernel_rfl) (fun _ _ _ h => h) (by rfl) ?_ hHeld ?_
        · intro w1 hSw; go_simp
        (try simp only [Act.put, List.setIfInBounds_toArray, List.set_cons_zero, List.set_cons_succ])
        refine takeQ (i := 11) (k := 3) (v := .string t) rfl (by rfl) (by kernel_rfl) (by kernel_rfl) (by kernel_rfl) (fun _ _ _ h => h) (by rfl) ?_ hHeld ?_
        · intro w1 hSw; go_simp
        (try simp only [Act.put, List.setIfInBounds_toArray, List.set_cons_zero, List.set_cons_succ])
        refine takeQ (i := 12) (k := 4) (v := .string f) rfl (by rfl) (by kernel_rfl) (by kernel_rfl) (by kernel_rfl) (fun _ _ _ h => h) (by rfl) ?_ hHeld ?_
        · intro w1 hSw; go_simp
        (try simp only [Act.put, List.setIfInBounds_toArray, List.set_cons_zero, List.set_cons_succ])
        obtain ⟨n, hn⟩ := ints_at hI hr0 hr1
        refine takeQ (i := 8) (k := 29) (v := .pointer (some ⟨bi, R, none⟩)) rfl (by rfl) (by kernel_rfl) (by kernel_rfl) (by kernel_rfl) (fun _ _ _ h => h) (by rfl) ?_ hHeld ?_
        · intro w1 hSw; go_simp
        (try simp only [Act.put, List.setIfInBounds_toArray, List.set_cons_zero, List.set_cons_succ])
        refine wpAnyH_ready (rs := [9]) (by kernel_rfl) (by simp) ?_
        refine AllReadyH.cons rfl (fun K hK => ?_) AllReadyH.nil
        rw [if_pos (by rfl)]
        go_simp
        refine hK.out _ _ trivial (fun hHeld => ?_)
        clear hK K
        (try simp only [Act.put, List.setIfInBounds_toArray, List.set_cons_zero, List.set_cons_succ])
        refine takeQ (i := 13) (k := 5) (v := .int .i64 n) rfl (by rfl) (by kernel_rfl) (by kernel_rfl) (by kernel_rfl) (fun _ _ _ h => h) (by rfl) ?_ hHeld ?_
        · intro w1 hSw; go_simp
        (try simp only [Act.put, List.setIfInBounds_toArray, List.set_cons_zero, List.set_cons_succ])
        refine wpAnyH_done (by kernel_rfl) ?_ _
        exact ⟨⟨f, n, rfl, rfl, rfl, rfl, hf, hb5⟩, by simp only [putAll, Act.put, List.setIfInBounds_toArray, List.set_cons_zero, List.set_cons_succ]; rfl⟩
    · rintro vs w6 ⟨f, n, v2, v3, v4, v5, hf, hb6⟩
      simp only [putAll, Act.put, List.setIfInBounds_toArray, List.set_cons_zero, List.set_cons_succ]
      rw [v2, v3, v4, v5]
      clear v2 v3 v4 v5
      go_wp2
      exact bodyPost_ret (v := .tuple #[.string s, .string t, .string f, .int .i64 n]) (by simp [results, Tryd.results10, go_sem]) rfl ⟨⟨_, rfl, ⟨s, t, f, n, rfl, hs, ht, hf⟩⟩, hb6⟩
end Go.Proofs.YtpbogdfgomfpjaaDoor
