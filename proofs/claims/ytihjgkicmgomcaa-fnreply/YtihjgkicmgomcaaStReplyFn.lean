/- FnReply's walk. -/
import Derived.Test.YtihjgkicmgomcaaStDraws2
import Derived.Test.YtihjgkicmgomcaaStReplyLaw
namespace Go.Proofs.Ytihjgkicmgomcaa
set_option linter.unusedSimpArgs false
set_option linter.unusedVariables false
open Go.RowKit

theorem kind_pos {k : ByteArray} (h : kindB k = true) : 0 < k.size := by
  rcases Nat.eq_zero_or_pos k.size with h0 | h0
  · rw [size_zero h0] at h
    exact absurd h (by unfold kindB; simp only [ByteArray.toList_eq]; decide)
  · exact h0
theorem st_kind {k t f o : ByteArray} {n : Int} {b : ByteArray} (h : stB k t f o n b = true) : kindB k = true := by
  unfold stB at h
  simp only [Bool.and_eq_true] at h
  exact h.1.1.1.1.1
theorem rep_split (k t f o : ByteArray) (n : Int) (b kd bd : ByteArray) : repV k t f o n b kd bd = .agg #[.string ⟨#[]⟩, .string ⟨#[]⟩, .string ⟨#[]⟩, .string ⟨#[]⟩, .int .i64 0, .string ⟨#[]⟩] ∨ 0 < k.size ∧ repV k t f o n b kd bd = .agg #[.string k, .string kd, .string o, .string f, .int .i64 n, .string bd] ∧ repV k kd o f n bd t b = .agg #[.string k, .string t, .string f, .string o, .int .i64 n, .string b] := by
  cases h1 : stB k t f o n b
  · exact .inl (repV_no h1)
  · cases h2 : stB k kd o f n bd
    · left
      unfold repV
      rw [h2, Bool.and_false]
      rfl
    · refine .inr ⟨kind_pos (st_kind h1), ?_, ?_⟩
      · unfold repV; rw [h1, h2]; rfl
      · unfold repV; rw [h1, h2]; rfl
theorem flt_split (k t f o : ByteArray) (n : Int) (b nm : ByteArray) : fltV k t f o n b nm = .agg #[.string ⟨#[]⟩, .string ⟨#[]⟩, .string ⟨#[]⟩, .string ⟨#[]⟩, .int .i64 0, .string ⟨#[]⟩] ∨ 0 < k.size ∧ fltV k t f o n b nm = .agg #[.string k, .string ⟨#[101, 114, 114, 111, 114]⟩, .string o, .string f, .int .i64 n, .string nm] := by
  unfold fltV
  split
  · exact .inl rfl
  · rcases rep_split k t f o n b errS nm with h | ⟨h1, h2, _⟩
    · exact .inl h
    · exact .inr ⟨h1, h2⟩
theorem flt_err (k f o : ByteArray) (n : Int) (b nm : ByteArray) : fltV k ⟨#[101, 114, 114, 111, 114]⟩ f o n b nm = .agg #[.string ⟨#[]⟩, .string ⟨#[]⟩, .string ⟨#[]⟩, .string ⟨#[]⟩, .int .i64 0, .string ⟨#[]⟩] := fltV_yes (t := errS) (by simp)

set_option maxRecDepth 100000 in
set_option maxHeartbeats 8000000 in
theorem reply_fn (a0 : Option Addr) (len0 cap0 : Nat) (a1 : Option Addr) (len1 cap1 : Nat) (w : World) (h0 : len0 ≤ 1048576) (h1 : len1 ≤ 1048576) (r0 : SrcRow w w.heap.size a0 len0) (r1 : SrcRow w w.heap.size a1 len1) (hm : MaxL w) :
    Calls Try.prog 4 #[.slice a0 len0 cap0, .slice a1 len1 cap1] w fun e w' => e = .returned (.bool true) ∧ Below w.heap.size w w' := by
  have R0 := Lib.hid r0
  have R1 := Lib.hid r1
  have HM := Lib.hid (fun W (h : Below w.heap.size w W) => hm.below h hm.pos)
  clear r0 r1 hm
  go_enter Try.func4, Try.ntmps4
  go_wp2_with fail
  refine (draw_reply a0 len0 cap0 _ h0 R0.out).mono ?_
  rintro e w1 ⟨⟨_, kd, bd, rfl, ⟨k, t, f, o, n, b, rfl, hz, n0, n1⟩, hkd, hbd⟩, hb1⟩
  obtain ⟨hz1, hz2, hz3, hz4, hz5⟩ := hz
  have j1 := fun w => spec_reply k t f o n b kd bd w (by unfold maxLen; omega) (by omega) (by omega) (by unfold maxLen; omega) (by unfold maxLen; omega) (by unfold maxLen; omega)
  have j0 := fun w hm => impl_reply k t f o n b kd bd w (by omega) (by omega) (by omega) (by omega) (by omega) (by omega) (by omega) hm
  have j2 := fun w hm => impl_reply k kd o f n bd t b w (by omega) (by omega) (by omega) (by omega) (by omega) (by omega) (by omega) hm
  rcases rep_split k t f o n b kd bd with hv | ⟨hk, hv, hv2⟩
  · clear j2
    rw [hv] at j0 j1
    clear hv
    go_wp2_with (go_at_call 17; go_fit (j0 _ (HM.out _ (hb1.alloc hb1.size _))); rintro e w2 ⟨rfl, hb2⟩)
    have hA : Arr (w2.alloc (.cells #[.string ⟨#[]⟩, .string ⟨#[]⟩, .string ⟨#[]⟩, .string ⟨#[]⟩, .int .i64 0, .string ⟨#[]⟩] 30)).drew w1.heap.size 30 [.string k, .string t, .string f, .string o, .int .i64 n, .string b] := arr_alloc (arr_below (Arr.fresh w1 _ _) hb2) _
    have hX : Arr (w2.alloc (.cells #[.string ⟨#[]⟩, .string ⟨#[]⟩, .string ⟨#[]⟩, .string ⟨#[]⟩, .int .i64 0, .string ⟨#[]⟩] 30)).drew w2.heap.size 30 [.string ⟨#[]⟩, .string ⟨#[]⟩, .string ⟨#[]⟩, .string ⟨#[]⟩, .int .i64 0, .string ⟨#[]⟩] := Arr.fresh w2 _ _
    have hb := ((hb1.trans ((below_one hb2).mono hb1.size)).alloc (hb1.trans ((below_one hb2).mono hb1.size)).size (.cells #[.string ⟨#[]⟩, .string ⟨#[]⟩, .string ⟨#[]⟩, .string ⟨#[]⟩, .int .i64 0, .string ⟨#[]⟩] 30))
    clear hb1 hb2
    refine wp_region_held_drew (S := (fun W => Arr W w1.heap.size 30 [.string k, .string t, .string f, .string o, .int .i64 n, .string b] ∧ Arr W w2.heap.size 30 [.string ⟨#[]⟩, .string ⟨#[]⟩, .string ⟨#[]⟩, .string ⟨#[]⟩, .int .i64 0, .string ⟨#[]⟩] ∧ Below w.heap.size w W)) (by kernel_rfl) ⟨hA, hX, hb.drew⟩ (fun hHeld => ?_)
    refine takeH (i := 0) (k := 30) (v := .agg #[.string ⟨#[]⟩, .string ⟨#[]⟩, .string ⟨#[]⟩, .string ⟨#[]⟩, .int .i64 0, .string ⟨#[]⟩]) rfl (by rfl) (by kernel_rfl) (by kernel_rfl) (by kernel_rfl) (fun _ _ _ h => h) (by rfl) ?_ hHeld ?_
    · intro w0 hSw; obtain ⟨⟨a0, a1, a2, a3, a4, a5⟩, _⟩ := arr_six hSw.1; obtain ⟨⟨x0, x1, x2, x3, x4, x5⟩, _⟩ := arr_six hSw.2.1; go_simp
    (try simp only [Act.put, List.setIfInBounds_toArray, List.set_cons_zero, List.set_cons_succ])
    refine takeH (i := 1) (k := 31) (v := .agg #[.string k, .string t, .string f, .string o, .int .i64 n, .string b]) rfl (by rfl) (by kernel_rfl) (by kernel_rfl) (by kernel_rfl) (fun _ _ _ h => h) (by rfl) ?_ hHeld ?_
    · intro w0 hSw; obtain ⟨⟨a0, a1, a2, a3, a4, a5⟩, _⟩ := arr_six hSw.1; obtain ⟨⟨x0, x1, x2, x3, x4, x5⟩, _⟩ := arr_six hSw.2.1; go_simp
    (try simp only [Act.put, List.setIfInBounds_toArray, List.set_cons_zero, List.set_cons_succ])
    refine takeH (i := 2) (k := 32) (v := .string kd) rfl (by rfl) (by kernel_rfl) (by kernel_rfl) (by kernel_rfl) (fun _ _ _ h => h) (by rfl) ?_ hHeld ?_
    · intro w0 hSw; obtain ⟨⟨a0, a1, a2, a3, a4, a5⟩, _⟩ := arr_six hSw.1; obtain ⟨⟨x0, x1, x2, x3, x4, x5⟩, _⟩ := arr_six hSw.2.1; go_simp
    (try simp only [Act.put, List.setIfInBounds_toArray, List.set_cons_zero, List.set_cons_succ])
    refine takeH (i := 3) (k := 33) (v := .string bd) rfl (by rfl) (by kernel_rfl) (by kernel_rfl) (by kernel_rfl) (fun _ _ _ h => h) (by rfl) ?_ hHeld ?_
    · intro w0 hSw; obtain ⟨⟨a0, a1, a2, a3, a4, a5⟩, _⟩ := arr_six hSw.1; obtain ⟨⟨x0, x1, x2, x3, x4, x5⟩, _⟩ := arr_six hSw.2.1; go_simp
    (try simp only [Act.put, List.setIfInBounds_toArray, List.set_cons_zero, List.set_cons_succ])
    refine wpAnyH_ready (rs := [4]) (by kernel_rfl) (by simp) ?_
    refine AllReadyH.cons rfl (fun K hK => ?_) AllReadyH.nil
    rw [if_pos (by rfl)]
    go_simp
    go_fit (j1 _)
    rintro e wm ⟨rfl, hb2⟩
    refine hK.out _ _ (⟨arr_below hHeld.1 hb2, arr_below hHeld.2.1 hb2, hHeld.2.2.trans (hb2.mono hHeld.2.2.size)⟩) (fun hHeld => ?_)
    clear hK K
    (try simp only [Act.put, List.setIfInBounds_toArray, List.set_cons_zero, List.set_cons_succ])
    refine takeH (i := 5) (k := 35) (v := .bool false) rfl (by rfl) (by kernel_rfl) (by kernel_rfl) (by kernel_rfl) (fun _ _ _ h => h) (by rfl) ?_ hHeld ?_
    · intro w0 hSw; obtain ⟨⟨a0, a1, a2, a3, a4, a5⟩, _⟩ := arr_six hSw.1; obtain ⟨⟨x0, x1, x2, x3, x4, x5⟩, _⟩ := arr_six hSw.2.1; go_simp
    (try simp only [Act.put, List.setIfInBounds_toArray, List.set_cons_zero, List.set_cons_succ])
    refine takeH (i := 6) (k := 36) (v := .bool false) rfl (by rfl) (by kernel_rfl) (by kernel_rfl) (by kernel_rfl) (fun _ _ _ h => h) (by rfl) ?_ hHeld ?_
    · intro w0 hSw; obtain ⟨⟨a0, a1, a2, a3, a4, a5⟩, _⟩ := arr_six hSw.1; obtain ⟨⟨x0, x1, x2, x3, x4, x5⟩, _⟩ := arr_six hSw.2.1; go_simp
    (try simp only [Act.put, List.setIfInBounds_toArray, List.set_cons_zero, List.set_cons_succ])
    refine takeH (i := 7) (k := 37) (v := .pointer (some ⟨w2.heap.size, 0, none⟩)) rfl (by rfl) (by kernel_rfl) (by kernel_rfl) (by kernel_rfl) (fun _ _ _ h => h) (by rfl) ?_ hHeld ?_
    · intro w0 hSw; obtain ⟨⟨a0, a1, a2, a3, a4, a5⟩, _⟩ := arr_six hSw.1; obtain ⟨⟨x0, x1, x2, x3, x4, x5⟩, _⟩ := arr_six hSw.2.1; go_simp
    (try simp only [Act.put, List.setIfInBounds_toArray, List.set_cons_zero, List.set_cons_succ])
    refine takeH (i := 8) (k := 38) (v := .string ⟨#[]⟩) rfl (by rfl) (by kernel_rfl) (by kernel_rfl) (by kernel_rfl) (fun _ _ _ h => h) (by rfl) ?_ hHeld ?_
    · intro w0 hSw; obtain ⟨⟨a0, a1, a2, a3, a4, a5⟩, _⟩ := arr_six hSw.1; obtain ⟨⟨x0, x1, x2, x3, x4, x5⟩, _⟩ := arr_six hSw.2.1; go_simp
    (try simp only [Act.put, List.setIfInBounds_toArray, List.set_cons_zero, List.set_cons_succ])
    refine takeH (i := 9) (k := 39) (v := .bool false) rfl (by rfl) (by kernel_rfl) (by kernel_rfl) (by kernel_rfl) (fun _ _ _ h => h) (by rfl) ?_ hHeld ?_
    · intro w0 hSw; obtain ⟨⟨a0, a1, a2, a3, a4, a5⟩, _⟩ := arr_six hSw.1; obtain ⟨⟨x0, x1, x2, x3, x4, x5⟩, _⟩ := arr_six hSw.2.1; go_simp
    (try simp only [Act.put, List.setIfInBounds_toArray, List.set_cons_zero, List.set_cons_succ])
    refine takeH (i := 10) (k := 40) (v := .bool false) rfl (by rfl) (by kernel_rfl) (by kernel_rfl) (by kernel_rfl) (fun _ _ _ h => h) (by rfl) ?_ hHeld ?_
    · intro w0 hSw; obtain ⟨⟨a0, a1, a2, a3, a4, a5⟩, _⟩ := arr_six hSw.1; obtain ⟨⟨x0, x1, x2, x3, x4, x5⟩, _⟩ := arr_six hSw.2.1; go_simp
    (try simp only [Act.put, List.setIfInBounds_toArray, List.set_cons_zero, List.set_cons_succ])
    refine skipH (i := 11) (k := 41) rfl (by rfl) (by kernel_rfl) (by kernel_rfl) (by kernel_rfl) (fun _ _ _ h => h) (by rfl) hHeld ?_
    (try simp only [Act.put, List.setIfInBounds_toArray, List.set_cons_zero, List.set_cons_succ])
    refine skipH (i := 12) (k := 42) rfl (by rfl) (by kernel_rfl) (by kernel_rfl) (by kernel_rfl) (fun _ _ _ h => h) (by rfl) hHeld ?_
    (try simp only [Act.put, List.setIfInBounds_toArray, List.set_cons_zero, List.set_cons_succ])
    refine skipH (i := 13) (k := 43) rfl (by rfl) (by kernel_rfl) (by kernel_rfl) (by kernel_rfl) (fun _ _ _ h => h) (by rfl) hHeld ?_
    (try simp only [Act.put, List.setIfInBounds_toArray, List.set_cons_zero, List.set_cons_succ])
    refine skipH (i := 14) (k := 44) rfl (by rfl) (by kernel_rfl) (by kernel_rfl) (by kernel_rfl) (fun _ _ _ h => h) (by rfl) hHeld ?_
    (try simp only [Act.put, List.setIfInBounds_toArray, List.set_cons_zero, List.set_cons_succ])
    refine skipH (i := 15) (k := 45) rfl (by rfl) (by kernel_rfl) (by kernel_rfl) (by kernel_rfl) (fun _ _ _ h => h) (by rfl) hHeld ?_
    (try simp only [Act.put, List.setIfInBounds_toArray, List.set_cons_zero, List.set_cons_succ])
    refine skipH (i := 16) (k := 46) rfl (by rfl) (by kernel_rfl) (by kernel_rfl) (by kernel_rfl) (fun _ _ _ h => h) (by rfl) hHeld ?_
    (try simp only [Act.put, List.setIfInBounds_toArray, List.set_cons_zero, List.set_cons_succ])
    refine skipH (i := 17) (k := 47) rfl (by rfl) (by kernel_rfl) (by kernel_rfl) (by kernel_rfl) (fun _ _ _ h => h) (by rfl) hHeld ?_
    (try simp only [Act.put, List.setIfInBounds_toArray, List.set_cons_zero, List.set_cons_succ])
    refine skipH (i := 18) (k := 48) rfl (by rfl) (by kernel_rfl) (by kernel_rfl) (by kernel_rfl) (fun _ _ _ h => h) (by rfl) hHeld ?_
    (try simp only [Act.put, List.setIfInBounds_toArray, List.set_cons_zero, List.set_cons_succ])
    refine skipH (i := 19) (k := 49) rfl (by rfl) (by kernel_rfl) (by kernel_rfl) (by kernel_rfl) (fun _ _ _ h => h) (by rfl) hHeld ?_
    (try simp only [Act.put, List.setIfInBounds_toArray, List.set_cons_zero, List.set_cons_succ])
    refine skipH (i := 20) (k := 50) rfl (by rfl) (by kernel_rfl) (by kernel_rfl) (by kernel_rfl) (fun _ _ _ h => h) (by rfl) hHeld ?_
    (try simp only [Act.put, List.setIfInBounds_toArray, List.set_cons_zero, List.set_cons_succ])
    refine skipH (i := 21) (k := 51) rfl (by rfl) (by kernel_rfl) (by kernel_rfl) (by kernel_rfl) (fun _ _ _ h => h) (by rfl) hHeld ?_
    (try simp only [Act.put, List.setIfInBounds_toArray, List.set_cons_zero, List.set_cons_succ])
    refine skipH (i := 22) (k := 52) rfl (by rfl) (by kernel_rfl) (by kernel_rfl) (by kernel_rfl) (fun _ _ _ h => h) (by rfl) hHeld ?_
    (try simp only [Act.put, List.setIfInBounds_toArray, List.set_cons_zero, List.set_cons_succ])
    refine skipH (i := 23) (k := 53) rfl (by rfl) (by kernel_rfl) (by kernel_rfl) (by kernel_rfl) (fun _ _ _ h => h) (by rfl) hHeld ?_
    (try simp only [Act.put, List.setIfInBounds_toArray, List.set_cons_zero, List.set_cons_succ])
    refine skipH (i := 24) (k := 54) rfl (by rfl) (by kernel_rfl) (by kernel_rfl) (by kernel_rfl) (fun _ _ _ h => h) (by rfl) hHeld ?_
    (try simp only [Act.put, List.setIfInBounds_toArray, List.set_cons_zero, List.set_cons_succ])
    refine skipH (i := 25) (k := 55) rfl (by rfl) (by kernel_rfl) (by kernel_rfl) (by kernel_rfl) (fun _ _ _ h => h) (by rfl) hHeld ?_
    (try simp only [Act.put, List.setIfInBounds_toArray, List.set_cons_zero, List.set_cons_succ])
    refine skipH (i := 26) (k := 56) rfl (by rfl) (by kernel_rfl) (by kernel_rfl) (by kernel_rfl) (fun _ _ _ h => h) (by rfl) hHeld ?_
    (try simp only [Act.put, List.setIfInBounds_toArray, List.set_cons_zero, List.set_cons_succ])
    refine skipH (i := 27) (k := 57) rfl (by rfl) (by kernel_rfl) (by kernel_rfl) (by kernel_rfl) (fun _ _ _ h => h) (by rfl) hHeld ?_
    (try simp only [Act.put, List.setIfInBounds_toArray, List.set_cons_zero, List.set_cons_succ])
    refine skipH (i := 28) (k := 58) rfl (by rfl) (by kernel_rfl) (by kernel_rfl) (by kernel_rfl) (fun _ _ _ h => h) (by rfl) hHeld ?_
    (try simp only [Act.put, List.setIfInBounds_toArray, List.set_cons_zero, List.set_cons_succ])
    refine skipH (i := 29) (k := 59) rfl (by rfl) (by kernel_rfl) (by kernel_rfl) (by kernel_rfl) (fun _ _ _ h => h) (by rfl) hHeld ?_
    (try simp only [Act.put, List.setIfInBounds_toArray, List.set_cons_zero, List.set_cons_succ])
    refine skipH (i := 30) (k := 60) rfl (by rfl) (by kernel_rfl) (by kernel_rfl) (by kernel_rfl) (fun _ _ _ h => h) (by rfl) hHeld ?_
    (try simp only [Act.put, List.setIfInBounds_toArray, List.set_cons_zero, List.set_cons_succ])
    refine skipH (i := 31) (k := 61) rfl (by rfl) (by kernel_rfl) (by kernel_rfl) (by kernel_rfl) (fun _ _ _ h => h) (by rfl) hHeld ?_
    (try simp only [Act.put, List.setIfInBounds_toArray, List.set_cons_zero, List.set_cons_succ])
    refine skipH (i := 32) (k := 62) rfl (by rfl) (by kernel_rfl) (by kernel_rfl) (by kernel_rfl) (fun _ _ _ h => h) (by rfl) hHeld ?_
    (try simp only [Act.put, List.setIfInBounds_toArray, List.set_cons_zero, List.set_cons_succ])
    refine skipH (i := 33) (k := 63) rfl (by rfl) (by kernel_rfl) (by kernel_rfl) (by kernel_rfl) (fun _ _ _ h => h) (by rfl) hHeld ?_
    (try simp only [Act.put, List.setIfInBounds_toArray, List.set_cons_zero, List.set_cons_succ])
    refine skipH (i := 34) (k := 64) rfl (by rfl) (by kernel_rfl) (by kernel_rfl) (by kernel_rfl) (fun _ _ _ h => h) (by rfl) hHeld ?_
    (try simp only [Act.put, List.setIfInBounds_toArray, List.set_cons_zero, List.set_cons_succ])
    refine skipH (i := 35) (k := 65) rfl (by rfl) (by kernel_rfl) (by kernel_rfl) (by kernel_rfl) (fun _ _ _ h => h) (by rfl) hHeld ?_
    (try simp only [Act.put, List.setIfInBounds_toArray, List.set_cons_zero, List.set_cons_succ])
    refine skipH (i := 36) (k := 66) rfl (by rfl) (by kernel_rfl) (by kernel_rfl) (by kernel_rfl) (fun _ _ _ h => h) (by rfl) hHeld ?_
    (try simp only [Act.put, List.setIfInBounds_toArray, List.set_cons_zero, List.set_cons_succ])
    refine skipH (i := 37) (k := 67) rfl (by rfl) (by kernel_rfl) (by kernel_rfl) (by kernel_rfl) (fun _ _ _ h => h) (by rfl) hHeld ?_
    (try simp only [Act.put, List.setIfInBounds_toArray, List.set_cons_zero, List.set_cons_succ])
    refine skipH (i := 38) (k := 68) rfl (by rfl) (by kernel_rfl) (by kernel_rfl) (by kernel_rfl) (fun _ _ _ h => h) (by rfl) hHeld ?_
    (try simp only [Act.put, List.setIfInBounds_toArray, List.set_cons_zero, List.set_cons_succ])
    refine skipH (i := 39) (k := 69) rfl (by rfl) (by kernel_rfl) (by kernel_rfl) (by kernel_rfl) (fun _ _ _ h => h) (by rfl) hHeld ?_
    (try simp only [Act.put, List.setIfInBounds_toArray, List.set_cons_zero, List.set_cons_succ])
    refine takeH (i := 40) (k := 70) (v := .bool false) rfl (by rfl) (by kernel_rfl) (by kernel_rfl) (by kernel_rfl) (fun _ _ _ h => h) (by rfl) ?_ hHeld ?_
    · intro w0 hSw; obtain ⟨⟨a0, a1, a2, a3, a4, a5⟩, _⟩ := arr_six hSw.1; obtain ⟨⟨x0, x1, x2, x3, x4, x5⟩, _⟩ := arr_six hSw.2.1; go_simp
    (try simp only [Act.put, List.setIfInBounds_toArray, List.set_cons_zero, List.set_cons_succ])
    refine takeH (i := 41) (k := 71) (v := .bool false) rfl (by rfl) (by kernel_rfl) (by kernel_rfl) (by kernel_rfl) (fun _ _ _ h => h) (by rfl) ?_ hHeld ?_
    · intro w0 hSw; obtain ⟨⟨a0, a1, a2, a3, a4, a5⟩, _⟩ := arr_six hSw.1; obtain ⟨⟨x0, x1, x2, x3, x4, x5⟩, _⟩ := arr_six hSw.2.1; go_simp
    (try simp only [Act.put, List.setIfInBounds_toArray, List.set_cons_zero, List.set_cons_succ])
    refine wpAnyH_done (by kernel_rfl) ?_ _
    have hbT := hHeld.2.2
    clear hHeld hA hX hb j0 j1 n0 n1
    go_wp2_with fail
    refine (draw_fault a1 len1 cap1 _ h1 (R1.out.lift hbT hbT.size)).mono ?_
    rintro e w6 ⟨⟨_, nm, rfl, ⟨k, t, f, o, n, b, rfl, hz, n0, n1⟩, hnm⟩, hb6⟩
    obtain ⟨hz1, hz2, hz3, hz4, hz5⟩ := hz
    replace hb6 := hbT.trans (hb6.mono hbT.size)
    clear hbT
    have j1 := fun w => spec_fault k t f o n b nm w (by unfold maxLen; omega) (by omega) (by omega) (by unfold maxLen; omega) (by unfold maxLen; omega)
    have j0 := fun w hm => impl_fault k t f o n b nm w (by omega) (by omega) (by omega) (by omega) (by omega) (by omega) hm
    have j2 := fun w hm => impl_fault k ⟨#[101, 114, 114, 111, 114]⟩ o f n nm nm w (by omega) (by decide) (by omega) (by omega) (by omega) (by omega) hm
    rw [flt_err] at j2
    rcases flt_split k t f o n b nm with hv | ⟨hk, hv⟩
    · rw [hv] at j0 j1
      clear hv
      go_wp2_with (go_at_call 20; go_fit (j0 _ (HM.out _ (hb6.alloc hb6.size _))); rintro e w7 ⟨rfl, hb7⟩)
      have hA : Arr (w7.alloc (.cells #[.string ⟨#[]⟩, .string ⟨#[]⟩, .string ⟨#[]⟩, .string ⟨#[]⟩, .int .i64 0, .string ⟨#[]⟩] 30)).drew w6.heap.size 30 [.string k, .string t, .string f, .string o, .int .i64 n, .string b] := arr_alloc (arr_below (Arr.fresh w6 _ _) hb7) _
      have hX : Arr (w7.alloc (.cells #[.string ⟨#[]⟩, .string ⟨#[]⟩, .string ⟨#[]⟩, .string ⟨#[]⟩, .int .i64 0, .string ⟨#[]⟩] 30)).drew w7.heap.size 30 [.string ⟨#[]⟩, .string ⟨#[]⟩, .string ⟨#[]⟩, .string ⟨#[]⟩, .int .i64 0, .string ⟨#[]⟩] := Arr.fresh w7 _ _
      have hb := ((hb6.trans ((below_one hb7).mono hb6.size)).alloc (hb6.trans ((below_one hb7).mono hb6.size)).size (.cells #[.string ⟨#[]⟩, .string ⟨#[]⟩, .string ⟨#[]⟩, .string ⟨#[]⟩, .int .i64 0, .string ⟨#[]⟩] 30))
      clear hb6 hb7
      refine wp_region_held_drew (S := (fun W => Arr W w6.heap.size 30 [.string k, .string t, .string f, .string o, .int .i64 n, .string b] ∧ Arr W w7.heap.size 30 [.string ⟨#[]⟩, .string ⟨#[]⟩, .string ⟨#[]⟩, .string ⟨#[]⟩, .int .i64 0, .string ⟨#[]⟩] ∧ Below w.heap.size w W)) (by kernel_rfl) ⟨hA, hX, hb.drew⟩ (fun hHeld => ?_)
      refine takeH (i := 0) (k := 80) (v := .agg #[.string ⟨#[]⟩, .string ⟨#[]⟩, .string ⟨#[]⟩, .string ⟨#[]⟩, .int .i64 0, .string ⟨#[]⟩]) rfl (by rfl) (by kernel_rfl) (by kernel_rfl) (by kernel_rfl) (fun _ _ _ h => h) (by rfl) ?_ hHeld ?_
      · intro w0 hSw; obtain ⟨⟨a0, a1, a2, a3, a4, a5⟩, _⟩ := arr_six hSw.1; obtain ⟨⟨x0, x1, x2, x3, x4, x5⟩, _⟩ := arr_six hSw.2.1; go_simp
      (try simp only [Act.put, List.setIfInBounds_toArray, List.set_cons_zero, List.set_cons_succ])
      refine takeH (i := 1) (k := 81) (v := .agg #[.string k, .string t, .string f, .string o, .int .i64 n, .string b]) rfl (by rfl) (by kernel_rfl) (by kernel_rfl) (by kernel_rfl) (fun _ _ _ h => h) (by rfl) ?_ hHeld ?_
      · intro w0 hSw; obtain ⟨⟨a0, a1, a2, a3, a4, a5⟩, _⟩ := arr_six hSw.1; obtain ⟨⟨x0, x1, x2, x3, x4, x5⟩, _⟩ := arr_six hSw.2.1; go_simp
      (try simp only [Act.put, List.setIfInBounds_toArray, List.set_cons_zero, List.set_cons_succ])
      refine takeH (i := 2) (k := 82) (v := .string nm) rfl (by rfl) (by kernel_rfl) (by kernel_rfl) (by kernel_rfl) (fun _ _ _ h => h) (by rfl) ?_ hHeld ?_
      · intro w0 hSw; obtain ⟨⟨a0, a1, a2, a3, a4, a5⟩, _⟩ := arr_six hSw.1; obtain ⟨⟨x0, x1, x2, x3, x4, x5⟩, _⟩ := arr_six hSw.2.1; go_simp
      (try simp only [Act.put, List.setIfInBounds_toArray, List.set_cons_zero, List.set_cons_succ])
      refine wpAnyH_ready (rs := [3]) (by kernel_rfl) (by simp) ?_
      refine AllReadyH.cons rfl (fun K hK => ?_) AllReadyH.nil
      rw [if_pos (by rfl)]
      go_simp
      go_fit (j1 _)
      rintro e wm ⟨rfl, hb2⟩
      refine hK.out _ _ (⟨arr_below hHeld.1 hb2, arr_below hHeld.2.1 hb2, hHeld.2.2.trans (hb2.mono hHeld.2.2.size)⟩) (fun hHeld => ?_)
      clear hK K
      (try simp only [Act.put, List.setIfInBounds_toArray, List.set_cons_zero, List.set_cons_succ])
      refine takeH (i := 4) (k := 84) (v := .bool true) rfl (by rfl) (by kernel_rfl) (by kernel_rfl) (by kernel_rfl) (fun _ _ _ h => h) (by rfl) ?_ hHeld ?_
      · intro w0 hSw; obtain ⟨⟨a0, a1, a2, a3, a4, a5⟩, _⟩ := arr_six hSw.1; obtain ⟨⟨x0, x1, x2, x3, x4, x5⟩, _⟩ := arr_six hSw.2.1; go_simp
      (try simp only [Act.put, List.setIfInBounds_toArray, List.set_cons_zero, List.set_cons_succ])
      refine takeH (i := 5) (k := 85) (v := .bool true) rfl (by rfl) (by kernel_rfl) (by kernel_rfl) (by kernel_rfl) (fun _ _ _ h => h) (by rfl) ?_ hHeld ?_
      · intro w0 hSw; obtain ⟨⟨a0, a1, a2, a3, a4, a5⟩, _⟩ := arr_six hSw.1; obtain ⟨⟨x0, x1, x2, x3, x4, x5⟩, _⟩ := arr_six hSw.2.1; go_simp
      (try simp only [Act.put, List.setIfInBounds_toArray, List.set_cons_zero, List.set_cons_succ])
      refine takeH (i := 6) (k := 86) (v := .pointer (some ⟨w7.heap.size, 0, none⟩)) rfl (by rfl) (by kernel_rfl) (by kernel_rfl) (by kernel_rfl) (fun _ _ _ h => h) (by rfl) ?_ hHeld ?_
      · intro w0 hSw; obtain ⟨⟨a0, a1, a2, a3, a4, a5⟩, _⟩ := arr_six hSw.1; obtain ⟨⟨x0, x1, x2, x3, x4, x5⟩, _⟩ := arr_six hSw.2.1; go_simp
      (try simp only [Act.put, List.setIfInBounds_toArray, List.set_cons_zero, List.set_cons_succ])
      refine takeH (i := 7) (k := 87) (v := .string ⟨#[]⟩) rfl (by rfl) (by kernel_rfl) (by kernel_rfl) (by kernel_rfl) (fun _ _ _ h => h) (by rfl) ?_ hHeld ?_
      · intro w0 hSw; obtain ⟨⟨a0, a1, a2, a3, a4, a5⟩, _⟩ := arr_six hSw.1; obtain ⟨⟨x0, x1, x2, x3, x4, x5⟩, _⟩ := arr_six hSw.2.1; go_simp
      (try simp only [Act.put, List.setIfInBounds_toArray, List.set_cons_zero, List.set_cons_succ])
      refine takeH (i := 8) (k := 88) (v := .bool true) rfl (by rfl) (by kernel_rfl) (by kernel_rfl) (by kernel_rfl) (fun _ _ _ h => h) (by rfl) ?_ hHeld ?_
      · intro w0 hSw; obtain ⟨⟨a0, a1, a2, a3, a4, a5⟩, _⟩ := arr_six hSw.1; obtain ⟨⟨x0, x1, x2, x3, x4, x5⟩, _⟩ := arr_six hSw.2.1; go_simp
      (try simp only [Act.put, List.setIfInBounds_toArray, List.set_cons_zero, List.set_cons_succ])
      refine takeH (i := 9) (k := 89) (v := .bool true) rfl (by rfl) (by kernel_rfl) (by kernel_rfl) (by kernel_rfl) (fun _ _ _ h => h) (by rfl) ?_ hHeld ?_
      · intro w0 hSw; obtain ⟨⟨a0, a1, a2, a3, a4, a5⟩, _⟩ := arr_six hSw.1; obtain ⟨⟨x0, x1, x2, x3, x4, x5⟩, _⟩ := arr_six hSw.2.1; go_simp
      (try simp only [Act.put, List.setIfInBounds_toArray, List.set_cons_zero, List.set_cons_succ])
      refine skipH (i := 10) (k := 90) rfl (by rfl) (by kernel_rfl) (by kernel_rfl) (by kernel_rfl) (fun _ _ _ h => h) (by rfl) hHeld ?_
      (try simp only [Act.put, List.setIfInBounds_toArray, List.set_cons_zero, List.set_cons_succ])
      refine skipH (i := 11) (k := 91) rfl (by rfl) (by kernel_rfl) (by kernel_rfl) (by kernel_rfl) (fun _ _ _ h => h) (by rfl) hHeld ?_
      (try simp only [Act.put, List.setIfInBounds_toArray, List.set_cons_zero, List.set_cons_succ])
      refine skipH (i := 12) (k := 92) rfl (by rfl) (by kernel_rfl) (by kernel_rfl) (by kernel_rfl) (fun _ _ _ h => h) (by rfl) hHeld ?_
      (try simp only [Act.put, List.setIfInBounds_toArray, List.set_cons_zero, List.set_cons_succ])
      refine skipH (i := 13) (k := 93) rfl (by rfl) (by kernel_rfl) (by kernel_rfl) (by kernel_rfl) (fun _ _ _ h => h) (by rfl) hHeld ?_
      (try simp only [Act.put, List.setIfInBounds_toArray, List.set_cons_zero, List.set_cons_succ])
      refine skipH (i := 14) (k := 94) rfl (by rfl) (by kernel_rfl) (by kernel_rfl) (by kernel_rfl) (fun _ _ _ h => h) (by rfl) hHeld ?_
      (try simp only [Act.put, List.setIfInBounds_toArray, List.set_cons_zero, List.set_cons_succ])
      refine skipH (i := 15) (k := 95) rfl (by rfl) (by kernel_rfl) (by kernel_rfl) (by kernel_rfl) (fun _ _ _ h => h) (by rfl) hHeld ?_
      (try simp only [Act.put, List.setIfInBounds_toArray, List.set_cons_zero, List.set_cons_succ])
      refine skipH (i := 16) (k := 96) rfl (by rfl) (by kernel_rfl) (by kernel_rfl) (by kernel_rfl) (fun _ _ _ h => h) (by rfl) hHeld ?_
      (try simp only [Act.put, List.setIfInBounds_toArray, List.set_cons_zero, List.set_cons_succ])
      refine skipH (i := 17) (k := 97) rfl (by rfl) (by kernel_rfl) (by kernel_rfl) (by kernel_rfl) (fun _ _ _ h => h) (by rfl) hHeld ?_
      (try simp only [Act.put, List.setIfInBounds_toArray, List.set_cons_zero, List.set_cons_succ])
      refine skipH (i := 18) (k := 98) rfl (by rfl) (by kernel_rfl) (by kernel_rfl) (by kernel_rfl) (fun _ _ _ h => h) (by rfl) hHeld ?_
      (try simp only [Act.put, List.setIfInBounds_toArray, List.set_cons_zero, List.set_cons_succ])
      refine skipH (i := 19) (k := 99) rfl (by rfl) (by kernel_rfl) (by kernel_rfl) (by kernel_rfl) (fun _ _ _ h => h) (by rfl) hHeld ?_
      (try simp only [Act.put, List.setIfInBounds_toArray, List.set_cons_zero, List.set_cons_succ])
      refine skipH (i := 20) (k := 100) rfl (by rfl) (by kernel_rfl) (by kernel_rfl) (by kernel_rfl) (fun _ _ _ h => h) (by rfl) hHeld ?_
      (try simp only [Act.put, List.setIfInBounds_toArray, List.set_cons_zero, List.set_cons_succ])
      refine skipH (i := 21) (k := 101) rfl (by rfl) (by kernel_rfl) (by kernel_rfl) (by kernel_rfl) (fun _ _ _ h => h) (by rfl) hHeld ?_
      (try simp only [Act.put, List.setIfInBounds_toArray, List.set_cons_zero, List.set_cons_succ])
      refine skipH (i := 22) (k := 102) rfl (by rfl) (by kernel_rfl) (by kernel_rfl) (by kernel_rfl) (fun _ _ _ h => h) (by rfl) hHeld ?_
      (try simp only [Act.put, List.setIfInBounds_toArray, List.set_cons_zero, List.set_cons_succ])
      refine skipH (i := 23) (k := 103) rfl (by rfl) (by kernel_rfl) (by kernel_rfl) (by kernel_rfl) (fun _ _ _ h => h) (by rfl) hHeld ?_
      (try simp only [Act.put, List.setIfInBounds_toArray, List.set_cons_zero, List.set_cons_succ])
      refine skipH (i := 24) (k := 104) rfl (by rfl) (by kernel_rfl) (by kernel_rfl) (by kernel_rfl) (fun _ _ _ h => h) (by rfl) hHeld ?_
      (try simp only [Act.put, List.setIfInBounds_toArray, List.set_cons_zero, List.set_cons_succ])
      refine skipH (i := 25) (k := 105) rfl (by rfl) (by kernel_rfl) (by kernel_rfl) (by kernel_rfl) (fun _ _ _ h => h) (by rfl) hHeld ?_
      (try simp only [Act.put, List.setIfInBounds_toArray, List.set_cons_zero, List.set_cons_succ])
      refine skipH (i := 26) (k := 106) rfl (by rfl) (by kernel_rfl) (by kernel_rfl) (by kernel_rfl) (fun _ _ _ h => h) (by rfl) hHeld ?_
      (try simp only [Act.put, List.setIfInBounds_toArray, List.set_cons_zero, List.set_cons_succ])
      refine takeH (i := 27) (k := 107) (v := .bool true) rfl (by rfl) (by kernel_rfl) (by kernel_rfl) (by kernel_rfl) (fun _ _ _ h => h) (by rfl) ?_ hHeld ?_
      · intro w0 hSw; obtain ⟨⟨a0, a1, a2, a3, a4, a5⟩, _⟩ := arr_six hSw.1; obtain ⟨⟨x0, x1, x2, x3, x4, x5⟩, _⟩ := arr_six hSw.2.1; go_simp
      (try simp only [Act.put, List.setIfInBounds_toArray, List.set_cons_zero, List.set_cons_succ])
      refine takeH (i := 28) (k := 108) (v := .bool true) rfl (by rfl) (by kernel_rfl) (by kernel_rfl) (by kernel_rfl) (fun _ _ _ h => h) (by rfl) ?_ hHeld ?_
      · intro w0 hSw; obtain ⟨⟨a0, a1, a2, a3, a4, a5⟩, _⟩ := arr_six hSw.1; obtain ⟨⟨x0, x1, x2, x3, x4, x5⟩, _⟩ := arr_six hSw.2.1; go_simp
      (try simp only [Act.put, List.setIfInBounds_toArray, List.set_cons_zero, List.set_cons_succ])
      refine takeH (i := 29) (k := 4) (v := .bool true) rfl (by rfl) (by kernel_rfl) (by kernel_rfl) (by kernel_rfl) (fun _ _ _ h => h) (by rfl) ?_ hHeld ?_
      · intro w0 hSw; obtain ⟨⟨a0, a1, a2, a3, a4, a5⟩, _⟩ := arr_six hSw.1; obtain ⟨⟨x0, x1, x2, x3, x4, x5⟩, _⟩ := arr_six hSw.2.1; go_simp
      (try simp only [Act.put, List.setIfInBounds_toArray, List.set_cons_zero, List.set_cons_succ])
      refine wpAnyH_done (by kernel_rfl) ?_ _
      have HB := Lib.hid hHeld.2.2
      clear hHeld
      go_wp2
      go_ret
      exact ⟨rfl, HB.out⟩
    · have n1 := ne_nil hk
      have e1 := not_empty hk
      rw [hv] at j0 j1
      clear hv
      go_wp2_with (go_at_call 20; go_fit (j0 _ (HM.out _ (hb6.alloc hb6.size _))); rintro e w7 ⟨rfl, hb7⟩)
      have hA : Arr (w7.alloc (.cells #[.string k, .string ⟨#[101, 114, 114, 111, 114]⟩, .string o, .string f, .int .i64 n, .string nm] 30)).drew w6.heap.size 30 [.string k, .string t, .string f, .string o, .int .i64 n, .string b] := arr_alloc (arr_below (Arr.fresh w6 _ _) hb7) _
      have hX : Arr (w7.alloc (.cells #[.string k, .string ⟨#[101, 114, 114, 111, 114]⟩, .string o, .string f, .int .i64 n, .string nm] 30)).drew w7.heap.size 30 [.string k, .string ⟨#[101, 114, 114, 111, 114]⟩, .string o, .string f, .int .i64 n, .string nm] := Arr.fresh w7 _ _
      have hb := ((hb6.trans ((below_one hb7).mono hb6.size)).alloc (hb6.trans ((below_one hb7).mono hb6.size)).size (.cells #[.string k, .string ⟨#[101, 114, 114, 111, 114]⟩, .string o, .string f, .int .i64 n, .string nm] 30))
      clear hb6 hb7
      refine wp_region_held_drew (S := (fun W => Arr W w6.heap.size 30 [.string k, .string t, .string f, .string o, .int .i64 n, .string b] ∧ Arr W w7.heap.size 30 [.string k, .string ⟨#[101, 114, 114, 111, 114]⟩, .string o, .string f, .int .i64 n, .string nm] ∧ Below w.heap.size w W)) (by kernel_rfl) ⟨hA, hX, hb.drew⟩ (fun hHeld => ?_)
      refine takeH (i := 0) (k := 80) (v := .agg #[.string k, .string ⟨#[101, 114, 114, 111, 114]⟩, .string o, .string f, .int .i64 n, .string nm]) rfl (by rfl) (by kernel_rfl) (by kernel_rfl) (by kernel_rfl) (fun _ _ _ h => h) (by rfl) ?_ hHeld ?_
      · intro w0 hSw; obtain ⟨⟨a0, a1, a2, a3, a4, a5⟩, _⟩ := arr_six hSw.1; obtain ⟨⟨x0, x1, x2, x3, x4, x5⟩, _⟩ := arr_six hSw.2.1; go_simp
      (try simp only [Act.put, List.setIfInBounds_toArray, List.set_cons_zero, List.set_cons_succ])
      refine takeH (i := 1) (k := 81) (v := .agg #[.string k, .string t, .string f, .string o, .int .i64 n, .string b]) rfl (by rfl) (by kernel_rfl) (by kernel_rfl) (by kernel_rfl) (fun _ _ _ h => h) (by rfl) ?_ hHeld ?_
      · intro w0 hSw; obtain ⟨⟨a0, a1, a2, a3, a4, a5⟩, _⟩ := arr_six hSw.1; obtain ⟨⟨x0, x1, x2, x3, x4, x5⟩, _⟩ := arr_six hSw.2.1; go_simp
      (try simp only [Act.put, List.setIfInBounds_toArray, List.set_cons_zero, List.set_cons_succ])
      refine takeH (i := 2) (k := 82) (v := .string nm) rfl (by rfl) (by kernel_rfl) (by kernel_rfl) (by kernel_rfl) (fun _ _ _ h => h) (by rfl) ?_ hHeld ?_
      · intro w0 hSw; obtain ⟨⟨a0, a1, a2, a3, a4, a5⟩, _⟩ := arr_six hSw.1; obtain ⟨⟨x0, x1, x2, x3, x4, x5⟩, _⟩ := arr_six hSw.2.1; go_simp
      (try simp only [Act.put, List.setIfInBounds_toArray, List.set_cons_zero, List.set_cons_succ])
      refine wpAnyH_ready (rs := [3]) (by kernel_rfl) (by simp) ?_
      refine AllReadyH.cons rfl (fun K hK => ?_) AllReadyH.nil
      rw [if_pos (by rfl)]
      go_simp
      go_fit (j1 _)
      rintro e wm ⟨rfl, hb2⟩
      refine hK.out _ _ (⟨arr_below hHeld.1 hb2, arr_below hHeld.2.1 hb2, hHeld.2.2.trans (hb2.mono hHeld.2.2.size)⟩) (fun hHeld => ?_)
      clear hK K
      (try simp only [Act.put, List.setIfInBounds_toArray, List.set_cons_zero, List.set_cons_succ])
      refine takeH (i := 4) (k := 84) (v := .bool true) rfl (by rfl) (by kernel_rfl) (by kernel_rfl) (by kernel_rfl) (fun _ _ _ h => h) (by rfl) ?_ hHeld ?_
      · intro w0 hSw; obtain ⟨⟨a0, a1, a2, a3, a4, a5⟩, _⟩ := arr_six hSw.1; obtain ⟨⟨x0, x1, x2, x3, x4, x5⟩, _⟩ := arr_six hSw.2.1; go_simp
      (try simp only [Act.put, List.setIfInBounds_toArray, List.set_cons_zero, List.set_cons_succ])
      refine takeH (i := 5) (k := 85) (v := .bool true) rfl (by rfl) (by kernel_rfl) (by kernel_rfl) (by kernel_rfl) (fun _ _ _ h => h) (by rfl) ?_ hHeld ?_
      · intro w0 hSw; obtain ⟨⟨a0, a1, a2, a3, a4, a5⟩, _⟩ := arr_six hSw.1; obtain ⟨⟨x0, x1, x2, x3, x4, x5⟩, _⟩ := arr_six hSw.2.1; go_simp
      (try simp only [Act.put, List.setIfInBounds_toArray, List.set_cons_zero, List.set_cons_succ])
      refine takeH (i := 6) (k := 86) (v := .pointer (some ⟨w7.heap.size, 0, none⟩)) rfl (by rfl) (by kernel_rfl) (by kernel_rfl) (by kernel_rfl) (fun _ _ _ h => h) (by rfl) ?_ hHeld ?_
      · intro w0 hSw; obtain ⟨⟨a0, a1, a2, a3, a4, a5⟩, _⟩ := arr_six hSw.1; obtain ⟨⟨x0, x1, x2, x3, x4, x5⟩, _⟩ := arr_six hSw.2.1; go_simp
      (try simp only [Act.put, List.setIfInBounds_toArray, List.set_cons_zero, List.set_cons_succ])
      refine takeH (i := 7) (k := 87) (v := .string k) rfl (by rfl) (by kernel_rfl) (by kernel_rfl) (by kernel_rfl) (fun _ _ _ h => h) (by rfl) ?_ hHeld ?_
      · intro w0 hSw; obtain ⟨⟨a0, a1, a2, a3, a4, a5⟩, _⟩ := arr_six hSw.1; obtain ⟨⟨x0, x1, x2, x3, x4, x5⟩, _⟩ := arr_six hSw.2.1; go_simp
      (try simp only [Act.put, List.setIfInBounds_toArray, List.set_cons_zero, List.set_cons_succ])
      refine takeH (i := 8) (k := 88) (v := .bool false) rfl (by rfl) (by kernel_rfl) (by kernel_rfl) (by kernel_rfl) (fun _ _ _ h => h) (by rfl) ?_ hHeld ?_
      · intro w0 hSw; obtain ⟨⟨a0, a1, a2, a3, a4, a5⟩, _⟩ := arr_six hSw.1; obtain ⟨⟨x0, x1, x2, x3, x4, x5⟩, _⟩ := arr_six hSw.2.1; go_simp
      (try simp only [Act.put, List.setIfInBounds_toArray, List.set_cons_zero, List.set_cons_succ])
      refine takeH (i := 9) (k := 89) (v := .bool false) rfl (by rfl) (by kernel_rfl) (by kernel_rfl) (by kernel_rfl) (fun _ _ _ h => h) (by rfl) ?_ hHeld ?_
      · intro w0 hSw; obtain ⟨⟨a0, a1, a2, a3, a4, a5⟩, _⟩ := arr_six hSw.1; obtain ⟨⟨x0, x1, x2, x3, x4, x5⟩, _⟩ := arr_six hSw.2.1; go_simp
      (try simp only [Act.put, List.setIfInBounds_toArray, List.set_cons_zero, List.set_cons_succ])
      refine takeH (i := 10) (k := 90) (v := .pointer (some ⟨w7.heap.size, 1, none⟩)) rfl (by rfl) (by kernel_rfl) (by kernel_rfl) (by kernel_rfl) (fun _ _ _ h => h) (by rfl) ?_ hHeld ?_
      · intro w0 hSw; obtain ⟨⟨a0, a1, a2, a3, a4, a5⟩, _⟩ := arr_six hSw.1; obtain ⟨⟨x0, x1, x2, x3, x4, x5⟩, _⟩ := arr_six hSw.2.1; go_simp
      (try simp only [Act.put, List.setIfInBounds_toArray, List.set_cons_zero, List.set_cons_succ])
      refine takeH (i := 11) (k := 91) (v := .string ⟨#[101, 114, 114, 111, 114]⟩) rfl (by rfl) (by kernel_rfl) (by kernel_rfl) (by kernel_rfl) (fun _ _ _ h => h) (by rfl) ?_ hHeld ?_
      · intro w0 hSw; obtain ⟨⟨a0, a1, a2, a3, a4, a5⟩, _⟩ := arr_six hSw.1; obtain ⟨⟨x0, x1, x2, x3, x4, x5⟩, _⟩ := arr_six hSw.2.1; go_simp
      (try simp only [Act.put, List.setIfInBounds_toArray, List.set_cons_zero, List.set_cons_succ])
      refine takeH (i := 12) (k := 92) (v := .bool true) rfl (by rfl) (by kernel_rfl) (by kernel_rfl) (by kernel_rfl) (fun _ _ _ h => h) (by rfl) ?_ hHeld ?_
      · intro w0 hSw; obtain ⟨⟨a0, a1, a2, a3, a4, a5⟩, _⟩ := arr_six hSw.1; obtain ⟨⟨x0, x1, x2, x3, x4, x5⟩, _⟩ := arr_six hSw.2.1; go_simp
      (try simp only [Act.put, List.setIfInBounds_toArray, List.set_cons_zero, List.set_cons_succ])
      refine takeH (i := 13) (k := 93) (v := .bool true) rfl (by rfl) (by kernel_rfl) (by kernel_rfl) (by kernel_rfl) (fun _ _ _ h => h) (by rfl) ?_ hHeld ?_
      · intro w0 hSw; obtain ⟨⟨a0, a1, a2, a3, a4, a5⟩, _⟩ := arr_six hSw.1; obtain ⟨⟨x0, x1, x2, x3, x4, x5⟩, _⟩ := arr_six hSw.2.1; go_simp
      (try simp only [Act.put, List.setIfInBounds_toArray, List.set_cons_zero, List.set_cons_succ])
      refine takeH (i := 14) (k := 94) (v := .agg #[.string k, .string ⟨#[101, 114, 114, 111, 114]⟩, .string o, .string f, .int .i64 n, .string nm]) rfl (by rfl) (by kernel_rfl) (by kernel_rfl) (by kernel_rfl) (fun _ _ _ h => h) (by rfl) ?_ hHeld ?_
      · intro w0 hSw; obtain ⟨⟨a0, a1, a2, a3, a4, a5⟩, _⟩ := arr_six hSw.1; obtain ⟨⟨x0, x1, x2, x3, x4, x5⟩, _⟩ := arr_six hSw.2.1; go_simp
      (try simp only [Act.put, List.setIfInBounds_toArray, List.set_cons_zero, List.set_cons_succ])
      refine takeH (i := 15) (k := 95) (v := .string nm) rfl (by rfl) (by kernel_rfl) (by kernel_rfl) (by kernel_rfl) (fun _ _ _ h => h) (by rfl) ?_ hHeld ?_
      · intro w0 hSw; obtain ⟨⟨a0, a1, a2, a3, a4, a5⟩, _⟩ := arr_six hSw.1; obtain ⟨⟨x0, x1, x2, x3, x4, x5⟩, _⟩ := arr_six hSw.2.1; go_simp
      (try simp only [Act.put, List.setIfInBounds_toArray, List.set_cons_zero, List.set_cons_succ])
      refine takeH (i := 17) (k := 97) (v := .agg #[.string ⟨#[]⟩, .string ⟨#[]⟩, .string ⟨#[]⟩, .string ⟨#[]⟩, .int .i64 0, .string ⟨#[]⟩]) rfl (by rfl) (by kernel_rfl) (by kernel_rfl) (by kernel_rfl) (fun _ _ _ h => h) (by rfl) ?_ hHeld ?_
      · intro w0 hSw; obtain ⟨⟨a0, a1, a2, a3, a4, a5⟩, _⟩ := arr_six hSw.1; obtain ⟨⟨x0, x1, x2, x3, x4, x5⟩, _⟩ := arr_six hSw.2.1; go_simp
      (try simp only [Act.put, List.setIfInBounds_toArray, List.set_cons_zero, List.set_cons_succ])
      refine wpAnyH_ready (rs := [16]) (by kernel_rfl) (by simp) ?_
      refine AllReadyH.cons rfl (fun K hK => ?_) AllReadyH.nil
      rw [if_pos (by rfl)]
      go_simp
      go_fit (j2 _ (HM.out _ hHeld.2.2))
      rintro e wm ⟨rfl, hb2⟩
      refine hK.out _ _ (⟨arr_below hHeld.1 hb2, arr_below hHeld.2.1 hb2, hHeld.2.2.trans (hb2.mono hHeld.2.2.size)⟩) (fun hHeld => ?_)
      clear hK K
      (try simp only [Act.put, List.setIfInBounds_toArray, List.set_cons_zero, List.set_cons_succ])
      refine takeH (i := 18) (k := 98) (v := .bool true) rfl (by rfl) (by kernel_rfl) (by kernel_rfl) (by kernel_rfl) (fun _ _ _ h => h) (by rfl) ?_ hHeld ?_
      · intro w0 hSw; obtain ⟨⟨a0, a1, a2, a3, a4, a5⟩, _⟩ := arr_six hSw.1; obtain ⟨⟨x0, x1, x2, x3, x4, x5⟩, _⟩ := arr_six hSw.2.1; go_simp
      (try simp only [Act.put, List.setIfInBounds_toArray, List.set_cons_zero, List.set_cons_succ])
      refine takeH (i := 19) (k := 99) (v := .bool true) rfl (by rfl) (by kernel_rfl) (by kernel_rfl) (by kernel_rfl) (fun _ _ _ h => h) (by rfl) ?_ hHeld ?_
      · intro w0 hSw; obtain ⟨⟨a0, a1, a2, a3, a4, a5⟩, _⟩ := arr_six hSw.1; obtain ⟨⟨x0, x1, x2, x3, x4, x5⟩, _⟩ := arr_six hSw.2.1; go_simp
      (try simp only [Act.put, List.setIfInBounds_toArray, List.set_cons_zero, List.set_cons_succ])
      refine takeH (i := 20) (k := 100) (v := .bool true) rfl (by rfl) (by kernel_rfl) (by kernel_rfl) (by kernel_rfl) (fun _ _ _ h => h) (by rfl) ?_ hHeld ?_
      · intro w0 hSw; obtain ⟨⟨a0, a1, a2, a3, a4, a5⟩, _⟩ := arr_six hSw.1; obtain ⟨⟨x0, x1, x2, x3, x4, x5⟩, _⟩ := arr_six hSw.2.1; go_simp
      (try simp only [Act.put, List.setIfInBounds_toArray, List.set_cons_zero, List.set_cons_succ])
      refine takeH (i := 21) (k := 101) (v := .pointer (some ⟨w7.heap.size, 3, none⟩)) rfl (by rfl) (by kernel_rfl) (by kernel_rfl) (by kernel_rfl) (fun _ _ _ h => h) (by rfl) ?_ hHeld ?_
      · intro w0 hSw; obtain ⟨⟨a0, a1, a2, a3, a4, a5⟩, _⟩ := arr_six hSw.1; obtain ⟨⟨x0, x1, x2, x3, x4, x5⟩, _⟩ := arr_six hSw.2.1; go_simp
      (try simp only [Act.put, List.setIfInBounds_toArray, List.set_cons_zero, List.set_cons_succ])
      refine takeH (i := 22) (k := 102) (v := .string f) rfl (by rfl) (by kernel_rfl) (by kernel_rfl) (by kernel_rfl) (fun _ _ _ h => h) (by rfl) ?_ hHeld ?_
      · intro w0 hSw; obtain ⟨⟨a0, a1, a2, a3, a4, a5⟩, _⟩ := arr_six hSw.1; obtain ⟨⟨x0, x1, x2, x3, x4, x5⟩, _⟩ := arr_six hSw.2.1; go_simp
      (try simp only [Act.put, List.setIfInBounds_toArray, List.set_cons_zero, List.set_cons_succ])
      refine takeH (i := 23) (k := 103) (v := .pointer (some ⟨w6.heap.size, 2, none⟩)) rfl (by rfl) (by kernel_rfl) (by kernel_rfl) (by kernel_rfl) (fun _ _ _ h => h) (by rfl) ?_ hHeld ?_
      · intro w0 hSw; obtain ⟨⟨a0, a1, a2, a3, a4, a5⟩, _⟩ := arr_six hSw.1; obtain ⟨⟨x0, x1, x2, x3, x4, x5⟩, _⟩ := arr_six hSw.2.1; go_simp
      (try simp only [Act.put, List.setIfInBounds_toArray, List.set_cons_zero, List.set_cons_succ])
      refine takeH (i := 24) (k := 104) (v := .string f) rfl (by rfl) (by kernel_rfl) (by kernel_rfl) (by kernel_rfl) (fun _ _ _ h => h) (by rfl) ?_ hHeld ?_
      · intro w0 hSw; obtain ⟨⟨a0, a1, a2, a3, a4, a5⟩, _⟩ := arr_six hSw.1; obtain ⟨⟨x0, x1, x2, x3, x4, x5⟩, _⟩ := arr_six hSw.2.1; go_simp
      (try simp only [Act.put, List.setIfInBounds_toArray, List.set_cons_zero, List.set_cons_succ])
      refine takeH (i := 25) (k := 105) (v := .bool true) rfl (by rfl) (by kernel_rfl) (by kernel_rfl) (by kernel_rfl) (fun _ _ _ h => h) (by rfl) ?_ hHeld ?_
      · intro w0 hSw; obtain ⟨⟨a0, a1, a2, a3, a4, a5⟩, _⟩ := arr_six hSw.1; obtain ⟨⟨x0, x1, x2, x3, x4, x5⟩, _⟩ := arr_six hSw.2.1; go_simp
      (try simp only [Act.put, List.setIfInBounds_toArray, List.set_cons_zero, List.set_cons_succ])
      refine takeH (i := 26) (k := 106) (v := .bool true) rfl (by rfl) (by kernel_rfl) (by kernel_rfl) (by kernel_rfl) (fun _ _ _ h => h) (by rfl) ?_ hHeld ?_
      · intro w0 hSw; obtain ⟨⟨a0, a1, a2, a3, a4, a5⟩, _⟩ := arr_six hSw.1; obtain ⟨⟨x0, x1, x2, x3, x4, x5⟩, _⟩ := arr_six hSw.2.1; go_simp
      (try simp only [Act.put, List.setIfInBounds_toArray, List.set_cons_zero, List.set_cons_succ])
      refine takeH (i := 27) (k := 107) (v := .bool true) rfl (by rfl) (by kernel_rfl) (by kernel_rfl) (by kernel_rfl) (fun _ _ _ h => h) (by rfl) ?_ hHeld ?_
      · intro w0 hSw; obtain ⟨⟨a0, a1, a2, a3, a4, a5⟩, _⟩ := arr_six hSw.1; obtain ⟨⟨x0, x1, x2, x3, x4, x5⟩, _⟩ := arr_six hSw.2.1; go_simp
      (try simp only [Act.put, List.setIfInBounds_toArray, List.set_cons_zero, List.set_cons_succ])
      refine takeH (i := 28) (k := 108) (v := .bool true) rfl (by rfl) (by kernel_rfl) (by kernel_rfl) (by kernel_rfl) (fun _ _ _ h => h) (by rfl) ?_ hHeld ?_
      · intro w0 hSw; obtain ⟨⟨a0, a1, a2, a3, a4, a5⟩, _⟩ := arr_six hSw.1; obtain ⟨⟨x0, x1, x2, x3, x4, x5⟩, _⟩ := arr_six hSw.2.1; go_simp
      (try simp only [Act.put, List.setIfInBounds_toArray, List.set_cons_zero, List.set_cons_succ])
      refine takeH (i := 29) (k := 4) (v := .bool true) rfl (by rfl) (by kernel_rfl) (by kernel_rfl) (by kernel_rfl) (fun _ _ _ h => h) (by rfl) ?_ hHeld ?_
      · intro w0 hSw; obtain ⟨⟨a0, a1, a2, a3, a4, a5⟩, _⟩ := arr_six hSw.1; obtain ⟨⟨x0, x1, x2, x3, x4, x5⟩, _⟩ := arr_six hSw.2.1; go_simp
      (try simp only [Act.put, List.setIfInBounds_toArray, List.set_cons_zero, List.set_cons_succ])
      refine wpAnyH_done (by kernel_rfl) ?_ _
      have HB := Lib.hid hHeld.2.2
      clear hHeld
      go_wp2
      go_ret
      exact ⟨rfl, HB.out⟩
  · have n1 := ne_nil hk
    have e1 := not_empty hk
    rw [hv2] at j2
    clear hv2
    rw [hv] at j0 j1
    clear hv
    go_wp2_with (go_at_call 17; go_fit (j0 _ (HM.out _ (hb1.alloc hb1.size _))); rintro e w2 ⟨rfl, hb2⟩)
    have hA : Arr (w2.alloc (.cells #[.string k, .string kd, .string o, .string f, .int .i64 n, .string bd] 30)).drew w1.heap.size 30 [.string k, .string t, .string f, .string o, .int .i64 n, .string b] := arr_alloc (arr_below (Arr.fresh w1 _ _) hb2) _
    have hX : Arr (w2.alloc (.cells #[.string k, .string kd, .string o, .string f, .int .i64 n, .string bd] 30)).drew w2.heap.size 30 [.string k, .string kd, .string o, .string f, .int .i64 n, .string bd] := Arr.fresh w2 _ _
    have hb := ((hb1.trans ((below_one hb2).mono hb1.size)).alloc (hb1.trans ((below_one hb2).mono hb1.size)).size (.cells #[.string k, .string kd, .string o, .string f, .int .i64 n, .string bd] 30))
    clear hb1 hb2
    refine wp_region_held_drew (S := (fun W => Arr W w1.heap.size 30 [.string k, .string t, .string f, .string o, .int .i64 n, .string b] ∧ Arr W w2.heap.size 30 [.string k, .string kd, .string o, .string f, .int .i64 n, .string bd] ∧ Below w.heap.size w W)) (by kernel_rfl) ⟨hA, hX, hb.drew⟩ (fun hHeld => ?_)
    refine takeH (i := 0) (k := 30) (v := .agg #[.string k, .string kd, .string o, .string f, .int .i64 n, .string bd]) rfl (by rfl) (by kernel_rfl) (by kernel_rfl) (by kernel_rfl) (fun _ _ _ h => h) (by rfl) ?_ hHeld ?_
    · intro w0 hSw; obtain ⟨⟨a0, a1, a2, a3, a4, a5⟩, _⟩ := arr_six hSw.1; obtain ⟨⟨x0, x1, x2, x3, x4, x5⟩, _⟩ := arr_six hSw.2.1; go_simp
    (try simp only [Act.put, List.setIfInBounds_toArray, List.set_cons_zero, List.set_cons_succ])
    refine takeH (i := 1) (k := 31) (v := .agg #[.string k, .string t, .string f, .string o, .int .i64 n, .string b]) rfl (by rfl) (by kernel_rfl) (by kernel_rfl) (by kernel_rfl) (fun _ _ _ h => h) (by rfl) ?_ hHeld ?_
    · intro w0 hSw; obtain ⟨⟨a0, a1, a2, a3, a4, a5⟩, _⟩ := arr_six hSw.1; obtain ⟨⟨x0, x1, x2, x3, x4, x5⟩, _⟩ := arr_six hSw.2.1; go_simp
    (try simp only [Act.put, List.setIfInBounds_toArray, List.set_cons_zero, List.set_cons_succ])
    refine takeH (i := 2) (k := 32) (v := .string kd) rfl (by rfl) (by kernel_rfl) (by kernel_rfl) (by kernel_rfl) (fun _ _ _ h => h) (by rfl) ?_ hHeld ?_
    · intro w0 hSw; obtain ⟨⟨a0, a1, a2, a3, a4, a5⟩, _⟩ := arr_six hSw.1; obtain ⟨⟨x0, x1, x2, x3, x4, x5⟩, _⟩ := arr_six hSw.2.1; go_simp
    (try simp only [Act.put, List.setIfInBounds_toArray, List.set_cons_zero, List.set_cons_succ])
    refine takeH (i := 3) (k := 33) (v := .string bd) rfl (by rfl) (by kernel_rfl) (by kernel_rfl) (by kernel_rfl) (fun _ _ _ h => h) (by rfl) ?_ hHeld ?_
    · intro w0 hSw; obtain ⟨⟨a0, a1, a2, a3, a4, a5⟩, _⟩ := arr_six hSw.1; obtain ⟨⟨x0, x1, x2, x3, x4, x5⟩, _⟩ := arr_six hSw.2.1; go_simp
    (try simp only [Act.put, List.setIfInBounds_toArray, List.set_cons_zero, List.set_cons_succ])
    refine wpAnyH_ready (rs := [4]) (by kernel_rfl) (by simp) ?_
    refine AllReadyH.cons rfl (fun K hK => ?_) AllReadyH.nil
    rw [if_pos (by rfl)]
    go_simp
    go_fit (j1 _)
    rintro e wm ⟨rfl, hb2⟩
    refine hK.out _ _ (⟨arr_below hHeld.1 hb2, arr_below hHeld.2.1 hb2, hHeld.2.2.trans (hb2.mono hHeld.2.2.size)⟩) (fun hHeld => ?_)
    clear hK K
    (try simp only [Act.put, List.setIfInBounds_toArray, List.set_cons_zero, List.set_cons_succ])
    refine takeH (i := 5) (k := 35) (v := .bool false) rfl (by rfl) (by kernel_rfl) (by kernel_rfl) (by kernel_rfl) (fun _ _ _ h => h) (by rfl) ?_ hHeld ?_
    · intro w0 hSw; obtain ⟨⟨a0, a1, a2, a3, a4, a5⟩, _⟩ := arr_six hSw.1; obtain ⟨⟨x0, x1, x2, x3, x4, x5⟩, _⟩ := arr_six hSw.2.1; go_simp
    (try simp only [Act.put, List.setIfInBounds_toArray, List.set_cons_zero, List.set_cons_succ])
    refine takeH (i := 6) (k := 36) (v := .bool false) rfl (by rfl) (by kernel_rfl) (by kernel_rfl) (by kernel_rfl) (fun _ _ _ h => h) (by rfl) ?_ hHeld ?_
    · intro w0 hSw; obtain ⟨⟨a0, a1, a2, a3, a4, a5⟩, _⟩ := arr_six hSw.1; obtain ⟨⟨x0, x1, x2, x3, x4, x5⟩, _⟩ := arr_six hSw.2.1; go_simp
    (try simp only [Act.put, List.setIfInBounds_toArray, List.set_cons_zero, List.set_cons_succ])
    refine takeH (i := 7) (k := 37) (v := .pointer (some ⟨w2.heap.size, 0, none⟩)) rfl (by rfl) (by kernel_rfl) (by kernel_rfl) (by kernel_rfl) (fun _ _ _ h => h) (by rfl) ?_ hHeld ?_
    · intro w0 hSw; obtain ⟨⟨a0, a1, a2, a3, a4, a5⟩, _⟩ := arr_six hSw.1; obtain ⟨⟨x0, x1, x2, x3, x4, x5⟩, _⟩ := arr_six hSw.2.1; go_simp
    (try simp only [Act.put, List.setIfInBounds_toArray, List.set_cons_zero, List.set_cons_succ])
    refine takeH (i := 8) (k := 38) (v := .string k) rfl (by rfl) (by kernel_rfl) (by kernel_rfl) (by kernel_rfl) (fun _ _ _ h => h) (by rfl) ?_ hHeld ?_
    · intro w0 hSw; obtain ⟨⟨a0, a1, a2, a3, a4, a5⟩, _⟩ := arr_six hSw.1; obtain ⟨⟨x0, x1, x2, x3, x4, x5⟩, _⟩ := arr_six hSw.2.1; go_simp
    (try simp only [Act.put, List.setIfInBounds_toArray, List.set_cons_zero, List.set_cons_succ])
    refine takeH (i := 9) (k := 39) (v := .bool true) rfl (by rfl) (by kernel_rfl) (by kernel_rfl) (by kernel_rfl) (fun _ _ _ h => h) (by rfl) ?_ hHeld ?_
    · intro w0 hSw; obtain ⟨⟨a0, a1, a2, a3, a4, a5⟩, _⟩ := arr_six hSw.1; obtain ⟨⟨x0, x1, x2, x3, x4, x5⟩, _⟩ := arr_six hSw.2.1; go_simp
    (try simp only [Act.put, List.setIfInBounds_toArray, List.set_cons_zero, List.set_cons_succ])
    refine takeH (i := 10) (k := 40) (v := .bool true) rfl (by rfl) (by kernel_rfl) (by kernel_rfl) (by kernel_rfl) (fun _ _ _ h => h) (by rfl) ?_ hHeld ?_
    · intro w0 hSw; obtain ⟨⟨a0, a1, a2, a3, a4, a5⟩, _⟩ := arr_six hSw.1; obtain ⟨⟨x0, x1, x2, x3, x4, x5⟩, _⟩ := arr_six hSw.2.1; go_simp
    (try simp only [Act.put, List.setIfInBounds_toArray, List.set_cons_zero, List.set_cons_succ])
    refine takeH (i := 11) (k := 41) (v := .pointer (some ⟨w2.heap.size, 3, none⟩)) rfl (by rfl) (by kernel_rfl) (by kernel_rfl) (by kernel_rfl) (fun _ _ _ h => h) (by rfl) ?_ hHeld ?_
    · intro w0 hSw; obtain ⟨⟨a0, a1, a2, a3, a4, a5⟩, _⟩ := arr_six hSw.1; obtain ⟨⟨x0, x1, x2, x3, x4, x5⟩, _⟩ := arr_six hSw.2.1; go_simp
    (try simp only [Act.put, List.setIfInBounds_toArray, List.set_cons_zero, List.set_cons_succ])
    refine takeH (i := 12) (k := 42) (v := .string f) rfl (by rfl) (by kernel_rfl) (by kernel_rfl) (by kernel_rfl) (fun _ _ _ h => h) (by rfl) ?_ hHeld ?_
    · intro w0 hSw; obtain ⟨⟨a0, a1, a2, a3, a4, a5⟩, _⟩ := arr_six hSw.1; obtain ⟨⟨x0, x1, x2, x3, x4, x5⟩, _⟩ := arr_six hSw.2.1; go_simp
    (try simp only [Act.put, List.setIfInBounds_toArray, List.set_cons_zero, List.set_cons_succ])
    refine takeH (i := 13) (k := 43) (v := .pointer (some ⟨w1.heap.size, 2, none⟩)) rfl (by rfl) (by kernel_rfl) (by kernel_rfl) (by kernel_rfl) (fun _ _ _ h => h) (by rfl) ?_ hHeld ?_
    · intro w0 hSw; obtain ⟨⟨a0, a1, a2, a3, a4, a5⟩, _⟩ := arr_six hSw.1; obtain ⟨⟨x0, x1, x2, x3, x4, x5⟩, _⟩ := arr_six hSw.2.1; go_simp
    (try simp only [Act.put, List.setIfInBounds_toArray, List.set_cons_zero, List.set_cons_succ])
    refine takeH (i := 14) (k := 44) (v := .string f) rfl (by rfl) (by kernel_rfl) (by kernel_rfl) (by kernel_rfl) (fun _ _ _ h => h) (by rfl) ?_ hHeld ?_
    · intro w0 hSw; obtain ⟨⟨a0, a1, a2, a3, a4, a5⟩, _⟩ := arr_six hSw.1; obtain ⟨⟨x0, x1, x2, x3, x4, x5⟩, _⟩ := arr_six hSw.2.1; go_simp
    (try simp only [Act.put, List.setIfInBounds_toArray, List.set_cons_zero, List.set_cons_succ])
    refine takeH (i := 15) (k := 45) (v := .bool false) rfl (by rfl) (by kernel_rfl) (by kernel_rfl) (by kernel_rfl) (fun _ _ _ h => h) (by rfl) ?_ hHeld ?_
    · intro w0 hSw; obtain ⟨⟨a0, a1, a2, a3, a4, a5⟩, _⟩ := arr_six hSw.1; obtain ⟨⟨x0, x1, x2, x3, x4, x5⟩, _⟩ := arr_six hSw.2.1; go_simp
    (try simp only [Act.put, List.setIfInBounds_toArray, List.set_cons_zero, List.set_cons_succ])
    refine takeH (i := 16) (k := 46) (v := .bool false) rfl (by rfl) (by kernel_rfl) (by kernel_rfl) (by kernel_rfl) (fun _ _ _ h => h) (by rfl) ?_ hHeld ?_
    · intro w0 hSw; obtain ⟨⟨a0, a1, a2, a3, a4, a5⟩, _⟩ := arr_six hSw.1; obtain ⟨⟨x0, x1, x2, x3, x4, x5⟩, _⟩ := arr_six hSw.2.1; go_simp
    (try simp only [Act.put, List.setIfInBounds_toArray, List.set_cons_zero, List.set_cons_succ])
    refine takeH (i := 17) (k := 47) (v := .pointer (some ⟨w2.heap.size, 2, none⟩)) rfl (by rfl) (by kernel_rfl) (by kernel_rfl) (by kernel_rfl) (fun _ _ _ h => h) (by rfl) ?_ hHeld ?_
    · intro w0 hSw; obtain ⟨⟨a0, a1, a2, a3, a4, a5⟩, _⟩ := arr_six hSw.1; obtain ⟨⟨x0, x1, x2, x3, x4, x5⟩, _⟩ := arr_six hSw.2.1; go_simp
    (try simp only [Act.put, List.setIfInBounds_toArray, List.set_cons_zero, List.set_cons_succ])
    refine takeH (i := 18) (k := 48) (v := .string o) rfl (by rfl) (by kernel_rfl) (by kernel_rfl) (by kernel_rfl) (fun _ _ _ h => h) (by rfl) ?_ hHeld ?_
    · intro w0 hSw; obtain ⟨⟨a0, a1, a2, a3, a4, a5⟩, _⟩ := arr_six hSw.1; obtain ⟨⟨x0, x1, x2, x3, x4, x5⟩, _⟩ := arr_six hSw.2.1; go_simp
    (try simp only [Act.put, List.setIfInBounds_toArray, List.set_cons_zero, List.set_cons_succ])
    refine takeH (i := 19) (k := 49) (v := .pointer (some ⟨w1.heap.size, 3, none⟩)) rfl (by rfl) (by kernel_rfl) (by kernel_rfl) (by kernel_rfl) (fun _ _ _ h => h) (by rfl) ?_ hHeld ?_
    · intro w0 hSw; obtain ⟨⟨a0, a1, a2, a3, a4, a5⟩, _⟩ := arr_six hSw.1; obtain ⟨⟨x0, x1, x2, x3, x4, x5⟩, _⟩ := arr_six hSw.2.1; go_simp
    (try simp only [Act.put, List.setIfInBounds_toArray, List.set_cons_zero, List.set_cons_succ])
    refine takeH (i := 20) (k := 50) (v := .string o) rfl (by rfl) (by kernel_rfl) (by kernel_rfl) (by kernel_rfl) (fun _ _ _ h => h) (by rfl) ?_ hHeld ?_
    · intro w0 hSw; obtain ⟨⟨a0, a1, a2, a3, a4, a5⟩, _⟩ := arr_six hSw.1; obtain ⟨⟨x0, x1, x2, x3, x4, x5⟩, _⟩ := arr_six hSw.2.1; go_simp
    (try simp only [Act.put, List.setIfInBounds_toArray, List.set_cons_zero, List.set_cons_succ])
    refine takeH (i := 21) (k := 51) (v := .bool false) rfl (by rfl) (by kernel_rfl) (by kernel_rfl) (by kernel_rfl) (fun _ _ _ h => h) (by rfl) ?_ hHeld ?_
    · intro w0 hSw; obtain ⟨⟨a0, a1, a2, a3, a4, a5⟩, _⟩ := arr_six hSw.1; obtain ⟨⟨x0, x1, x2, x3, x4, x5⟩, _⟩ := arr_six hSw.2.1; go_simp
    (try simp only [Act.put, List.setIfInBounds_toArray, List.set_cons_zero, List.set_cons_succ])
    refine takeH (i := 22) (k := 52) (v := .bool false) rfl (by rfl) (by kernel_rfl) (by kernel_rfl) (by kernel_rfl) (fun _ _ _ h => h) (by rfl) ?_ hHeld ?_
    · intro w0 hSw; obtain ⟨⟨a0, a1, a2, a3, a4, a5⟩, _⟩ := arr_six hSw.1; obtain ⟨⟨x0, x1, x2, x3, x4, x5⟩, _⟩ := arr_six hSw.2.1; go_simp
    (try simp only [Act.put, List.setIfInBounds_toArray, List.set_cons_zero, List.set_cons_succ])
    refine takeH (i := 23) (k := 53) (v := .bool false) rfl (by rfl) (by kernel_rfl) (by kernel_rfl) (by kernel_rfl) (fun _ _ _ h => h) (by rfl) ?_ hHeld ?_
    · intro w0 hSw; obtain ⟨⟨a0, a1, a2, a3, a4, a5⟩, _⟩ := arr_six hSw.1; obtain ⟨⟨x0, x1, x2, x3, x4, x5⟩, _⟩ := arr_six hSw.2.1; go_simp
    (try simp only [Act.put, List.setIfInBounds_toArray, List.set_cons_zero, List.set_cons_succ])
    refine takeH (i := 24) (k := 54) (v := .pointer (some ⟨w2.heap.size, 4, none⟩)) rfl (by rfl) (by kernel_rfl) (by kernel_rfl) (by kernel_rfl) (fun _ _ _ h => h) (by rfl) ?_ hHeld ?_
    · intro w0 hSw; obtain ⟨⟨a0, a1, a2, a3, a4, a5⟩, _⟩ := arr_six hSw.1; obtain ⟨⟨x0, x1, x2, x3, x4, x5⟩, _⟩ := arr_six hSw.2.1; go_simp
    (try simp only [Act.put, List.setIfInBounds_toArray, List.set_cons_zero, List.set_cons_succ])
    refine takeH (i := 25) (k := 55) (v := .int .i64 n) rfl (by rfl) (by kernel_rfl) (by kernel_rfl) (by kernel_rfl) (fun _ _ _ h => h) (by rfl) ?_ hHeld ?_
    · intro w0 hSw; obtain ⟨⟨a0, a1, a2, a3, a4, a5⟩, _⟩ := arr_six hSw.1; obtain ⟨⟨x0, x1, x2, x3, x4, x5⟩, _⟩ := arr_six hSw.2.1; go_simp
    (try simp only [Act.put, List.setIfInBounds_toArray, List.set_cons_zero, List.set_cons_succ])
    refine takeH (i := 26) (k := 56) (v := .pointer (some ⟨w1.heap.size, 4, none⟩)) rfl (by rfl) (by kernel_rfl) (by kernel_rfl) (by kernel_rfl) (fun _ _ _ h => h) (by rfl) ?_ hHeld ?_
    · intro w0 hSw; obtain ⟨⟨a0, a1, a2, a3, a4, a5⟩, _⟩ := arr_six hSw.1; obtain ⟨⟨x0, x1, x2, x3, x4, x5⟩, _⟩ := arr_six hSw.2.1; go_simp
    (try simp only [Act.put, List.setIfInBounds_toArray, List.set_cons_zero, List.set_cons_succ])
    refine takeH (i := 27) (k := 57) (v := .int .i64 n) rfl (by rfl) (by kernel_rfl) (by kernel_rfl) (by kernel_rfl) (fun _ _ _ h => h) (by rfl) ?_ hHeld ?_
    · intro w0 hSw; obtain ⟨⟨a0, a1, a2, a3, a4, a5⟩, _⟩ := arr_six hSw.1; obtain ⟨⟨x0, x1, x2, x3, x4, x5⟩, _⟩ := arr_six hSw.2.1; go_simp
    (try simp only [Act.put, List.setIfInBounds_toArray, List.set_cons_zero, List.set_cons_succ])
    refine takeH (i := 28) (k := 58) (v := .bool false) rfl (by rfl) (by kernel_rfl) (by kernel_rfl) (by kernel_rfl) (fun _ _ _ h => h) (by rfl) ?_ hHeld ?_
    · intro w0 hSw; obtain ⟨⟨a0, a1, a2, a3, a4, a5⟩, _⟩ := arr_six hSw.1; obtain ⟨⟨x0, x1, x2, x3, x4, x5⟩, _⟩ := arr_six hSw.2.1; go_simp
    (try simp only [Act.put, List.setIfInBounds_toArray, List.set_cons_zero, List.set_cons_succ])
    refine takeH (i := 29) (k := 59) (v := .bool false) rfl (by rfl) (by kernel_rfl) (by kernel_rfl) (by kernel_rfl) (fun _ _ _ h => h) (by rfl) ?_ hHeld ?_
    · intro w0 hSw; obtain ⟨⟨a0, a1, a2, a3, a4, a5⟩, _⟩ := arr_six hSw.1; obtain ⟨⟨x0, x1, x2, x3, x4, x5⟩, _⟩ := arr_six hSw.2.1; go_simp
    (try simp only [Act.put, List.setIfInBounds_toArray, List.set_cons_zero, List.set_cons_succ])
    refine takeH (i := 30) (k := 60) (v := .bool false) rfl (by rfl) (by kernel_rfl) (by kernel_rfl) (by kernel_rfl) (fun _ _ _ h => h) (by rfl) ?_ hHeld ?_
    · intro w0 hSw; obtain ⟨⟨a0, a1, a2, a3, a4, a5⟩, _⟩ := arr_six hSw.1; obtain ⟨⟨x0, x1, x2, x3, x4, x5⟩, _⟩ := arr_six hSw.2.1; go_simp
    (try simp only [Act.put, List.setIfInBounds_toArray, List.set_cons_zero, List.set_cons_succ])
    refine takeH (i := 31) (k := 61) (v := .agg #[.string k, .string kd, .string o, .string f, .int .i64 n, .string bd]) rfl (by rfl) (by kernel_rfl) (by kernel_rfl) (by kernel_rfl) (fun _ _ _ h => h) (by rfl) ?_ hHeld ?_
    · intro w0 hSw; obtain ⟨⟨a0, a1, a2, a3, a4, a5⟩, _⟩ := arr_six hSw.1; obtain ⟨⟨x0, x1, x2, x3, x4, x5⟩, _⟩ := arr_six hSw.2.1; go_simp
    (try simp only [Act.put, List.setIfInBounds_toArray, List.set_cons_zero, List.set_cons_succ])
    refine takeH (i := 32) (k := 62) (v := .pointer (some ⟨w1.heap.size, 1, none⟩)) rfl (by rfl) (by kernel_rfl) (by kernel_rfl) (by kernel_rfl) (fun _ _ _ h => h) (by rfl) ?_ hHeld ?_
    · intro w0 hSw; obtain ⟨⟨a0, a1, a2, a3, a4, a5⟩, _⟩ := arr_six hSw.1; obtain ⟨⟨x0, x1, x2, x3, x4, x5⟩, _⟩ := arr_six hSw.2.1; go_simp
    (try simp only [Act.put, List.setIfInBounds_toArray, List.set_cons_zero, List.set_cons_succ])
    refine takeH (i := 33) (k := 63) (v := .string t) rfl (by rfl) (by kernel_rfl) (by kernel_rfl) (by kernel_rfl) (fun _ _ _ h => h) (by rfl) ?_ hHeld ?_
    · intro w0 hSw; obtain ⟨⟨a0, a1, a2, a3, a4, a5⟩, _⟩ := arr_six hSw.1; obtain ⟨⟨x0, x1, x2, x3, x4, x5⟩, _⟩ := arr_six hSw.2.1; go_simp
    (try simp only [Act.put, List.setIfInBounds_toArray, List.set_cons_zero, List.set_cons_succ])
    refine takeH (i := 34) (k := 64) (v := .pointer (some ⟨w1.heap.size, 5, none⟩)) rfl (by rfl) (by kernel_rfl) (by kernel_rfl) (by kernel_rfl) (fun _ _ _ h => h) (by rfl) ?_ hHeld ?_
    · intro w0 hSw; obtain ⟨⟨a0, a1, a2, a3, a4, a5⟩, _⟩ := arr_six hSw.1; obtain ⟨⟨x0, x1, x2, x3, x4, x5⟩, _⟩ := arr_six hSw.2.1; go_simp
    (try simp only [Act.put, List.setIfInBounds_toArray, List.set_cons_zero, List.set_cons_succ])
    refine takeH (i := 35) (k := 65) (v := .string b) rfl (by rfl) (by kernel_rfl) (by kernel_rfl) (by kernel_rfl) (fun _ _ _ h => h) (by rfl) ?_ hHeld ?_
    · intro w0 hSw; obtain ⟨⟨a0, a1, a2, a3, a4, a5⟩, _⟩ := arr_six hSw.1; obtain ⟨⟨x0, x1, x2, x3, x4, x5⟩, _⟩ := arr_six hSw.2.1; go_simp
    (try simp only [Act.put, List.setIfInBounds_toArray, List.set_cons_zero, List.set_cons_succ])
    refine takeH (i := 37) (k := 67) (v := .agg #[.string k, .string t, .string f, .string o, .int .i64 n, .string b]) rfl (by rfl) (by kernel_rfl) (by kernel_rfl) (by kernel_rfl) (fun _ _ _ h => h) (by rfl) ?_ hHeld ?_
    · intro w0 hSw; obtain ⟨⟨a0, a1, a2, a3, a4, a5⟩, _⟩ := arr_six hSw.1; obtain ⟨⟨x0, x1, x2, x3, x4, x5⟩, _⟩ := arr_six hSw.2.1; go_simp
    (try simp only [Act.put, List.setIfInBounds_toArray, List.set_cons_zero, List.set_cons_succ])
    refine wpAnyH_ready (rs := [36]) (by kernel_rfl) (by simp) ?_
    refine AllReadyH.cons rfl (fun K hK => ?_) AllReadyH.nil
    rw [if_pos (by rfl)]
    go_simp
    go_fit (j2 _ (HM.out _ hHeld.2.2))
    rintro e wm ⟨rfl, hb2⟩
    refine hK.out _ _ (⟨arr_below hHeld.1 hb2, arr_below hHeld.2.1 hb2, hHeld.2.2.trans (hb2.mono hHeld.2.2.size)⟩) (fun hHeld => ?_)
    clear hK K
    (try simp only [Act.put, List.setIfInBounds_toArray, List.set_cons_zero, List.set_cons_succ])
    refine takeH (i := 38) (k := 68) (v := .bool false) rfl (by rfl) (by kernel_rfl) (by kernel_rfl) (by kernel_rfl) (fun _ _ _ h => h) (by rfl) ?_ hHeld ?_
    · intro w0 hSw; obtain ⟨⟨a0, a1, a2, a3, a4, a5⟩, _⟩ := arr_six hSw.1; obtain ⟨⟨x0, x1, x2, x3, x4, x5⟩, _⟩ := arr_six hSw.2.1; go_simp
    (try simp only [Act.put, List.setIfInBounds_toArray, List.set_cons_zero, List.set_cons_succ])
    refine takeH (i := 39) (k := 69) (v := .bool false) rfl (by rfl) (by kernel_rfl) (by kernel_rfl) (by kernel_rfl) (fun _ _ _ h => h) (by rfl) ?_ hHeld ?_
    · intro w0 hSw; obtain ⟨⟨a0, a1, a2, a3, a4, a5⟩, _⟩ := arr_six hSw.1; obtain ⟨⟨x0, x1, x2, x3, x4, x5⟩, _⟩ := arr_six hSw.2.1; go_simp
    (try simp only [Act.put, List.setIfInBounds_toArray, List.set_cons_zero, List.set_cons_succ])
    refine takeH (i := 40) (k := 70) (v := .bool false) rfl (by rfl) (by kernel_rfl) (by kernel_rfl) (by kernel_rfl) (fun _ _ _ h => h) (by rfl) ?_ hHeld ?_
    · intro w0 hSw; obtain ⟨⟨a0, a1, a2, a3, a4, a5⟩, _⟩ := arr_six hSw.1; obtain ⟨⟨x0, x1, x2, x3, x4, x5⟩, _⟩ := arr_six hSw.2.1; go_simp
    (try simp only [Act.put, List.setIfInBounds_toArray, List.set_cons_zero, List.set_cons_succ])
    refine takeH (i := 41) (k := 71) (v := .bool false) rfl (by rfl) (by kernel_rfl) (by kernel_rfl) (by kernel_rfl) (fun _ _ _ h => h) (by rfl) ?_ hHeld ?_
    · intro w0 hSw; obtain ⟨⟨a0, a1, a2, a3, a4, a5⟩, _⟩ := arr_six hSw.1; obtain ⟨⟨x0, x1, x2, x3, x4, x5⟩, _⟩ := arr_six hSw.2.1; go_simp
    (try simp only [Act.put, List.setIfInBounds_toArray, List.set_cons_zero, List.set_cons_succ])
    refine wpAnyH_done (by kernel_rfl) ?_ _
    have hbT := hHeld.2.2
    clear hHeld hA hX hb j0 j1 j2 n0 n1 e1
    go_wp2_with fail
    refine (draw_fault a1 len1 cap1 _ h1 (R1.out.lift hbT hbT.size)).mono ?_
    rintro e w6 ⟨⟨_, nm, rfl, ⟨k, t, f, o, n, b, rfl, hz, n0, n1⟩, hnm⟩, hb6⟩
    obtain ⟨hz1, hz2, hz3, hz4, hz5⟩ := hz
    replace hb6 := hbT.trans (hb6.mono hbT.size)
    clear hbT
    have j1 := fun w => spec_fault k t f o n b nm w (by unfold maxLen; omega) (by omega) (by omega) (by unfold maxLen; omega) (by unfold maxLen; omega)
    have j0 := fun w hm => impl_fault k t f o n b nm w (by omega) (by omega) (by omega) (by omega) (by omega) (by omega) hm
    have j2 := fun w hm => impl_fault k ⟨#[101, 114, 114, 111, 114]⟩ o f n nm nm w (by omega) (by decide) (by omega) (by omega) (by omega) (by omega) hm
    rw [flt_err] at j2
    rcases flt_split k t f o n b nm with hv | ⟨hk, hv⟩
    · rw [hv] at j0 j1
      clear hv
      go_wp2_with (go_at_call 20; go_fit (j0 _ (HM.out _ (hb6.alloc hb6.size _))); rintro e w7 ⟨rfl, hb7⟩)
      have hA : Arr (w7.alloc (.cells #[.string ⟨#[]⟩, .string ⟨#[]⟩, .string ⟨#[]⟩, .string ⟨#[]⟩, .int .i64 0, .string ⟨#[]⟩] 30)).drew w6.heap.size 30 [.string k, .string t, .string f, .string o, .int .i64 n, .string b] := arr_alloc (arr_below (Arr.fresh w6 _ _) hb7) _
      have hX : Arr (w7.alloc (.cells #[.string ⟨#[]⟩, .string ⟨#[]⟩, .string ⟨#[]⟩, .string ⟨#[]⟩, .int .i64 0, .string ⟨#[]⟩] 30)).drew w7.heap.size 30 [.string ⟨#[]⟩, .string ⟨#[]⟩, .string ⟨#[]⟩, .string ⟨#[]⟩, .int .i64 0, .string ⟨#[]⟩] := Arr.fresh w7 _ _
      have hb := ((hb6.trans ((below_one hb7).mono hb6.size)).alloc (hb6.trans ((below_one hb7).mono hb6.size)).size (.cells #[.string ⟨#[]⟩, .string ⟨#[]⟩, .string ⟨#[]⟩, .string ⟨#[]⟩, .int .i64 0, .string ⟨#[]⟩] 30))
      clear hb6 hb7
      refine wp_region_held_drew (S := (fun W => Arr W w6.heap.size 30 [.string k, .string t, .string f, .string o, .int .i64 n, .string b] ∧ Arr W w7.heap.size 30 [.string ⟨#[]⟩, .string ⟨#[]⟩, .string ⟨#[]⟩, .string ⟨#[]⟩, .int .i64 0, .string ⟨#[]⟩] ∧ Below w.heap.size w W)) (by kernel_rfl) ⟨hA, hX, hb.drew⟩ (fun hHeld => ?_)
      refine takeH (i := 0) (k := 80) (v := .agg #[.string ⟨#[]⟩, .string ⟨#[]⟩, .string ⟨#[]⟩, .string ⟨#[]⟩, .int .i64 0, .string ⟨#[]⟩]) rfl (by rfl) (by kernel_rfl) (by kernel_rfl) (by kernel_rfl) (fun _ _ _ h => h) (by rfl) ?_ hHeld ?_
      · intro w0 hSw; obtain ⟨⟨a0, a1, a2, a3, a4, a5⟩, _⟩ := arr_six hSw.1; obtain ⟨⟨x0, x1, x2, x3, x4, x5⟩, _⟩ := arr_six hSw.2.1; go_simp
      (try simp only [Act.put, List.setIfInBounds_toArray, List.set_cons_zero, List.set_cons_succ])
      refine takeH (i := 1) (k := 81) (v := .agg #[.string k, .string t, .string f, .string o, .int .i64 n, .string b]) rfl (by rfl) (by kernel_rfl) (by kernel_rfl) (by kernel_rfl) (fun _ _ _ h => h) (by rfl) ?_ hHeld ?_
      · intro w0 hSw; obtain ⟨⟨a0, a1, a2, a3, a4, a5⟩, _⟩ := arr_six hSw.1; obtain ⟨⟨x0, x1, x2, x3, x4, x5⟩, _⟩ := arr_six hSw.2.1; go_simp
      (try simp only [Act.put, List.setIfInBounds_toArray, List.set_cons_zero, List.set_cons_succ])
      refine takeH (i := 2) (k := 82) (v := .string nm) rfl (by rfl) (by kernel_rfl) (by kernel_rfl) (by kernel_rfl) (fun _ _ _ h => h) (by rfl) ?_ hHeld ?_
      · intro w0 hSw; obtain ⟨⟨a0, a1, a2, a3, a4, a5⟩, _⟩ := arr_six hSw.1; obtain ⟨⟨x0, x1, x2, x3, x4, x5⟩, _⟩ := arr_six hSw.2.1; go_simp
      (try simp only [Act.put, List.setIfInBounds_toArray, List.set_cons_zero, List.set_cons_succ])
      refine wpAnyH_ready (rs := [3]) (by kernel_rfl) (by simp) ?_
      refine AllReadyH.cons rfl (fun K hK => ?_) AllReadyH.nil
      rw [if_pos (by rfl)]
      go_simp
      go_fit (j1 _)
      rintro e wm ⟨rfl, hb2⟩
      refine hK.out _ _ (⟨arr_below hHeld.1 hb2, arr_below hHeld.2.1 hb2, hHeld.2.2.trans (hb2.mono hHeld.2.2.size)⟩) (fun hHeld => ?_)
      clear hK K
      (try simp only [Act.put, List.setIfInBounds_toArray, List.set_cons_zero, List.set_cons_succ])
      refine takeH (i := 4) (k := 84) (v := .bool true) rfl (by rfl) (by kernel_rfl) (by kernel_rfl) (by kernel_rfl) (fun _ _ _ h => h) (by rfl) ?_ hHeld ?_
      · intro w0 hSw; obtain ⟨⟨a0, a1, a2, a3, a4, a5⟩, _⟩ := arr_six hSw.1; obtain ⟨⟨x0, x1, x2, x3, x4, x5⟩, _⟩ := arr_six hSw.2.1; go_simp
      (try simp only [Act.put, List.setIfInBounds_toArray, List.set_cons_zero, List.set_cons_succ])
      refine takeH (i := 5) (k := 85) (v := .bool true) rfl (by rfl) (by kernel_rfl) (by kernel_rfl) (by kernel_rfl) (fun _ _ _ h => h) (by rfl) ?_ hHeld ?_
      · intro w0 hSw; obtain ⟨⟨a0, a1, a2, a3, a4, a5⟩, _⟩ := arr_six hSw.1; obtain ⟨⟨x0, x1, x2, x3, x4, x5⟩, _⟩ := arr_six hSw.2.1; go_simp
      (try simp only [Act.put, List.setIfInBounds_toArray, List.set_cons_zero, List.set_cons_succ])
      refine takeH (i := 6) (k := 86) (v := .pointer (some ⟨w7.heap.size, 0, none⟩)) rfl (by rfl) (by kernel_rfl) (by kernel_rfl) (by kernel_rfl) (fun _ _ _ h => h) (by rfl) ?_ hHeld ?_
      · intro w0 hSw; obtain ⟨⟨a0, a1, a2, a3, a4, a5⟩, _⟩ := arr_six hSw.1; obtain ⟨⟨x0, x1, x2, x3, x4, x5⟩, _⟩ := arr_six hSw.2.1; go_simp
      (try simp only [Act.put, List.setIfInBounds_toArray, List.set_cons_zero, List.set_cons_succ])
      refine takeH (i := 7) (k := 87) (v := .string ⟨#[]⟩) rfl (by rfl) (by kernel_rfl) (by kernel_rfl) (by kernel_rfl) (fun _ _ _ h => h) (by rfl) ?_ hHeld ?_
      · intro w0 hSw; obtain ⟨⟨a0, a1, a2, a3, a4, a5⟩, _⟩ := arr_six hSw.1; obtain ⟨⟨x0, x1, x2, x3, x4, x5⟩, _⟩ := arr_six hSw.2.1; go_simp
      (try simp only [Act.put, List.setIfInBounds_toArray, List.set_cons_zero, List.set_cons_succ])
      refine takeH (i := 8) (k := 88) (v := .bool true) rfl (by rfl) (by kernel_rfl) (by kernel_rfl) (by kernel_rfl) (fun _ _ _ h => h) (by rfl) ?_ hHeld ?_
      · intro w0 hSw; obtain ⟨⟨a0, a1, a2, a3, a4, a5⟩, _⟩ := arr_six hSw.1; obtain ⟨⟨x0, x1, x2, x3, x4, x5⟩, _⟩ := arr_six hSw.2.1; go_simp
      (try simp only [Act.put, List.setIfInBounds_toArray, List.set_cons_zero, List.set_cons_succ])
      refine takeH (i := 9) (k := 89) (v := .bool true) rfl (by rfl) (by kernel_rfl) (by kernel_rfl) (by kernel_rfl) (fun _ _ _ h => h) (by rfl) ?_ hHeld ?_
      · intro w0 hSw; obtain ⟨⟨a0, a1, a2, a3, a4, a5⟩, _⟩ := arr_six hSw.1; obtain ⟨⟨x0, x1, x2, x3, x4, x5⟩, _⟩ := arr_six hSw.2.1; go_simp
      (try simp only [Act.put, List.setIfInBounds_toArray, List.set_cons_zero, List.set_cons_succ])
      refine skipH (i := 10) (k := 90) rfl (by rfl) (by kernel_rfl) (by kernel_rfl) (by kernel_rfl) (fun _ _ _ h => h) (by rfl) hHeld ?_
      (try simp only [Act.put, List.setIfInBounds_toArray, List.set_cons_zero, List.set_cons_succ])
      refine skipH (i := 11) (k := 91) rfl (by rfl) (by kernel_rfl) (by kernel_rfl) (by kernel_rfl) (fun _ _ _ h => h) (by rfl) hHeld ?_
      (try simp only [Act.put, List.setIfInBounds_toArray, List.set_cons_zero, List.set_cons_succ])
      refine skipH (i := 12) (k := 92) rfl (by rfl) (by kernel_rfl) (by kernel_rfl) (by kernel_rfl) (fun _ _ _ h => h) (by rfl) hHeld ?_
      (try simp only [Act.put, List.setIfInBounds_toArray, List.set_cons_zero, List.set_cons_succ])
      refine skipH (i := 13) (k := 93) rfl (by rfl) (by kernel_rfl) (by kernel_rfl) (by kernel_rfl) (fun _ _ _ h => h) (by rfl) hHeld ?_
      (try simp only [Act.put, List.setIfInBounds_toArray, List.set_cons_zero, List.set_cons_succ])
      refine skipH (i := 14) (k := 94) rfl (by rfl) (by kernel_rfl) (by kernel_rfl) (by kernel_rfl) (fun _ _ _ h => h) (by rfl) hHeld ?_
      (try simp only [Act.put, List.setIfInBounds_toArray, List.set_cons_zero, List.set_cons_succ])
      refine skipH (i := 15) (k := 95) rfl (by rfl) (by kernel_rfl) (by kernel_rfl) (by kernel_rfl) (fun _ _ _ h => h) (by rfl) hHeld ?_
      (try simp only [Act.put, List.setIfInBounds_toArray, List.set_cons_zero, List.set_cons_succ])
      refine skipH (i := 16) (k := 96) rfl (by rfl) (by kernel_rfl) (by kernel_rfl) (by kernel_rfl) (fun _ _ _ h => h) (by rfl) hHeld ?_
      (try simp only [Act.put, List.setIfInBounds_toArray, List.set_cons_zero, List.set_cons_succ])
      refine skipH (i := 17) (k := 97) rfl (by rfl) (by kernel_rfl) (by kernel_rfl) (by kernel_rfl) (fun _ _ _ h => h) (by rfl) hHeld ?_
      (try simp only [Act.put, List.setIfInBounds_toArray, List.set_cons_zero, List.set_cons_succ])
      refine skipH (i := 18) (k := 98) rfl (by rfl) (by kernel_rfl) (by kernel_rfl) (by kernel_rfl) (fun _ _ _ h => h) (by rfl) hHeld ?_
      (try simp only [Act.put, List.setIfInBounds_toArray, List.set_cons_zero, List.set_cons_succ])
      refine skipH (i := 19) (k := 99) rfl (by rfl) (by kernel_rfl) (by kernel_rfl) (by kernel_rfl) (fun _ _ _ h => h) (by rfl) hHeld ?_
      (try simp only [Act.put, List.setIfInBounds_toArray, List.set_cons_zero, List.set_cons_succ])
      refine skipH (i := 20) (k := 100) rfl (by rfl) (by kernel_rfl) (by kernel_rfl) (by kernel_rfl) (fun _ _ _ h => h) (by rfl) hHeld ?_
      (try simp only [Act.put, List.setIfInBounds_toArray, List.set_cons_zero, List.set_cons_succ])
      refine skipH (i := 21) (k := 101) rfl (by rfl) (by kernel_rfl) (by kernel_rfl) (by kernel_rfl) (fun _ _ _ h => h) (by rfl) hHeld ?_
      (try simp only [Act.put, List.setIfInBounds_toArray, List.set_cons_zero, List.set_cons_succ])
      refine skipH (i := 22) (k := 102) rfl (by rfl) (by kernel_rfl) (by kernel_rfl) (by kernel_rfl) (fun _ _ _ h => h) (by rfl) hHeld ?_
      (try simp only [Act.put, List.setIfInBounds_toArray, List.set_cons_zero, List.set_cons_succ])
      refine skipH (i := 23) (k := 103) rfl (by rfl) (by kernel_rfl) (by kernel_rfl) (by kernel_rfl) (fun _ _ _ h => h) (by rfl) hHeld ?_
      (try simp only [Act.put, List.setIfInBounds_toArray, List.set_cons_zero, List.set_cons_succ])
      refine skipH (i := 24) (k := 104) rfl (by rfl) (by kernel_rfl) (by kernel_rfl) (by kernel_rfl) (fun _ _ _ h => h) (by rfl) hHeld ?_
      (try simp only [Act.put, List.setIfInBounds_toArray, List.set_cons_zero, List.set_cons_succ])
      refine skipH (i := 25) (k := 105) rfl (by rfl) (by kernel_rfl) (by kernel_rfl) (by kernel_rfl) (fun _ _ _ h => h) (by rfl) hHeld ?_
      (try simp only [Act.put, List.setIfInBounds_toArray, List.set_cons_zero, List.set_cons_succ])
      refine skipH (i := 26) (k := 106) rfl (by rfl) (by kernel_rfl) (by kernel_rfl) (by kernel_rfl) (fun _ _ _ h => h) (by rfl) hHeld ?_
      (try simp only [Act.put, List.setIfInBounds_toArray, List.set_cons_zero, List.set_cons_succ])
      refine takeH (i := 27) (k := 107) (v := .bool true) rfl (by rfl) (by kernel_rfl) (by kernel_rfl) (by kernel_rfl) (fun _ _ _ h => h) (by rfl) ?_ hHeld ?_
      · intro w0 hSw; obtain ⟨⟨a0, a1, a2, a3, a4, a5⟩, _⟩ := arr_six hSw.1; obtain ⟨⟨x0, x1, x2, x3, x4, x5⟩, _⟩ := arr_six hSw.2.1; go_simp
      (try simp only [Act.put, List.setIfInBounds_toArray, List.set_cons_zero, List.set_cons_succ])
      refine takeH (i := 28) (k := 108) (v := .bool true) rfl (by rfl) (by kernel_rfl) (by kernel_rfl) (by kernel_rfl) (fun _ _ _ h => h) (by rfl) ?_ hHeld ?_
      · intro w0 hSw; obtain ⟨⟨a0, a1, a2, a3, a4, a5⟩, _⟩ := arr_six hSw.1; obtain ⟨⟨x0, x1, x2, x3, x4, x5⟩, _⟩ := arr_six hSw.2.1; go_simp
      (try simp only [Act.put, List.setIfInBounds_toArray, List.set_cons_zero, List.set_cons_succ])
      refine takeH (i := 29) (k := 4) (v := .bool true) rfl (by rfl) (by kernel_rfl) (by kernel_rfl) (by kernel_rfl) (fun _ _ _ h => h) (by rfl) ?_ hHeld ?_
      · intro w0 hSw; obtain ⟨⟨a0, a1, a2, a3, a4, a5⟩, _⟩ := arr_six hSw.1; obtain ⟨⟨x0, x1, x2, x3, x4, x5⟩, _⟩ := arr_six hSw.2.1; go_simp
      (try simp only [Act.put, List.setIfInBounds_toArray, List.set_cons_zero, List.set_cons_succ])
      refine wpAnyH_done (by kernel_rfl) ?_ _
      have HB := Lib.hid hHeld.2.2
      clear hHeld
      go_wp2
      go_ret
      exact ⟨rfl, HB.out⟩
    · have n1 := ne_nil hk
      have e1 := not_empty hk
      rw [hv] at j0 j1
      clear hv
      go_wp2_with (go_at_call 20; go_fit (j0 _ (HM.out _ (hb6.alloc hb6.size _))); rintro e w7 ⟨rfl, hb7⟩)
      have hA : Arr (w7.alloc (.cells #[.string k, .string ⟨#[101, 114, 114, 111, 114]⟩, .string o, .string f, .int .i64 n, .string nm] 30)).drew w6.heap.size 30 [.string k, .string t, .string f, .string o, .int .i64 n, .string b] := arr_alloc (arr_below (Arr.fresh w6 _ _) hb7) _
      have hX : Arr (w7.alloc (.cells #[.string k, .string ⟨#[101, 114, 114, 111, 114]⟩, .string o, .string f, .int .i64 n, .string nm] 30)).drew w7.heap.size 30 [.string k, .string ⟨#[101, 114, 114, 111, 114]⟩, .string o, .string f, .int .i64 n, .string nm] := Arr.fresh w7 _ _
      have hb := ((hb6.trans ((below_one hb7).mono hb6.size)).alloc (hb6.trans ((below_one hb7).mono hb6.size)).size (.cells #[.string k, .string ⟨#[101, 114, 114, 111, 114]⟩, .string o, .string f, .int .i64 n, .string nm] 30))
      clear hb6 hb7
      refine wp_region_held_drew (S := (fun W => Arr W w6.heap.size 30 [.string k, .string t, .string f, .string o, .int .i64 n, .string b] ∧ Arr W w7.heap.size 30 [.string k, .string ⟨#[101, 114, 114, 111, 114]⟩, .string o, .string f, .int .i64 n, .string nm] ∧ Below w.heap.size w W)) (by kernel_rfl) ⟨hA, hX, hb.drew⟩ (fun hHeld => ?_)
      refine takeH (i := 0) (k := 80) (v := .agg #[.string k, .string ⟨#[101, 114, 114, 111, 114]⟩, .string o, .string f, .int .i64 n, .string nm]) rfl (by rfl) (by kernel_rfl) (by kernel_rfl) (by kernel_rfl) (fun _ _ _ h => h) (by rfl) ?_ hHeld ?_
      · intro w0 hSw; obtain ⟨⟨a0, a1, a2, a3, a4, a5⟩, _⟩ := arr_six hSw.1; obtain ⟨⟨x0, x1, x2, x3, x4, x5⟩, _⟩ := arr_six hSw.2.1; go_simp
      (try simp only [Act.put, List.setIfInBounds_toArray, List.set_cons_zero, List.set_cons_succ])
      refine takeH (i := 1) (k := 81) (v := .agg #[.string k, .string t, .string f, .string o, .int .i64 n, .string b]) rfl (by rfl) (by kernel_rfl) (by kernel_rfl) (by kernel_rfl) (fun _ _ _ h => h) (by rfl) ?_ hHeld ?_
      · intro w0 hSw; obtain ⟨⟨a0, a1, a2, a3, a4, a5⟩, _⟩ := arr_six hSw.1; obtain ⟨⟨x0, x1, x2, x3, x4, x5⟩, _⟩ := arr_six hSw.2.1; go_simp
      (try simp only [Act.put, List.setIfInBounds_toArray, List.set_cons_zero, List.set_cons_succ])
      refine takeH (i := 2) (k := 82) (v := .string nm) rfl (by rfl) (by kernel_rfl) (by kernel_rfl) (by kernel_rfl) (fun _ _ _ h => h) (by rfl) ?_ hHeld ?_
      · intro w0 hSw; obtain ⟨⟨a0, a1, a2, a3, a4, a5⟩, _⟩ := arr_six hSw.1; obtain ⟨⟨x0, x1, x2, x3, x4, x5⟩, _⟩ := arr_six hSw.2.1; go_simp
      (try simp only [Act.put, List.setIfInBounds_toArray, List.set_cons_zero, List.set_cons_succ])
      refine wpAnyH_ready (rs := [3]) (by kernel_rfl) (by simp) ?_
      refine AllReadyH.cons rfl (fun K hK => ?_) AllReadyH.nil
      rw [if_pos (by rfl)]
      go_simp
      go_fit (j1 _)
      rintro e wm ⟨rfl, hb2⟩
      refine hK.out _ _ (⟨arr_below hHeld.1 hb2, arr_below hHeld.2.1 hb2, hHeld.2.2.trans (hb2.mono hHeld.2.2.size)⟩) (fun hHeld => ?_)
      clear hK K
      (try simp only [Act.put, List.setIfInBounds_toArray, List.set_cons_zero, List.set_cons_succ])
      refine takeH (i := 4) (k := 84) (v := .bool true) rfl (by rfl) (by kernel_rfl) (by kernel_rfl) (by kernel_rfl) (fun _ _ _ h => h) (by rfl) ?_ hHeld ?_
      · intro w0 hSw; obtain ⟨⟨a0, a1, a2, a3, a4, a5⟩, _⟩ := arr_six hSw.1; obtain ⟨⟨x0, x1, x2, x3, x4, x5⟩, _⟩ := arr_six hSw.2.1; go_simp
      (try simp only [Act.put, List.setIfInBounds_toArray, List.set_cons_zero, List.set_cons_succ])
      refine takeH (i := 5) (k := 85) (v := .bool true) rfl (by rfl) (by kernel_rfl) (by kernel_rfl) (by kernel_rfl) (fun _ _ _ h => h) (by rfl) ?_ hHeld ?_
      · intro w0 hSw; obtain ⟨⟨a0, a1, a2, a3, a4, a5⟩, _⟩ := arr_six hSw.1; obtain ⟨⟨x0, x1, x2, x3, x4, x5⟩, _⟩ := arr_six hSw.2.1; go_simp
      (try simp only [Act.put, List.setIfInBounds_toArray, List.set_cons_zero, List.set_cons_succ])
      refine takeH (i := 6) (k := 86) (v := .pointer (some ⟨w7.heap.size, 0, none⟩)) rfl (by rfl) (by kernel_rfl) (by kernel_rfl) (by kernel_rfl) (fun _ _ _ h => h) (by rfl) ?_ hHeld ?_
      · intro w0 hSw; obtain ⟨⟨a0, a1, a2, a3, a4, a5⟩, _⟩ := arr_six hSw.1; obtain ⟨⟨x0, x1, x2, x3, x4, x5⟩, _⟩ := arr_six hSw.2.1; go_simp
      (try simp only [Act.put, List.setIfInBounds_toArray, List.set_cons_zero, List.set_cons_succ])
      refine takeH (i := 7) (k := 87) (v := .string k) rfl (by rfl) (by kernel_rfl) (by kernel_rfl) (by kernel_rfl) (fun _ _ _ h => h) (by rfl) ?_ hHeld ?_
      · intro w0 hSw; obtain ⟨⟨a0, a1, a2, a3, a4, a5⟩, _⟩ := arr_six hSw.1; obtain ⟨⟨x0, x1, x2, x3, x4, x5⟩, _⟩ := arr_six hSw.2.1; go_simp
      (try simp only [Act.put, List.setIfInBounds_toArray, List.set_cons_zero, List.set_cons_succ])
      refine takeH (i := 8) (k := 88) (v := .bool false) rfl (by rfl) (by kernel_rfl) (by kernel_rfl) (by kernel_rfl) (fun _ _ _ h => h) (by rfl) ?_ hHeld ?_
      · intro w0 hSw; obtain ⟨⟨a0, a1, a2, a3, a4, a5⟩, _⟩ := arr_six hSw.1; obtain ⟨⟨x0, x1, x2, x3, x4, x5⟩, _⟩ := arr_six hSw.2.1; go_simp
      (try simp only [Act.put, List.setIfInBounds_toArray, List.set_cons_zero, List.set_cons_succ])
      refine takeH (i := 9) (k := 89) (v := .bool false) rfl (by rfl) (by kernel_rfl) (by kernel_rfl) (by kernel_rfl) (fun _ _ _ h => h) (by rfl) ?_ hHeld ?_
      · intro w0 hSw; obtain ⟨⟨a0, a1, a2, a3, a4, a5⟩, _⟩ := arr_six hSw.1; obtain ⟨⟨x0, x1, x2, x3, x4, x5⟩, _⟩ := arr_six hSw.2.1; go_simp
      (try simp only [Act.put, List.setIfInBounds_toArray, List.set_cons_zero, List.set_cons_succ])
      refine takeH (i := 10) (k := 90) (v := .pointer (some ⟨w7.heap.size, 1, none⟩)) rfl (by rfl) (by kernel_rfl) (by kernel_rfl) (by kernel_rfl) (fun _ _ _ h => h) (by rfl) ?_ hHeld ?_
      · intro w0 hSw; obtain ⟨⟨a0, a1, a2, a3, a4, a5⟩, _⟩ := arr_six hSw.1; obtain ⟨⟨x0, x1, x2, x3, x4, x5⟩, _⟩ := arr_six hSw.2.1; go_simp
      (try simp only [Act.put, List.setIfInBounds_toArray, List.set_cons_zero, List.set_cons_succ])
      refine takeH (i := 11) (k := 91) (v := .string ⟨#[101, 114, 114, 111, 114]⟩) rfl (by rfl) (by kernel_rfl) (by kernel_rfl) (by kernel_rfl) (fun _ _ _ h => h) (by rfl) ?_ hHeld ?_
      · intro w0 hSw; obtain ⟨⟨a0, a1, a2, a3, a4, a5⟩, _⟩ := arr_six hSw.1; obtain ⟨⟨x0, x1, x2, x3, x4, x5⟩, _⟩ := arr_six hSw.2.1; go_simp
      (try simp only [Act.put, List.setIfInBounds_toArray, List.set_cons_zero, List.set_cons_succ])
      refine takeH (i := 12) (k := 92) (v := .bool true) rfl (by rfl) (by kernel_rfl) (by kernel_rfl) (by kernel_rfl) (fun _ _ _ h => h) (by rfl) ?_ hHeld ?_
      · intro w0 hSw; obtain ⟨⟨a0, a1, a2, a3, a4, a5⟩, _⟩ := arr_six hSw.1; obtain ⟨⟨x0, x1, x2, x3, x4, x5⟩, _⟩ := arr_six hSw.2.1; go_simp
      (try simp only [Act.put, List.setIfInBounds_toArray, List.set_cons_zero, List.set_cons_succ])
      refine takeH (i := 13) (k := 93) (v := .bool true) rfl (by rfl) (by kernel_rfl) (by kernel_rfl) (by kernel_rfl) (fun _ _ _ h => h) (by rfl) ?_ hHeld ?_
      · intro w0 hSw; obtain ⟨⟨a0, a1, a2, a3, a4, a5⟩, _⟩ := arr_six hSw.1; obtain ⟨⟨x0, x1, x2, x3, x4, x5⟩, _⟩ := arr_six hSw.2.1; go_simp
      (try simp only [Act.put, List.setIfInBounds_toArray, List.set_cons_zero, List.set_cons_succ])
      refine takeH (i := 14) (k := 94) (v := .agg #[.string k, .string ⟨#[101, 114, 114, 111, 114]⟩, .string o, .string f, .int .i64 n, .string nm]) rfl (by rfl) (by kernel_rfl) (by kernel_rfl) (by kernel_rfl) (fun _ _ _ h => h) (by rfl) ?_ hHeld ?_
      · intro w0 hSw; obtain ⟨⟨a0, a1, a2, a3, a4, a5⟩, _⟩ := arr_six hSw.1; obtain ⟨⟨x0, x1, x2, x3, x4, x5⟩, _⟩ := arr_six hSw.2.1; go_simp
      (try simp only [Act.put, List.setIfInBounds_toArray, List.set_cons_zero, List.set_cons_succ])
      refine takeH (i := 15) (k := 95) (v := .string nm) rfl (by rfl) (by kernel_rfl) (by kernel_rfl) (by kernel_rfl) (fun _ _ _ h => h) (by rfl) ?_ hHeld ?_
      · intro w0 hSw; obtain ⟨⟨a0, a1, a2, a3, a4, a5⟩, _⟩ := arr_six hSw.1; obtain ⟨⟨x0, x1, x2, x3, x4, x5⟩, _⟩ := arr_six hSw.2.1; go_simp
      (try simp only [Act.put, List.setIfInBounds_toArray, List.set_cons_zero, List.set_cons_succ])
      refine takeH (i := 17) (k := 97) (v := .agg #[.string ⟨#[]⟩, .string ⟨#[]⟩, .string ⟨#[]⟩, .string ⟨#[]⟩, .int .i64 0, .string ⟨#[]⟩]) rfl (by rfl) (by kernel_rfl) (by kernel_rfl) (by kernel_rfl) (fun _ _ _ h => h) (by rfl) ?_ hHeld ?_
      · intro w0 hSw; obtain ⟨⟨a0, a1, a2, a3, a4, a5⟩, _⟩ := arr_six hSw.1; obtain ⟨⟨x0, x1, x2, x3, x4, x5⟩, _⟩ := arr_six hSw.2.1; go_simp
      (try simp only [Act.put, List.setIfInBounds_toArray, List.set_cons_zero, List.set_cons_succ])
      refine wpAnyH_ready (rs := [16]) (by kernel_rfl) (by simp) ?_
      refine AllReadyH.cons rfl (fun K hK => ?_) AllReadyH.nil
      rw [if_pos (by rfl)]
      go_simp
      go_fit (j2 _ (HM.out _ hHeld.2.2))
      rintro e wm ⟨rfl, hb2⟩
      refine hK.out _ _ (⟨arr_below hHeld.1 hb2, arr_below hHeld.2.1 hb2, hHeld.2.2.trans (hb2.mono hHeld.2.2.size)⟩) (fun hHeld => ?_)
      clear hK K
      (try simp only [Act.put, List.setIfInBounds_toArray, List.set_cons_zero, List.set_cons_succ])
      refine takeH (i := 18) (k := 98) (v := .bool true) rfl (by rfl) (by kernel_rfl) (by kernel_rfl) (by kernel_rfl) (fun _ _ _ h => h) (by rfl) ?_ hHeld ?_
      · intro w0 hSw; obtain ⟨⟨a0, a1, a2, a3, a4, a5⟩, _⟩ := arr_six hSw.1; obtain ⟨⟨x0, x1, x2, x3, x4, x5⟩, _⟩ := arr_six hSw.2.1; go_simp
      (try simp only [Act.put, List.setIfInBounds_toArray, List.set_cons_zero, List.set_cons_succ])
      refine takeH (i := 19) (k := 99) (v := .bool true) rfl (by rfl) (by kernel_rfl) (by kernel_rfl) (by kernel_rfl) (fun _ _ _ h => h) (by rfl) ?_ hHeld ?_
      · intro w0 hSw; obtain ⟨⟨a0, a1, a2, a3, a4, a5⟩, _⟩ := arr_six hSw.1; obtain ⟨⟨x0, x1, x2, x3, x4, x5⟩, _⟩ := arr_six hSw.2.1; go_simp
      (try simp only [Act.put, List.setIfInBounds_toArray, List.set_cons_zero, List.set_cons_succ])
      refine takeH (i := 20) (k := 100) (v := .bool true) rfl (by rfl) (by kernel_rfl) (by kernel_rfl) (by kernel_rfl) (fun _ _ _ h => h) (by rfl) ?_ hHeld ?_
      · intro w0 hSw; obtain ⟨⟨a0, a1, a2, a3, a4, a5⟩, _⟩ := arr_six hSw.1; obtain ⟨⟨x0, x1, x2, x3, x4, x5⟩, _⟩ := arr_six hSw.2.1; go_simp
      (try simp only [Act.put, List.setIfInBounds_toArray, List.set_cons_zero, List.set_cons_succ])
      refine takeH (i := 21) (k := 101) (v := .pointer (some ⟨w7.heap.size, 3, none⟩)) rfl (by rfl) (by kernel_rfl) (by kernel_rfl) (by kernel_rfl) (fun _ _ _ h => h) (by rfl) ?_ hHeld ?_
      · intro w0 hSw; obtain ⟨⟨a0, a1, a2, a3, a4, a5⟩, _⟩ := arr_six hSw.1; obtain ⟨⟨x0, x1, x2, x3, x4, x5⟩, _⟩ := arr_six hSw.2.1; go_simp
      (try simp only [Act.put, List.setIfInBounds_toArray, List.set_cons_zero, List.set_cons_succ])
      refine takeH (i := 22) (k := 102) (v := .string f) rfl (by rfl) (by kernel_rfl) (by kernel_rfl) (by kernel_rfl) (fun _ _ _ h => h) (by rfl) ?_ hHeld ?_
      · intro w0 hSw; obtain ⟨⟨a0, a1, a2, a3, a4, a5⟩, _⟩ := arr_six hSw.1; obtain ⟨⟨x0, x1, x2, x3, x4, x5⟩, _⟩ := arr_six hSw.2.1; go_simp
      (try simp only [Act.put, List.setIfInBounds_toArray, List.set_cons_zero, List.set_cons_succ])
      refine takeH (i := 23) (k := 103) (v := .pointer (some ⟨w6.heap.size, 2, none⟩)) rfl (by rfl) (by kernel_rfl) (by kernel_rfl) (by kernel_rfl) (fun _ _ _ h => h) (by rfl) ?_ hHeld ?_
      · intro w0 hSw; obtain ⟨⟨a0, a1, a2, a3, a4, a5⟩, _⟩ := arr_six hSw.1; obtain ⟨⟨x0, x1, x2, x3, x4, x5⟩, _⟩ := arr_six hSw.2.1; go_simp
      (try simp only [Act.put, List.setIfInBounds_toArray, List.set_cons_zero, List.set_cons_succ])
      refine takeH (i := 24) (k := 104) (v := .string f) rfl (by rfl) (by kernel_rfl) (by kernel_rfl) (by kernel_rfl) (fun _ _ _ h => h) (by rfl) ?_ hHeld ?_
      · intro w0 hSw; obtain ⟨⟨a0, a1, a2, a3, a4, a5⟩, _⟩ := arr_six hSw.1; obtain ⟨⟨x0, x1, x2, x3, x4, x5⟩, _⟩ := arr_six hSw.2.1; go_simp
      (try simp only [Act.put, List.setIfInBounds_toArray, List.set_cons_zero, List.set_cons_succ])
      refine takeH (i := 25) (k := 105) (v := .bool true) rfl (by rfl) (by kernel_rfl) (by kernel_rfl) (by kernel_rfl) (fun _ _ _ h => h) (by rfl) ?_ hHeld ?_
      · intro w0 hSw; obtain ⟨⟨a0, a1, a2, a3, a4, a5⟩, _⟩ := arr_six hSw.1; obtain ⟨⟨x0, x1, x2, x3, x4, x5⟩, _⟩ := arr_six hSw.2.1; go_simp
      (try simp only [Act.put, List.setIfInBounds_toArray, List.set_cons_zero, List.set_cons_succ])
      refine takeH (i := 26) (k := 106) (v := .bool true) rfl (by rfl) (by kernel_rfl) (by kernel_rfl) (by kernel_rfl) (fun _ _ _ h => h) (by rfl) ?_ hHeld ?_
      · intro w0 hSw; obtain ⟨⟨a0, a1, a2, a3, a4, a5⟩, _⟩ := arr_six hSw.1; obtain ⟨⟨x0, x1, x2, x3, x4, x5⟩, _⟩ := arr_six hSw.2.1; go_simp
      (try simp only [Act.put, List.setIfInBounds_toArray, List.set_cons_zero, List.set_cons_succ])
      refine takeH (i := 27) (k := 107) (v := .bool true) rfl (by rfl) (by kernel_rfl) (by kernel_rfl) (by kernel_rfl) (fun _ _ _ h => h) (by rfl) ?_ hHeld ?_
      · intro w0 hSw; obtain ⟨⟨a0, a1, a2, a3, a4, a5⟩, _⟩ := arr_six hSw.1; obtain ⟨⟨x0, x1, x2, x3, x4, x5⟩, _⟩ := arr_six hSw.2.1; go_simp
      (try simp only [Act.put, List.setIfInBounds_toArray, List.set_cons_zero, List.set_cons_succ])
      refine takeH (i := 28) (k := 108) (v := .bool true) rfl (by rfl) (by kernel_rfl) (by kernel_rfl) (by kernel_rfl) (fun _ _ _ h => h) (by rfl) ?_ hHeld ?_
      · intro w0 hSw; obtain ⟨⟨a0, a1, a2, a3, a4, a5⟩, _⟩ := arr_six hSw.1; obtain ⟨⟨x0, x1, x2, x3, x4, x5⟩, _⟩ := arr_six hSw.2.1; go_simp
      (try simp only [Act.put, List.setIfInBounds_toArray, List.set_cons_zero, List.set_cons_succ])
      refine takeH (i := 29) (k := 4) (v := .bool true) rfl (by rfl) (by kernel_rfl) (by kernel_rfl) (by kernel_rfl) (fun _ _ _ h => h) (by rfl) ?_ hHeld ?_
      · intro w0 hSw; obtain ⟨⟨a0, a1, a2, a3, a4, a5⟩, _⟩ := arr_six hSw.1; obtain ⟨⟨x0, x1, x2, x3, x4, x5⟩, _⟩ := arr_six hSw.2.1; go_simp
      (try simp only [Act.put, List.setIfInBounds_toArray, List.set_cons_zero, List.set_cons_succ])
      refine wpAnyH_done (by kernel_rfl) ?_ _
      have HB := Lib.hid hHeld.2.2
      clear hHeld
      go_wp2
      go_ret
      exact ⟨rfl, HB.out⟩
end Go.Proofs.Ytihjgkicmgomcaa
