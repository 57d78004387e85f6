/- What DrawReply and DrawFault answer. -/
import Derived.Test.YtihjgkicmgomcaaStDraws
namespace Go.Proofs.Ytihjgkicmgomcaa
set_option linter.unusedSimpArgs false
set_option linter.unusedVariables false
open Go.RowKit

theorem lists_rp : (∀ s ∈ ([⟨#[]⟩, ⟨#[114, 101, 115, 117, 108, 116]⟩, ⟨#[65]⟩] : List ByteArray), s.size ≤ 40) ∧ (∀ s ∈ ([⟨#[]⟩, ⟨#[111, 107]⟩, ⟨#[10]⟩] : List ByteArray), s.size ≤ 40) ∧ (∀ s ∈ ([⟨#[102, 117, 108, 108]⟩, ⟨#[117, 110, 97, 118, 97, 105, 108, 97, 98, 108, 101]⟩, ⟨#[65]⟩, ⟨#[]⟩] : List ByteArray), s.size ≤ 40) := by decide

set_option maxRecDepth 100000 in
set_option maxHeartbeats 4000000 in
theorem draw_reply (a : Option Addr) (len cap : Nat) (w : World) (hlen : len ≤ 1048576) (hrow : SrcRow w w.heap.size a len) :
    Calls Try.prog 16 #[.slice a len cap] w fun e w' => (∃ v kd bd, e = .returned (.tuple #[v, .string kd, .string bd]) ∧ StIn v ∧ kd.size ≤ 40 ∧ bd.size ≤ 40) ∧ Below w.heap.size w w' := by
  have HR := Lib.hid hrow
  clear hrow
  obtain ⟨q1, q2, q3⟩ := lists_rp
  have Q1 := Lib.hid q1
  have Q2 := Lib.hid q2
  have Q3 := Lib.hid q3
  clear q1 q2 q3
  go_enter Try.func16, Try.ntmps16
  go_wp2_with fail
  refine (src_sourceB w.heap.size a len cap _ hlen (by simp) (srcRow_alloc HR.out _)).mono ?_
  rintro e w1 ⟨rfl, hS1, hb1⟩
  have hR1 : Arr w1 w.heap.size 30 [.string ⟨#[]⟩, .string ⟨#[]⟩, .string ⟨#[]⟩, .string ⟨#[]⟩, .int .i64 0, .string ⟨#[]⟩] := arr_below (Arr.fresh w _ _) hb1
  have hz1 := hb1.size
  rw [World.size_alloc] at hz1
  replace hb1 := below_one hb1
  rw [World.size_alloc] at hS1
  simp only [World.size_alloc]
  have hl1 := hS1.lt
  go_wp2_with fail
  refine (src_st _ _ _ hS1).mono ?_
  rintro e w2 ⟨_, rfl, ⟨k, t, f, o, n, b, rfl, hz, n0, n1⟩, hS2, hg2⟩
  have hR2 := hR1.other hg2 (fun e => by injection e; omega)
  have hb2 := below_grown hb1 hb1.size hg2 (by omega)
  have hz2 := hg2.size
  clear hS1 hg2 hb1 hR1
  have hl2 := hS2.lt
  go_wp2_with fail
  refine (src_pick _ _ (w2.heap.size + 1) 3 40 _ (by omega) (by omega) ((hS2.alloc _).alloc _) (by omega) (strRow_at (w2.alloc (.cells #[.string k, .string t, .string f, .string o, .int .i64 n, .string b] 30)) 9 40 _ [⟨#[]⟩, ⟨#[114, 101, 115, 117, 108, 116]⟩, ⟨#[65]⟩] (World.size_alloc ..).symm Q1.out)).mono ?_
  rintro e w3 ⟨_, rfl, ⟨kd, rfl, hkd⟩, hS3, hg3⟩
  have hJ : Arr w3 w2.heap.size 30 [.string k, .string t, .string f, .string o, .int .i64 n, .string b] := (arr_alloc (Arr.fresh w2 30 [.string k, .string t, .string f, .string o, .int .i64 n, .string b]) _).other hg3 (fun e => by injection e; omega)
  have hR3 := (arr_alloc (arr_alloc hR2 _) _).other hg3 (fun e => by injection e; omega)
  have hb3 := below_grown ((hb2.alloc hb2.size _).alloc (by have := hb2.size; simp; omega) _) (by have := hb2.size; simp; omega) hg3 (by omega)
  have hz3 := hg3.size
  simp at hz3
  clear hS2 hg3 hb2 hR2
  go_wp2
  refine wp_region_held_drew (S := (fun W => Arr W w2.heap.size 30 [.string k, .string t, .string f, .string o, .int .i64 n, .string b])) (by kernel_rfl) hJ (fun hHeld => ?_)
  have hS : Src w3.drew w.heap.size (w.heap.size + 1) := hS3
  have hb : Below w.heap.size w w3.drew := hb3.drew
  have hR : Arr w3.drew w.heap.size 30 [.string ⟨#[]⟩, .string ⟨#[]⟩, .string ⟨#[]⟩, .string ⟨#[]⟩, .int .i64 0, .string ⟨#[]⟩] := hR3
  have hzV : w2.heap.size + 2 ≤ w3.drew.heap.size := hz3
  have hHeld0 := hHeld
  clear hS3 hb3 hR3 hJ hz3
  generalize w3.drew = V at hHeld hHeld0 hS hb hR hzV ⊢
  refine takeH (i := 0) (k := 15) (v := .agg #[.string k, .string t, .string f, .string o, .int .i64 n, .string b]) rfl (by rfl) (by kernel_rfl) (by kernel_rfl) (by kernel_rfl) (fun _ _ _ h => h) (by rfl) ?_ hHeld ?_
  · intro w1 hSw; obtain ⟨⟨p0, p1, p2, p3, p4, p5⟩, _⟩ := arr_six hSw; go_simp
  (try simp only [Act.put, List.setIfInBounds_toArray, List.set_cons_zero, List.set_cons_succ])
  refine takeH (i := 1) (k := 16) (v := .string kd) rfl (by rfl) (by kernel_rfl) (by kernel_rfl) (by kernel_rfl) (fun _ _ _ h => h) (by rfl) ?_ hHeld ?_
  · intro w1 hSw; obtain ⟨⟨p0, p1, p2, p3, p4, p5⟩, _⟩ := arr_six hSw; go_simp
  (try simp only [Act.put, List.setIfInBounds_toArray, List.set_cons_zero, List.set_cons_succ])
  refine takeH (i := 2) (k := 17) (v := .pointer (some ⟨w.heap.size + 1, 0, none⟩)) rfl (by rfl) (by kernel_rfl) (by kernel_rfl) (by kernel_rfl) (fun _ _ _ h => h) (by rfl) ?_ hHeld ?_
  · intro w1 hSw; obtain ⟨⟨p0, p1, p2, p3, p4, p5⟩, _⟩ := arr_six hSw; go_simp
  (try simp only [Act.put, List.setIfInBounds_toArray, List.set_cons_zero, List.set_cons_succ])
  refine wpAnyH_ready (rs := [3]) (by kernel_rfl) (by simp) ?_
  refine AllReadyH.cons rfl (fun K hK => ?_) AllReadyH.nil
  rw [if_pos (by rfl)]
  go_simp
  refine hK.out _ _ (arr_alloc hHeld _) (fun hHeld => ?_)
  clear hK K
  (try simp only [Act.put, List.setIfInBounds_toArray, List.set_cons_zero, List.set_cons_succ])
  replace hR := arr_alloc hR (.cells #[.string ⟨#[]⟩, .string ⟨#[111, 107]⟩, .string ⟨#[10]⟩] 9)
  replace hb := hb.alloc hb.size (.cells #[.string ⟨#[]⟩, .string ⟨#[111, 107]⟩, .string ⟨#[10]⟩] 9)
  refine wpAnyH_ready (rs := [4]) (by kernel_rfl) (by simp) ?_
  refine AllReadyH.cons rfl (fun K hK => ?_) AllReadyH.nil
  rw [if_pos (by rfl)]
  go_simp
  refine (src_pick _ _ V.heap.size 3 40 _ (by omega) (by omega) (hS.alloc _) (by omega) (strRow_at V 9 40 _ [⟨#[]⟩, ⟨#[111, 107]⟩, ⟨#[10]⟩] rfl Q2.out)).mono ?_
  rintro e w9 ⟨_, rfl, ⟨z, rfl, hzz⟩, hS9, hg9⟩
  replace hR := hR.other hg9 (fun e => by injection e; omega)
  replace hb := below_grown hb hb.size hg9 (by omega)
  have hl9 := arr_lt hR
  refine hK.out _ _ ((arr_alloc hHeld0 _).other hg9 (fun e => by injection e; omega)) (fun hHeld => ?_)
  clear hK K
  (try simp only [Act.put, List.setIfInBounds_toArray, List.set_cons_zero, List.set_cons_succ])
  obtain ⟨⟨p0, p1, p2, p3, p4, p5⟩, f0, f1, f2, f3, f4, f5⟩ := arr_six hR
  have HRR := Lib.hid hR
  clear hR
  refine wpAnyH_ready (rs := [5]) (by kernel_rfl) (by simp) ?_
  refine AllReadyH.cons rfl (fun K hK => ?_) AllReadyH.nil
  rw [if_pos (by rfl)]
  go_simp
  refine hK.out _ _ (arr_far6 hHeld (by omega) _ _ _ _ _ _) (fun hHeld => ?_)
  clear hK K
  (try simp only [Act.put, List.setIfInBounds_toArray, List.set_cons_zero, List.set_cons_succ])
  refine takeH (i := 6) (k := 3) (v := .string kd) rfl (by rfl) (by kernel_rfl) (by kernel_rfl) (by kernel_rfl) (fun _ _ _ h => h) (by rfl) ?_ hHeld ?_
  · intro w1 hSw; obtain ⟨⟨p0, p1, p2, p3, p4, p5⟩, _⟩ := arr_six hSw; go_simp
  (try simp only [Act.put, List.setIfInBounds_toArray, List.set_cons_zero, List.set_cons_succ])
  refine takeH (i := 7) (k := 4) (v := .string z) rfl (by rfl) (by kernel_rfl) (by kernel_rfl) (by kernel_rfl) (fun _ _ _ h => h) (by rfl) ?_ hHeld ?_
  · intro w1 hSw; obtain ⟨⟨p0, p1, p2, p3, p4, p5⟩, _⟩ := arr_six hSw; go_simp
  (try simp only [Act.put, List.setIfInBounds_toArray, List.set_cons_zero, List.set_cons_succ])
  refine wpAnyH_done (by kernel_rfl) ?_ _
  have hF := arr_put6 HRR.out (.string k) (.string t) (.string f) (.string o) (.int .i64 n) (.string b)
  have hlF := arr_lt hF
  obtain ⟨⟨r0, r1, r2, r3, r4, r5⟩, _⟩ := arr_six hF
  have HB := Lib.hid (below_put6 hb (Nat.le_refl _) (.string k) (.string t) (.string f) (.string o) (.int .i64 n) (.string b))
  clear hF hHeld hHeld0 hb hS hS9 hg9 HRR
  go_wp2
  exact bodyPost_ret (v := .tuple #[.agg #[.string k, .string t, .string f, .string o, .int .i64 n, .string b], .string kd, .string z]) (by unfold put6 at r0 r1 r2 r3 r4 r5; simp [results, Try.results16, go_sem, p0, p1, p2, p3, p4, p5]; try omega) rfl ⟨⟨_, _, _, rfl, ⟨k, t, f, o, n, b, rfl, hz, n0, n1⟩, hkd, hzz⟩, HB.out⟩

set_option maxRecDepth 100000 in
set_option maxHeartbeats 4000000 in
theorem draw_fault (a : Option Addr) (len cap : Nat) (w : World) (hlen : len ≤ 1048576) (hrow : SrcRow w w.heap.size a len) :
    Calls Try.prog 19 #[.slice a len cap] w fun e w' => (∃ v nm, e = .returned (.tuple #[v, .string nm]) ∧ StIn v ∧ nm.size ≤ 40) ∧ Below w.heap.size w w' := by
  have HR := Lib.hid hrow
  clear hrow
  obtain ⟨q1, q2, q3⟩ := lists_rp
  have Q1 := Lib.hid q1
  have Q2 := Lib.hid q2
  have Q3 := Lib.hid q3
  clear q1 q2 q3
  go_enter Try.func19, Try.ntmps19
  go_wp2_with fail
  refine (src_sourceB w.heap.size a len cap _ hlen (by simp) (srcRow_alloc HR.out _)).mono ?_
  rintro e w1 ⟨rfl, hS1, hb1⟩
  have hR1 : Arr w1 w.heap.size 30 [.string ⟨#[]⟩, .string ⟨#[]⟩, .string ⟨#[]⟩, .string ⟨#[]⟩, .int .i64 0, .string ⟨#[]⟩] := arr_below (Arr.fresh w _ _) hb1
  have hz1 := hb1.size
  rw [World.size_alloc] at hz1
  replace hb1 := below_one hb1
  rw [World.size_alloc] at hS1
  simp only [World.size_alloc]
  have hl1 := hS1.lt
  go_wp2_with fail
  refine (src_st _ _ _ hS1).mono ?_
  rintro e w2 ⟨_, rfl, ⟨k, t, f, o, n, b, rfl, hz, n0, n1⟩, hS2, hg2⟩
  have hR2 := hR1.other hg2 (fun e => by injection e; omega)
  have hb2 := below_grown hb1 hb1.size hg2 (by omega)
  have hz2 := hg2.size
  clear hS1 hg2 hb1 hR1
  have hl2 := hS2.lt
  have hJ : Arr (w2.alloc (.cells #[.string k, .string t, .string f, .string o, .int .i64 n, .string b] 30)) w2.heap.size 30 [.string k, .string t, .string f, .string o, .int .i64 n, .string b] := Arr.fresh w2 30 [.string k, .string t, .string f, .string o, .int .i64 n, .string b]
  go_wp2
  refine wp_region_held_drew (S := (fun W => Arr W w2.heap.size 30 [.string k, .string t, .string f, .string o, .int .i64 n, .string b])) (by kernel_rfl) hJ (fun hHeld => ?_)
  have hS : Src (w2.alloc (.cells #[.string k, .string t, .string f, .string o, .int .i64 n, .string b] 30)).drew w.heap.size (w.heap.size + 1) := hS2.alloc _
  have hb : Below w.heap.size w (w2.alloc (.cells #[.string k, .string t, .string f, .string o, .int .i64 n, .string b] 30)).drew := (hb2.alloc hb2.size _).drew
  have hR : Arr (w2.alloc (.cells #[.string k, .string t, .string f, .string o, .int .i64 n, .string b] 30)).drew w.heap.size 30 [.string ⟨#[]⟩, .string ⟨#[]⟩, .string ⟨#[]⟩, .string ⟨#[]⟩, .int .i64 0, .string ⟨#[]⟩] := arr_alloc hR2 _
  have hzV : w2.heap.size + 1 ≤ (w2.alloc (.cells #[.string k, .string t, .string f, .string o, .int .i64 n, .string b] 30)).drew.heap.size := by simp [size_drew]
  have hHeld0 := hHeld
  clear hS2 hb2 hR2 hJ
  generalize (w2.alloc (.cells #[.string k, .string t, .string f, .string o, .int .i64 n, .string b] 30)).drew = V at hHeld hHeld0 hS hb hR hzV ⊢
  refine takeH (i := 0) (k := 10) (v := .agg #[.string k, .string t, .string f, .string o, .int .i64 n, .string b]) rfl (by rfl) (by kernel_rfl) (by kernel_rfl) (by kernel_rfl) (fun _ _ _ h => h) (by rfl) ?_ hHeld ?_
  · intro w1 hSw; obtain ⟨⟨p0, p1, p2, p3, p4, p5⟩, _⟩ := arr_six hSw; go_simp
  (try simp only [Act.put, List.setIfInBounds_toArray, List.set_cons_zero, List.set_cons_succ])
  refine takeH (i := 1) (k := 11) (v := .pointer (some ⟨w.heap.size + 1, 0, none⟩)) rfl (by rfl) (by kernel_rfl) (by kernel_rfl) (by kernel_rfl) (fun _ _ _ h => h) (by rfl) ?_ hHeld ?_
  · intro w1 hSw; obtain ⟨⟨p0, p1, p2, p3, p4, p5⟩, _⟩ := arr_six hSw; go_simp
  (try simp only [Act.put, List.setIfInBounds_toArray, List.set_cons_zero, List.set_cons_succ])
  refine wpAnyH_ready (rs := [2]) (by kernel_rfl) (by simp) ?_
  refine AllReadyH.cons rfl (fun K hK => ?_) AllReadyH.nil
  rw [if_pos (by rfl)]
  go_simp
  refine hK.out _ _ (arr_alloc hHeld _) (fun hHeld => ?_)
  clear hK K
  (try simp only [Act.put, List.setIfInBounds_toArray, List.set_cons_zero, List.set_cons_succ])
  replace hR := arr_alloc hR (.cells #[.string ⟨#[102, 117, 108, 108]⟩, .string ⟨#[117, 110, 97, 118, 97, 105, 108, 97, 98, 108, 101]⟩, .string ⟨#[65]⟩, .string ⟨#[]⟩] 9)
  replace hb := hb.alloc hb.size (.cells #[.string ⟨#[102, 117, 108, 108]⟩, .string ⟨#[117, 110, 97, 118, 97, 105, 108, 97, 98, 108, 101]⟩, .string ⟨#[65]⟩, .string ⟨#[]⟩] 9)
  refine wpAnyH_ready (rs := [3]) (by kernel_rfl) (by simp) ?_
  refine AllReadyH.cons rfl (fun K hK => ?_) AllReadyH.nil
  rw [if_pos (by rfl)]
  go_simp
  refine (src_pick _ _ V.heap.size 4 40 _ (by omega) (by omega) (hS.alloc _) (by omega) (strRow_at V 9 40 _ [⟨#[102, 117, 108, 108]⟩, ⟨#[117, 110, 97, 118, 97, 105, 108, 97, 98, 108, 101]⟩, ⟨#[65]⟩, ⟨#[]⟩] rfl Q3.out)).mono ?_
  rintro e w9 ⟨_, rfl, ⟨z, rfl, hzz⟩, hS9, hg9⟩
  replace hR := hR.other hg9 (fun e => by injection e; omega)
  replace hb := below_grown hb hb.size hg9 (by omega)
  have hl9 := arr_lt hR
  refine hK.out _ _ ((arr_alloc hHeld0 _).other hg9 (fun e => by injection e; omega)) (fun hHeld => ?_)
  clear hK K
  (try simp only [Act.put, List.setIfInBounds_toArray, List.set_cons_zero, List.set_cons_succ])
  obtain ⟨⟨p0, p1, p2, p3, p4, p5⟩, f0, f1, f2, f3, f4, f5⟩ := arr_six hR
  have HRR := Lib.hid hR
  clear hR
  refine wpAnyH_ready (rs := [4]) (by kernel_rfl) (by simp) ?_
  refine AllReadyH.cons rfl (fun K hK => ?_) AllReadyH.nil
  rw [if_pos (by rfl)]
  go_simp
  refine hK.out _ _ (arr_far6 hHeld (by omega) _ _ _ _ _ _) (fun hHeld => ?_)
  clear hK K
  (try simp only [Act.put, List.setIfInBounds_toArray, List.set_cons_zero, List.set_cons_succ])
  refine takeH (i := 5) (k := 3) (v := .string z) rfl (by rfl) (by kernel_rfl) (by kernel_rfl) (by kernel_rfl) (fun _ _ _ h => h) (by rfl) ?_ hHeld ?_
  · intro w1 hSw; obtain ⟨⟨p0, p1, p2, p3, p4, p5⟩, _⟩ := arr_six hSw; go_simp
  (try simp only [Act.put, List.setIfInBounds_toArray, List.set_cons_zero, List.set_cons_succ])
  refine wpAnyH_done (by kernel_rfl) ?_ _
  have hF := arr_put6 HRR.out (.string k) (.string t) (.string f) (.string o) (.int .i64 n) (.string b)
  have hlF := arr_lt hF
  obtain ⟨⟨r0, r1, r2, r3, r4, r5⟩, _⟩ := arr_six hF
  have HB := Lib.hid (below_put6 hb (Nat.le_refl _) (.string k) (.string t) (.string f) (.string o) (.int .i64 n) (.string b))
  clear hF hHeld hHeld0 hb hS hS9 hg9 HRR
  go_wp2
  exact bodyPost_ret (v := .tuple #[.agg #[.string k, .string t, .string f, .string o, .int .i64 n, .string b], .string z]) (by unfold put6 at r0 r1 r2 r3 r4 r5; simp [results, Try.results19, go_sem, p0, p1, p2, p3, p4, p5]; try omega) rfl ⟨⟨_, _, rfl, ⟨k, t, f, o, n, b, rfl, hz, n0, n1⟩, hzz⟩, HB.out⟩
end Go.Proofs.Ytihjgkicmgomcaa
