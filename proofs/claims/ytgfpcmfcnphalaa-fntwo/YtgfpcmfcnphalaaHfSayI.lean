/- impl.HalfSay and the user's actions. -/
import Derived.Test.YtgfpcmfcnphalaaHfSayS
import Derived.Test.YtgfpcmfcnphalaaDrawBase
import Derived.Deep.RegionHeld3
namespace Go.Proofs.Ytgfpcmfcnphalaa
set_option linter.unusedSimpArgs false
set_option linter.unusedVariables false
open Go.RowKit

theorem grown_drewH {a w : World} {r : Option Nat} (hg : a.grownBy w r) : a.grownBy w.drew r := ⟨hg.os, hg.tape, hg.output, hg.size, hg.block⟩
theorem grown_put {a w : World} {b : Nat} (hg : a.grownBy w (some b)) (i : Nat) (u : Value) : a.grownBy (w.setCell ⟨b, i, none⟩ u) (some b) :=
  ⟨hg.os, hg.tape, hg.output, by simpa [World.setCell] using hg.size, fun k hk hne => (heap_setCell_other w ⟨b, i, none⟩ k u (fun e => hne (by rw [e]))).trans (hg.block k hk hne)⟩
set_option maxHeartbeats 1000000 in
theorem end12 (b : Nat) (n o t i f : Int) (w : World) (hA : Arr w b 24 (hfC ⟨n, o, t, i, f⟩)) (hp : 0 ≤ o) (hg : 0 ≤ t) (hpg : o = 0 ∨ t = 0) :
    Calls Try.prog 62 #[.pointer (some ⟨b, 1, none⟩), .pointer (some ⟨b, 2, none⟩)] w fun e w' => e = .returned (.tuple #[.int .i64 (o + t), .int .i64 (if o + t = 0 then 10 else 0)]) ∧ Arr w' b 24 (hfC ⟨n, 0, 0, i, f⟩) ∧ w.grownBy w' (some b) := by
  obtain ⟨⟨c0, c1, c2, c3, c4⟩, d0, d1, d2, d3, d4⟩ := hf_cells hA
  dsimp only at c0 c1 c2 c3 c4
  have HA := Lib.hid hA
  clear hA
  by_cases hz : o + t = 0
  · obtain rfl : o = 0 := by omega
    obtain rfl : t = 0 := by omega
    clear hp hg hpg hz
    go_enter Try.func62, Try.ntmps62
    go_wp2
    go_region_held3 (fun W => (W.cell? ⟨b, 1, none⟩ = some (.int .i64 0) ∧ W.cell? ⟨b, 2, none⟩ = some (.int .i64 0)) ∧ True) (first | assumption | trivial) (fail)
    go_wp2
    exact bodyPost_ret (v := .tuple #[.int .i64 0, .int .i64 10]) (by simp [results, Try.results62, go_sem]) rfl ⟨rfl, HA.out, rfl, rfl, rfl, Nat.le_refl _, fun _ _ _ => rfl⟩
  · have hM : (if o < t then t else o) = o + t := by
      split <;> omega
    have hz0 : (o + t == 0) = false := by simpa using hz
    have HZ := Lib.hid hz
    clear hp hg hpg hz
    go_enter Try.func62, Try.ntmps62
    go_wp2
    go_region_held3 (fun W => (W.cell? ⟨b, 1, none⟩ = some (.int .i64 o) ∧ W.cell? ⟨b, 2, none⟩ = some (.int .i64 t)) ∧ True) (first | assumption | trivial) (fail)
    go_wp2
    exact bodyPost_ret (v := .tuple #[.int .i64 (o + t), .int .i64 0]) (by simp [results, Try.results62, go_sem]) rfl ⟨rfl, (HA.out.put 1 _).put 2 _, grown_drewH (grown_put (grown_put ⟨rfl, rfl, rfl, Nat.le_refl _, fun _ _ _ => rfl⟩ _ _) _ _)⟩
set_option maxHeartbeats 1000000 in
theorem end34 (b : Nat) (n o t i f : Int) (w : World) (hA : Arr w b 24 (hfC ⟨n, o, t, i, f⟩)) (hp : 0 ≤ i) (hg : 0 ≤ f) (hpg : i = 0 ∨ f = 0) :
    Calls Try.prog 62 #[.pointer (some ⟨b, 3, none⟩), .pointer (some ⟨b, 4, none⟩)] w fun e w' => e = .returned (.tuple #[.int .i64 (i + f), .int .i64 (if i + f = 0 then 10 else 0)]) ∧ Arr w' b 24 (hfC ⟨n, o, t, 0, 0⟩) ∧ w.grownBy w' (some b) := by
  obtain ⟨⟨c0, c1, c2, c3, c4⟩, d0, d1, d2, d3, d4⟩ := hf_cells hA
  dsimp only at c0 c1 c2 c3 c4
  have HA := Lib.hid hA
  clear hA
  by_cases hz : i + f = 0
  · obtain rfl : i = 0 := by omega
    obtain rfl : f = 0 := by omega
    clear hp hg hpg hz
    go_enter Try.func62, Try.ntmps62
    go_wp2
    go_region_held3 (fun W => (W.cell? ⟨b, 3, none⟩ = some (.int .i64 0) ∧ W.cell? ⟨b, 4, none⟩ = some (.int .i64 0)) ∧ True) (first | assumption | trivial) (fail)
    go_wp2
    exact bodyPost_ret (v := .tuple #[.int .i64 0, .int .i64 10]) (by simp [results, Try.results62, go_sem]) rfl ⟨rfl, HA.out, rfl, rfl, rfl, Nat.le_refl _, fun _ _ _ => rfl⟩
  · have hM : (if i < f then f else i) = i + f := by
      split <;> omega
    have hz0 : (i + f == 0) = false := by simpa using hz
    have HZ := Lib.hid hz
    clear hp hg hpg hz
    go_enter Try.func62, Try.ntmps62
    go_wp2
    go_region_held3 (fun W => (W.cell? ⟨b, 3, none⟩ = some (.int .i64 i) ∧ W.cell? ⟨b, 4, none⟩ = some (.int .i64 f)) ∧ True) (first | assumption | trivial) (fail)
    go_wp2
    exact bodyPost_ret (v := .tuple #[.int .i64 (i + f), .int .i64 0]) (by simp [results, Try.results62, go_sem]) rfl ⟨rfl, (HA.out.put 3 _).put 4 _, grown_drewH (grown_put (grown_put ⟨rfl, rfl, rfl, Nat.le_refl _, fun _ _ _ => rfl⟩ _ _) _ _)⟩
set_option maxHeartbeats 1000000 in
theorem hf_leave (b : Nat) (n o t i f : Int) (w : World) (hA : Arr w b 24 (hfC ⟨n, o, t, i, f⟩)) (hp : 0 ≤ o) (hg : 0 ≤ t) (hpg : o = 0 ∨ t = 0) :
    Calls Try.prog 57 #[.pointer (some ⟨b, 0, none⟩)] w fun e w' => e = .returned (.tuple #[.int .i64 (o + t), .int .i64 (if o + t = 0 then 10 else 0)]) ∧ Arr w' b 24 (hfC ⟨n, 0, 0, i, f⟩) ∧ w.grownBy w' (some b) := by
  have i1 := fun W hA => end12 b n o t i f W hA hp hg hpg
  have HA := Lib.hid (show Arr w.drew b 24 (hfC ⟨n, o, t, i, f⟩) from hA)
  obtain ⟨c, hc⟩ : ∃ c : Int, (if o + t = 0 then (10 : Int) else 0) = c := ⟨_, rfl⟩
  rw [hc] at i1 ⊢
  clear hA hp hg hpg hc
  go_enter Try.func57, Try.ntmps57
  go_wp2
  go_region_held3 (fun _ => True) (trivial) (first | (go_at_call 62; go_fit (i1 _ HA.out); rintro e w1 ⟨rfl, hA1, hg1⟩; have HA1 := Lib.hid hA1; have HG1 := Lib.hid hg1; clear hA1 hg1))
  go_wp2
  exact bodyPost_ret (v := .tuple #[.int .i64 (o + t), .int .i64 c]) (by simp [results, Try.results57, go_sem]) rfl ⟨rfl, HA1.out, HG1.out.os, HG1.out.tape, HG1.out.output, HG1.out.size, HG1.out.block⟩
set_option maxHeartbeats 1000000 in
theorem hf_deny (b : Nat) (n o t i f : Int) (w : World) (hA : Arr w b 24 (hfC ⟨n, o, t, i, f⟩)) (hp : 0 ≤ i) (hg : 0 ≤ f) (hpg : i = 0 ∨ f = 0) :
    Calls Try.prog 58 #[.pointer (some ⟨b, 0, none⟩)] w fun e w' => e = .returned (.tuple #[.int .i64 (i + f), .int .i64 (if i + f = 0 then 10 else 0)]) ∧ Arr w' b 24 (hfC ⟨n, o, t, 0, 0⟩) ∧ w.grownBy w' (some b) := by
  have i1 := fun W hA => end34 b n o t i f W hA hp hg hpg
  have HA := Lib.hid (show Arr w.drew b 24 (hfC ⟨n, o, t, i, f⟩) from hA)
  obtain ⟨c, hc⟩ : ∃ c : Int, (if i + f = 0 then (10 : Int) else 0) = c := ⟨_, rfl⟩
  rw [hc] at i1 ⊢
  clear hA hp hg hpg hc
  go_enter Try.func58, Try.ntmps58
  go_wp2
  go_region_held3 (fun _ => True) (trivial) (first | (go_at_call 62; go_fit (i1 _ HA.out); rintro e w1 ⟨rfl, hA1, hg1⟩; have HA1 := Lib.hid hA1; have HG1 := Lib.hid hg1; clear hA1 hg1))
  go_wp2
  exact bodyPost_ret (v := .tuple #[.int .i64 (i + f), .int .i64 c]) (by simp [results, Try.results58, go_sem]) rfl ⟨rfl, HA1.out, HG1.out.os, HG1.out.tape, HG1.out.output, HG1.out.size, HG1.out.block⟩
set_option maxHeartbeats 1000000 in
theorem a1a (b : Nat) (n o t i f : Int) (w : World) (hA : Arr w b 24 (hfC ⟨n, o, t, i, f⟩)) (g0 : (o == 0) = false) :
    Calls Try.prog 55 #[.pointer (some ⟨b, 0, none⟩)] w fun e w' => e = .returned (.tuple #[.int .i64 0, .int .i64 10]) ∧ Arr w' b 24 (hfC ⟨n, o, t, i, f⟩) ∧ w.grownBy w' (some b) := by
  obtain ⟨⟨c0, c1, c2, c3, c4⟩, d0, d1, d2, d3, d4⟩ := hf_cells hA
  dsimp only at c0 c1 c2 c3 c4
  have HA := Lib.hid hA
  clear hA
  go_enter Try.func55, Try.ntmps55
  go_wp2
  exact bodyPost_ret (v := .tuple #[.int .i64 0, .int .i64 10]) (by simp [results, Try.results55, go_sem]) rfl ⟨rfl, HA.out, ⟨rfl, rfl, rfl, Nat.le_refl _, fun _ _ _ => rfl⟩⟩
set_option maxHeartbeats 1000000 in
theorem a1b (b : Nat) (n t i f : Int) (w : World) (hA : Arr w b 24 (hfC ⟨n, 0, t, i, f⟩)) (g0 : (t == 0) = false) :
    Calls Try.prog 55 #[.pointer (some ⟨b, 0, none⟩)] w fun e w' => e = .returned (.tuple #[.int .i64 0, .int .i64 10]) ∧ Arr w' b 24 (hfC ⟨n, 0, t, i, f⟩) ∧ w.grownBy w' (some b) := by
  obtain ⟨⟨c0, c1, c2, c3, c4⟩, d0, d1, d2, d3, d4⟩ := hf_cells hA
  dsimp only at c0 c1 c2 c3 c4
  have HA := Lib.hid hA
  clear hA
  go_enter Try.func55, Try.ntmps55
  go_wp2
  exact bodyPost_ret (v := .tuple #[.int .i64 0, .int .i64 10]) (by simp [results, Try.results55, go_sem]) rfl ⟨rfl, HA.out, ⟨rfl, rfl, rfl, Nat.le_refl _, fun _ _ _ => rfl⟩⟩
set_option maxHeartbeats 1000000 in
theorem a1c (b : Nat) (i f : Int) (w : World) (hA : Arr w b 24 (hfC ⟨1000000000, 0, 0, i, f⟩))  :
    Calls Try.prog 55 #[.pointer (some ⟨b, 0, none⟩)] w fun e w' => e = .returned (.tuple #[.int .i64 0, .int .i64 9]) ∧ Arr w' b 24 (hfC ⟨1000000000, 0, 0, i, f⟩) ∧ w.grownBy w' (some b) := by
  obtain ⟨⟨c0, c1, c2, c3, c4⟩, d0, d1, d2, d3, d4⟩ := hf_cells hA
  dsimp only at c0 c1 c2 c3 c4
  have HA := Lib.hid hA
  clear hA
  go_enter Try.func55, Try.ntmps55
  go_wp2
  exact bodyPost_ret (v := .tuple #[.int .i64 0, .int .i64 9]) (by simp [results, Try.results55, go_sem]) rfl ⟨rfl, HA.out, ⟨rfl, rfl, rfl, Nat.le_refl _, fun _ _ _ => rfl⟩⟩
set_option maxHeartbeats 1000000 in
theorem a1d (b : Nat) (n i f : Int) (w : World) (hA : Arr w b 24 (hfC ⟨n, 0, 0, i, f⟩)) (g0 : 0 ≤ n) (g1 : n < 1000000000) (g2 : (n == 1000000000) = false) :
    Calls Try.prog 55 #[.pointer (some ⟨b, 0, none⟩)] w fun e w' => e = .returned (.tuple #[.int .i64 (n + 1), .int .i64 0]) ∧ Arr w' b 24 (hfC ⟨(n + 1), (n + 1), 0, i, f⟩) ∧ w.grownBy w' (some b) := by
  obtain ⟨⟨c0, c1, c2, c3, c4⟩, d0, d1, d2, d3, d4⟩ := hf_cells hA
  dsimp only at c0 c1 c2 c3 c4
  have HA := Lib.hid hA
  clear hA
  go_enter Try.func55, Try.ntmps55
  go_wp2
  exact bodyPost_ret (v := .tuple #[.int .i64 (n + 1), .int .i64 0]) (by simp [results, Try.results55, go_sem]) rfl ⟨rfl, ((HA.out.put 0 _).put 1 _), (grown_put (grown_put ⟨rfl, rfl, rfl, Nat.le_refl _, fun _ _ _ => rfl⟩ _ _) _ _)⟩
set_option maxHeartbeats 1000000 in
theorem a2a (b : Nat) (n o t f : Int) (w : World) (hA : Arr w b 24 (hfC ⟨n, o, t, 0, f⟩))  :
    Calls Try.prog 56 #[.pointer (some ⟨b, 0, none⟩)] w fun e w' => e = .returned (.tuple #[.int .i64 0, .int .i64 10]) ∧ Arr w' b 24 (hfC ⟨n, o, t, 0, f⟩) ∧ w.grownBy w' (some b) := by
  obtain ⟨⟨c0, c1, c2, c3, c4⟩, d0, d1, d2, d3, d4⟩ := hf_cells hA
  dsimp only at c0 c1 c2 c3 c4
  have HA := Lib.hid hA
  clear hA
  go_enter Try.func56, Try.ntmps56
  go_wp2
  exact bodyPost_ret (v := .tuple #[.int .i64 0, .int .i64 10]) (by simp [results, Try.results56, go_sem]) rfl ⟨rfl, HA.out, ⟨rfl, rfl, rfl, Nat.le_refl _, fun _ _ _ => rfl⟩⟩
set_option maxHeartbeats 1000000 in
theorem a2b (b : Nat) (n o t i f : Int) (w : World) (hA : Arr w b 24 (hfC ⟨n, o, t, i, f⟩)) (g0 : (i == 0) = false) :
    Calls Try.prog 56 #[.pointer (some ⟨b, 0, none⟩)] w fun e w' => e = .returned (.tuple #[.int .i64 i, .int .i64 0]) ∧ Arr w' b 24 (hfC ⟨n, o, t, 0, i⟩) ∧ w.grownBy w' (some b) := by
  obtain ⟨⟨c0, c1, c2, c3, c4⟩, d0, d1, d2, d3, d4⟩ := hf_cells hA
  dsimp only at c0 c1 c2 c3 c4
  have HA := Lib.hid hA
  clear hA
  go_enter Try.func56, Try.ntmps56
  go_wp2
  exact bodyPost_ret (v := .tuple #[.int .i64 i, .int .i64 0]) (by simp [results, Try.results56, go_sem]) rfl ⟨rfl, ((HA.out.put 3 _).put 4 _), (grown_put (grown_put ⟨rfl, rfl, rfl, Nat.le_refl _, fun _ _ _ => rfl⟩ _ _) _ _)⟩
/-- What the user can do, by kind. -/
abbrev actV (b : Nat) : Value := .agg #[.nilFunc, .func (.func 55) #[.pointer (some ⟨b, 0, none⟩)] #[], .func (.func 56) #[.pointer (some ⟨b, 0, none⟩)] #[], .func (.func 57) #[.pointer (some ⟨b, 0, none⟩)] #[], .func (.func 58) #[.pointer (some ⟨b, 0, none⟩)] #[]]
abbrev actC (b : Nat) : List Value := [.nilFunc, .func (.func 55) #[.pointer (some ⟨b, 0, none⟩)] #[], .func (.func 56) #[.pointer (some ⟨b, 0, none⟩)] #[], .func (.func 57) #[.pointer (some ⟨b, 0, none⟩)] #[], .func (.func 58) #[.pointer (some ⟨b, 0, none⟩)] #[]]
theorem acts (b : Nat) (w : World) : Calls Try.prog 39 #[.pointer (some ⟨b, 0, none⟩)] w fun e w' => e = .returned (actV b) ∧ Below w.heap.size w w' := by
  have HX := Lib.hid (bx1 w 60 [.nilFunc, .nilFunc, .nilFunc, .nilFunc, .nilFunc])
  go_enter Try.func39, Try.ntmps39
  go_wp2_with (refine wpList_store_row rfl 60 _ _ rfl w.heap.size _ rfl rfl 60 _ (HX.out.2 0 (show 0 < 1 by decide)) (by kernel_rfl) (by rfl) (by kernel_rfl) ?_)
  have HY := HX.out.row 0 (show 0 < 1 by decide) (actC b)
  exact bodyPost_ret (v := actV b) (results_cell_row (P := Try.prog) Try.results39 _ _ w.heap.size 60 _ (0, 0) _ rfl (HY.2 0 (show 0 < 1 by decide)) Try.underlying60 rfl (by kernel_rfl)) rfl ⟨rfl, HY.1⟩
theorem idx1 (b : Nat) (W : World) : (Instr.index 60 (actV b) (.int .i64 1)).run Try.prog W = .ok (.func (.func 55) #[.pointer (some ⟨b, 0, none⟩)] #[]) W := by kernel_rfl
theorem idx2 (b : Nat) (W : World) : (Instr.index 60 (actV b) (.int .i64 2)).run Try.prog W = .ok (.func (.func 56) #[.pointer (some ⟨b, 0, none⟩)] #[]) W := by kernel_rfl
theorem idx3 (b : Nat) (W : World) : (Instr.index 60 (actV b) (.int .i64 3)).run Try.prog W = .ok (.func (.func 57) #[.pointer (some ⟨b, 0, none⟩)] #[]) W := by kernel_rfl
theorem idx4 (b : Nat) (W : World) : (Instr.index 60 (actV b) (.int .i64 4)).run Try.prog W = .ok (.func (.func 58) #[.pointer (some ⟨b, 0, none⟩)] #[]) W := by kernel_rfl
theorem Bx.grown0 {w W W2 : World} {t : Nat} {c c2 : List Value} {l : List (Nat × List Value)} (h : Bx w W ((t, c) :: l)) (hg : W.grownBy W2 (some w.heap.size)) (hA : Arr W2 w.heap.size t c2) : Bx w W2 ((t, c2) :: l) := by
  refine ⟨Below.grown h.1 hg h.1.size (fun k hk => by injection hk with hk; omega), fun k hk => ?_⟩
  match k, hk with
  | 0, _ => exact hA
  | k + 1, hk =>
    have h1 := h.2 (k + 1) hk
    exact (hg.block _ (arr_ltH h1) (fun e => by injection e with e; omega)).trans h1
theorem hf_kind (k : Int) (w : World) : Calls Try.prog 38 #[.int .i64 k] w fun e w' => e = .returned (.bool (isN 1 4 k)) ∧ w' = w := by
  obtain ⟨b, hb⟩ : ∃ b, isN 1 4 k = b := ⟨_, rfl⟩
  have HB := Lib.hid hb
  rw [hb]
  clear hb
  go_enter Try.func38, Try.ntmps38
  go_wp2
  all_goals (go_ret; exact ⟨ret_bool (by rw [← HB.out]; unfold isN; simp; try omega), rfl⟩)
set_option maxHeartbeats 1000000 in
theorem i1a (n o t i f : Int) (w : World) (q : HfL.ok ⟨n, o, t, i, f⟩) (g0 : (o == 0) = false) : Calls Try.prog 13 #[.agg #[.int .i64 n, .int .i64 o, .int .i64 t, .int .i64 i, .int .i64 f], .int .i64 1] w fun e w' => HoIs w.heap.size (illH 10) e w' ∧ Below w.heap.size w w' := by
  have i1 := fun W => impl_right ⟨n, o, t, i, f⟩ W
  rw [decide_eq_true q] at i1
  have j1 := fun W (HH : Arr W w.heap.size 24 (hfC ⟨n, o, t, i, f⟩)) => a1a w.heap.size n o t i f W HH g0
  have hI := fun W => idx1 w.heap.size W
  have i2 := hf_kind 1
  rw [show isN 1 4 1 = true from rfl] at i2
  clear q
  go_enter Try.func13, Try.ntmps13
  go_wp2_with (first
    | (go_at_call 19; go_fit (i1 _); rintro e w1 ⟨rfl, hb⟩; have HX1 := Lib.hid ((bx2 w 24 29 [.int .i64 n, .int .i64 o, .int .i64 t, .int .i64 i, .int .i64 f] hoZ).on hb); clear hb)
    | (go_at_call 38; go_fit (i2 _); rintro e w' ⟨rfl, rfl⟩)
    | (go_at_call 39; go_fit (acts _ _); rintro e w2 ⟨rfl, hb⟩; have HX2 := Lib.hid (HX1.out.on hb); clear hb)
    | (go_at_call 55; go_fit (j1 _ (HX2.out.2 0 (show 0 < 2 by decide))); rintro e w3 ⟨rfl, hA, hg⟩; have HX3 := Lib.hid (HX2.out.grown0 hg hA); obtain ⟨⟨c0, c1, c2, c3, c4⟩, _⟩ := hf_cells hA; dsimp only at c0 c1 c2 c3 c4; have hlt := arr_ltH hA; clear hA hg)
    | (refine wpList_store_row rfl 29 _ _ rfl (w.heap.size + 1) _ rfl rfl 29 _ (HX3.out.2 1 (show 1 < 2 by decide)) (by kernel_rfl) (by rfl) (by kernel_rfl) ?_))
  have HY := HX3.out.row 1 (show 1 < 2 by decide) (hoC hf0 none 0 0 10)
  exact bodyPost_ret (v := hoV hf0 none 0 0 10) (results_cell_row (P := Try.prog) Try.results13 _ _ (w.heap.size + 1) 29 _ (0, 0) _ rfl (HY.2 1 (show 1 < 2 by decide)) Try.underlying29 rfl (by kernel_rfl)) rfl ⟨ho_ill _ _ _, HY.1⟩
set_option maxHeartbeats 1000000 in
theorem i1b (n t i f : Int) (w : World) (q : HfL.ok ⟨n, 0, t, i, f⟩) (g0 : (t == 0) = false) : Calls Try.prog 13 #[.agg #[.int .i64 n, .int .i64 0, .int .i64 t, .int .i64 i, .int .i64 f], .int .i64 1] w fun e w' => HoIs w.heap.size (illH 10) e w' ∧ Below w.heap.size w w' := by
  have i1 := fun W => impl_right ⟨n, 0, t, i, f⟩ W
  rw [decide_eq_true q] at i1
  have j1 := fun W (HH : Arr W w.heap.size 24 (hfC ⟨n, 0, t, i, f⟩)) => a1b w.heap.size n t i f W HH g0
  have hI := fun W => idx1 w.heap.size W
  have i2 := hf_kind 1
  rw [show isN 1 4 1 = true from rfl] at i2
  clear q
  go_enter Try.func13, Try.ntmps13
  go_wp2_with (first
    | (go_at_call 19; go_fit (i1 _); rintro e w1 ⟨rfl, hb⟩; have HX1 := Lib.hid ((bx2 w 24 29 [.int .i64 n, .int .i64 0, .int .i64 t, .int .i64 i, .int .i64 f] hoZ).on hb); clear hb)
    | (go_at_call 38; go_fit (i2 _); rintro e w' ⟨rfl, rfl⟩)
    | (go_at_call 39; go_fit (acts _ _); rintro e w2 ⟨rfl, hb⟩; have HX2 := Lib.hid (HX1.out.on hb); clear hb)
    | (go_at_call 55; go_fit (j1 _ (HX2.out.2 0 (show 0 < 2 by decide))); rintro e w3 ⟨rfl, hA, hg⟩; have HX3 := Lib.hid (HX2.out.grown0 hg hA); obtain ⟨⟨c0, c1, c2, c3, c4⟩, _⟩ := hf_cells hA; dsimp only at c0 c1 c2 c3 c4; have hlt := arr_ltH hA; clear hA hg)
    | (refine wpList_store_row rfl 29 _ _ rfl (w.heap.size + 1) _ rfl rfl 29 _ (HX3.out.2 1 (show 1 < 2 by decide)) (by kernel_rfl) (by rfl) (by kernel_rfl) ?_))
  have HY := HX3.out.row 1 (show 1 < 2 by decide) (hoC hf0 none 0 0 10)
  exact bodyPost_ret (v := hoV hf0 none 0 0 10) (results_cell_row (P := Try.prog) Try.results13 _ _ (w.heap.size + 1) 29 _ (0, 0) _ rfl (HY.2 1 (show 1 < 2 by decide)) Try.underlying29 rfl (by kernel_rfl)) rfl ⟨ho_ill _ _ _, HY.1⟩
set_option maxHeartbeats 1000000 in
theorem i1c (i f : Int) (w : World) (q : HfL.ok ⟨1000000000, 0, 0, i, f⟩)  : Calls Try.prog 13 #[.agg #[.int .i64 1000000000, .int .i64 0, .int .i64 0, .int .i64 i, .int .i64 f], .int .i64 1] w fun e w' => HoIs w.heap.size (illH 9) e w' ∧ Below w.heap.size w w' := by
  have i1 := fun W => impl_right ⟨1000000000, 0, 0, i, f⟩ W
  rw [decide_eq_true q] at i1
  have j1 := fun W (HH : Arr W w.heap.size 24 (hfC ⟨1000000000, 0, 0, i, f⟩)) => a1c w.heap.size i f W HH
  have hI := fun W => idx1 w.heap.size W
  have i2 := hf_kind 1
  rw [show isN 1 4 1 = true from rfl] at i2
  clear q
  go_enter Try.func13, Try.ntmps13
  go_wp2_with (first
    | (go_at_call 19; go_fit (i1 _); rintro e w1 ⟨rfl, hb⟩; have HX1 := Lib.hid ((bx2 w 24 29 [.int .i64 1000000000, .int .i64 0, .int .i64 0, .int .i64 i, .int .i64 f] hoZ).on hb); clear hb)
    | (go_at_call 38; go_fit (i2 _); rintro e w' ⟨rfl, rfl⟩)
    | (go_at_call 39; go_fit (acts _ _); rintro e w2 ⟨rfl, hb⟩; have HX2 := Lib.hid (HX1.out.on hb); clear hb)
    | (go_at_call 55; go_fit (j1 _ (HX2.out.2 0 (show 0 < 2 by decide))); rintro e w3 ⟨rfl, hA, hg⟩; have HX3 := Lib.hid (HX2.out.grown0 hg hA); obtain ⟨⟨c0, c1, c2, c3, c4⟩, _⟩ := hf_cells hA; dsimp only at c0 c1 c2 c3 c4; have hlt := arr_ltH hA; clear hA hg)
    | (refine wpList_store_row rfl 29 _ _ rfl (w.heap.size + 1) _ rfl rfl 29 _ (HX3.out.2 1 (show 1 < 2 by decide)) (by kernel_rfl) (by rfl) (by kernel_rfl) ?_))
  have HY := HX3.out.row 1 (show 1 < 2 by decide) (hoC hf0 none 0 0 9)
  exact bodyPost_ret (v := hoV hf0 none 0 0 9) (results_cell_row (P := Try.prog) Try.results13 _ _ (w.heap.size + 1) 29 _ (0, 0) _ rfl (HY.2 1 (show 1 < 2 by decide)) Try.underlying29 rfl (by kernel_rfl)) rfl ⟨ho_ill _ _ _, HY.1⟩
set_option maxHeartbeats 1000000 in
theorem i1d (n i f : Int) (w : World) (q : HfL.ok ⟨n, 0, 0, i, f⟩) (g0 : 0 ≤ n) (g1 : n < 1000000000) (g2 : (n == 1000000000) = false) (g3 : (n + 1 == 0) = false) : Calls Try.prog 13 #[.agg #[.int .i64 n, .int .i64 0, .int .i64 0, .int .i64 i, .int .i64 f], .int .i64 1] w fun e w' => HoIs w.heap.size (sentH ⟨(n + 1), (n + 1), 0, i, f⟩ 1 (n + 1)) e w' ∧ Below w.heap.size w w' := by
  have i1 := fun W => impl_right ⟨n, 0, 0, i, f⟩ W
  rw [decide_eq_true q] at i1
  have j1 := fun W (HH : Arr W w.heap.size 24 (hfC ⟨n, 0, 0, i, f⟩)) => a1d w.heap.size n i f W HH g0 g1 g2
  have hI := fun W => idx1 w.heap.size W
  have i2 := hf_kind 1
  rw [show isN 1 4 1 = true from rfl] at i2
  clear q g0 g1
  go_enter Try.func13, Try.ntmps13
  go_wp2_with (first
    | (go_at_call 19; go_fit (i1 _); rintro e w1 ⟨rfl, hb⟩; have HX1 := Lib.hid ((bx2 w 24 29 [.int .i64 n, .int .i64 0, .int .i64 0, .int .i64 i, .int .i64 f] hoZ).on hb); clear hb)
    | (go_at_call 38; go_fit (i2 _); rintro e w' ⟨rfl, rfl⟩)
    | (go_at_call 39; go_fit (acts _ _); rintro e w2 ⟨rfl, hb⟩; have HX2 := Lib.hid (HX1.out.on hb); clear hb)
    | (go_at_call 55; go_fit (j1 _ (HX2.out.2 0 (show 0 < 2 by decide))); rintro e w3 ⟨rfl, hA, hg⟩; have HX3 := Lib.hid (HX2.out.grown0 hg hA); obtain ⟨⟨c0, c1, c2, c3, c4⟩, _⟩ := hf_cells hA; dsimp only at c0 c1 c2 c3 c4; have hlt := arr_ltH hA; clear hA hg)
    | (refine wpList_store_row rfl 29 _ _ rfl (w.heap.size + 1) _ rfl rfl 29 _ ((HX3.out.on ((Below.refl w3.heap.size w3).alloc (Nat.le_refl _) (.cells #[.int .i64 1, .int .i64 (n + 1)] 32))).2 1 (show 1 < 2 by decide)) (by kernel_rfl) (by rfl) (by kernel_rfl) ?_))
  have HY := (HX3.out.on ((Below.refl w3.heap.size w3).alloc (Nat.le_refl _) (.cells #[.int .i64 1, .int .i64 (n + 1)] 32))).row 1 (show 1 < 2 by decide) (hoC ⟨(n + 1), (n + 1), 0, i, f⟩ (some ⟨w3.heap.size, 0, none⟩) 1 1 0)
  exact bodyPost_ret (v := hoV ⟨(n + 1), (n + 1), 0, i, f⟩ (some ⟨w3.heap.size, 0, none⟩) 1 1 0) (results_cell_row (P := Try.prog) Try.results13 _ _ (w.heap.size + 1) 29 _ (0, 0) _ rfl (HY.2 1 (show 1 < 2 by decide)) Try.underlying29 rfl (by kernel_rfl)) rfl ⟨⟨_, _, rfl, ((one_sub w3 1 (n + 1)).setRowH (arr_ltH (HX3.out.2 1 (show 1 < 2 by decide))) _).mono HX3.out.1.size⟩, HY.1⟩
set_option maxHeartbeats 1000000 in
theorem i2a (n o t f : Int) (w : World) (q : HfL.ok ⟨n, o, t, 0, f⟩)  : Calls Try.prog 13 #[.agg #[.int .i64 n, .int .i64 o, .int .i64 t, .int .i64 0, .int .i64 f], .int .i64 2] w fun e w' => HoIs w.heap.size (illH 10) e w' ∧ Below w.heap.size w w' := by
  have i1 := fun W => impl_right ⟨n, o, t, 0, f⟩ W
  rw [decide_eq_true q] at i1
  have j1 := fun W (HH : Arr W w.heap.size 24 (hfC ⟨n, o, t, 0, f⟩)) => a2a w.heap.size n o t f W HH
  have hI := fun W => idx2 w.heap.size W
  have i2 := hf_kind 2
  rw [show isN 1 4 2 = true from rfl] at i2
  clear q
  go_enter Try.func13, Try.ntmps13
  go_wp2_with (first
    | (go_at_call 19; go_fit (i1 _); rintro e w1 ⟨rfl, hb⟩; have HX1 := Lib.hid ((bx2 w 24 29 [.int .i64 n, .int .i64 o, .int .i64 t, .int .i64 0, .int .i64 f] hoZ).on hb); clear hb)
    | (go_at_call 38; go_fit (i2 _); rintro e w' ⟨rfl, rfl⟩)
    | (go_at_call 39; go_fit (acts _ _); rintro e w2 ⟨rfl, hb⟩; have HX2 := Lib.hid (HX1.out.on hb); clear hb)
    | (go_at_call 56; go_fit (j1 _ (HX2.out.2 0 (show 0 < 2 by decide))); rintro e w3 ⟨rfl, hA, hg⟩; have HX3 := Lib.hid (HX2.out.grown0 hg hA); obtain ⟨⟨c0, c1, c2, c3, c4⟩, _⟩ := hf_cells hA; dsimp only at c0 c1 c2 c3 c4; have hlt := arr_ltH hA; clear hA hg)
    | (refine wpList_store_row rfl 29 _ _ rfl (w.heap.size + 1) _ rfl rfl 29 _ (HX3.out.2 1 (show 1 < 2 by decide)) (by kernel_rfl) (by rfl) (by kernel_rfl) ?_))
  have HY := HX3.out.row 1 (show 1 < 2 by decide) (hoC hf0 none 0 0 10)
  exact bodyPost_ret (v := hoV hf0 none 0 0 10) (results_cell_row (P := Try.prog) Try.results13 _ _ (w.heap.size + 1) 29 _ (0, 0) _ rfl (HY.2 1 (show 1 < 2 by decide)) Try.underlying29 rfl (by kernel_rfl)) rfl ⟨ho_ill _ _ _, HY.1⟩
set_option maxHeartbeats 1000000 in
theorem i2b (n o t i f : Int) (w : World) (q : HfL.ok ⟨n, o, t, i, f⟩) (g0 : (i == 0) = false) : Calls Try.prog 13 #[.agg #[.int .i64 n, .int .i64 o, .int .i64 t, .int .i64 i, .int .i64 f], .int .i64 2] w fun e w' => HoIs w.heap.size (sentH ⟨n, o, t, 0, i⟩ 2 i) e w' ∧ Below w.heap.size w w' := by
  have i1 := fun W => impl_right ⟨n, o, t, i, f⟩ W
  rw [decide_eq_true q] at i1
  have j1 := fun W (HH : Arr W w.heap.size 24 (hfC ⟨n, o, t, i, f⟩)) => a2b w.heap.size n o t i f W HH g0
  have hI := fun W => idx2 w.heap.size W
  have i2 := hf_kind 2
  rw [show isN 1 4 2 = true from rfl] at i2
  clear q
  go_enter Try.func13, Try.ntmps13
  go_wp2_with (first
    | (go_at_call 19; go_fit (i1 _); rintro e w1 ⟨rfl, hb⟩; have HX1 := Lib.hid ((bx2 w 24 29 [.int .i64 n, .int .i64 o, .int .i64 t, .int .i64 i, .int .i64 f] hoZ).on hb); clear hb)
    | (go_at_call 38; go_fit (i2 _); rintro e w' ⟨rfl, rfl⟩)
    | (go_at_call 39; go_fit (acts _ _); rintro e w2 ⟨rfl, hb⟩; have HX2 := Lib.hid (HX1.out.on hb); clear hb)
    | (go_at_call 56; go_fit (j1 _ (HX2.out.2 0 (show 0 < 2 by decide))); rintro e w3 ⟨rfl, hA, hg⟩; have HX3 := Lib.hid (HX2.out.grown0 hg hA); obtain ⟨⟨c0, c1, c2, c3, c4⟩, _⟩ := hf_cells hA; dsimp only at c0 c1 c2 c3 c4; have hlt := arr_ltH hA; clear hA hg)
    | (refine wpList_store_row rfl 29 _ _ rfl (w.heap.size + 1) _ rfl rfl 29 _ ((HX3.out.on ((Below.refl w3.heap.size w3).alloc (Nat.le_refl _) (.cells #[.int .i64 2, .int .i64 i] 32))).2 1 (show 1 < 2 by decide)) (by kernel_rfl) (by rfl) (by kernel_rfl) ?_))
  have HY := (HX3.out.on ((Below.refl w3.heap.size w3).alloc (Nat.le_refl _) (.cells #[.int .i64 2, .int .i64 i] 32))).row 1 (show 1 < 2 by decide) (hoC ⟨n, o, t, 0, i⟩ (some ⟨w3.heap.size, 0, none⟩) 1 1 0)
  exact bodyPost_ret (v := hoV ⟨n, o, t, 0, i⟩ (some ⟨w3.heap.size, 0, none⟩) 1 1 0) (results_cell_row (P := Try.prog) Try.results13 _ _ (w.heap.size + 1) 29 _ (0, 0) _ rfl (HY.2 1 (show 1 < 2 by decide)) Try.underlying29 rfl (by kernel_rfl)) rfl ⟨⟨_, _, rfl, ((one_sub w3 2 i).setRowH (arr_ltH (HX3.out.2 1 (show 1 < 2 by decide))) _).mono HX3.out.1.size⟩, HY.1⟩
set_option maxHeartbeats 1000000 in
theorem i3a (n i f : Int) (w : World) (q : HfL.ok ⟨n, 0, 0, i, f⟩)  : Calls Try.prog 13 #[.agg #[.int .i64 n, .int .i64 0, .int .i64 0, .int .i64 i, .int .i64 f], .int .i64 3] w fun e w' => HoIs w.heap.size (illH 10) e w' ∧ Below w.heap.size w w' := by
  have i1 := fun W => impl_right ⟨n, 0, 0, i, f⟩ W
  rw [decide_eq_true q] at i1
  have j1 := fun W (HH : Arr W w.heap.size 24 (hfC ⟨n, 0, 0, i, f⟩)) => hf_leave w.heap.size n 0 0 i f W HH (Int.le_refl _) (Int.le_refl _) (.inl rfl)
  rw [if_pos (by rfl)] at j1
  have hI := fun W => idx3 w.heap.size W
  have i2 := hf_kind 3
  rw [show isN 1 4 3 = true from rfl] at i2
  clear q
  go_enter Try.func13, Try.ntmps13
  go_wp2_with (first
    | (go_at_call 19; go_fit (i1 _); rintro e w1 ⟨rfl, hb⟩; have HX1 := Lib.hid ((bx2 w 24 29 [.int .i64 n, .int .i64 0, .int .i64 0, .int .i64 i, .int .i64 f] hoZ).on hb); clear hb)
    | (go_at_call 38; go_fit (i2 _); rintro e w' ⟨rfl, rfl⟩)
    | (go_at_call 39; go_fit (acts _ _); rintro e w2 ⟨rfl, hb⟩; have HX2 := Lib.hid (HX1.out.on hb); clear hb)
    | (go_at_call 57; go_fit (j1 _ (HX2.out.2 0 (show 0 < 2 by decide))); rintro e w3 ⟨rfl, hA, hg⟩; have HX3 := Lib.hid (HX2.out.grown0 hg hA); obtain ⟨⟨c0, c1, c2, c3, c4⟩, _⟩ := hf_cells hA; dsimp only at c0 c1 c2 c3 c4; have hlt := arr_ltH hA; clear hA hg)
    | (refine wpList_store_row rfl 29 _ _ rfl (w.heap.size + 1) _ rfl rfl 29 _ (HX3.out.2 1 (show 1 < 2 by decide)) (by kernel_rfl) (by rfl) (by kernel_rfl) ?_))
  have HY := HX3.out.row 1 (show 1 < 2 by decide) (hoC hf0 none 0 0 10)
  exact bodyPost_ret (v := hoV hf0 none 0 0 10) (results_cell_row (P := Try.prog) Try.results13 _ _ (w.heap.size + 1) 29 _ (0, 0) _ rfl (HY.2 1 (show 1 < 2 by decide)) Try.underlying29 rfl (by kernel_rfl)) rfl ⟨ho_ill _ _ _, HY.1⟩
set_option maxHeartbeats 1000000 in
theorem i3b (n o t i f : Int) (w : World) (q : HfL.ok ⟨n, o, t, i, f⟩) (g0 : 0 ≤ o) (g1 : 0 ≤ t) (g2 : o = 0 ∨ t = 0) (g3 : o + t ≠ 0) : Calls Try.prog 13 #[.agg #[.int .i64 n, .int .i64 o, .int .i64 t, .int .i64 i, .int .i64 f], .int .i64 3] w fun e w' => HoIs w.heap.size (sentH ⟨n, 0, 0, i, f⟩ 3 (o + t)) e w' ∧ Below w.heap.size w w' := by
  have i1 := fun W => impl_right ⟨n, o, t, i, f⟩ W
  rw [decide_eq_true q] at i1
  have j1 := fun W (HH : Arr W w.heap.size 24 (hfC ⟨n, o, t, i, f⟩)) => hf_leave w.heap.size n o t i f W HH g0 g1 g2
  rw [if_neg g3] at j1
  have gz : (o + t == 0) = false := by simpa using g3
  have hI := fun W => idx3 w.heap.size W
  have i2 := hf_kind 3
  rw [show isN 1 4 3 = true from rfl] at i2
  clear q g0 g1 g2 g3
  go_enter Try.func13, Try.ntmps13
  go_wp2_with (first
    | (go_at_call 19; go_fit (i1 _); rintro e w1 ⟨rfl, hb⟩; have HX1 := Lib.hid ((bx2 w 24 29 [.int .i64 n, .int .i64 o, .int .i64 t, .int .i64 i, .int .i64 f] hoZ).on hb); clear hb)
    | (go_at_call 38; go_fit (i2 _); rintro e w' ⟨rfl, rfl⟩)
    | (go_at_call 39; go_fit (acts _ _); rintro e w2 ⟨rfl, hb⟩; have HX2 := Lib.hid (HX1.out.on hb); clear hb)
    | (go_at_call 57; go_fit (j1 _ (HX2.out.2 0 (show 0 < 2 by decide))); rintro e w3 ⟨rfl, hA, hg⟩; have HX3 := Lib.hid (HX2.out.grown0 hg hA); obtain ⟨⟨c0, c1, c2, c3, c4⟩, _⟩ := hf_cells hA; dsimp only at c0 c1 c2 c3 c4; have hlt := arr_ltH hA; clear hA hg)
    | (refine wpList_store_row rfl 29 _ _ rfl (w.heap.size + 1) _ rfl rfl 29 _ ((HX3.out.on ((Below.refl w3.heap.size w3).alloc (Nat.le_refl _) (.cells #[.int .i64 3, .int .i64 (o + t)] 32))).2 1 (show 1 < 2 by decide)) (by kernel_rfl) (by rfl) (by kernel_rfl) ?_))
  have HY := (HX3.out.on ((Below.refl w3.heap.size w3).alloc (Nat.le_refl _) (.cells #[.int .i64 3, .int .i64 (o + t)] 32))).row 1 (show 1 < 2 by decide) (hoC ⟨n, 0, 0, i, f⟩ (some ⟨w3.heap.size, 0, none⟩) 1 1 0)
  exact bodyPost_ret (v := hoV ⟨n, 0, 0, i, f⟩ (some ⟨w3.heap.size, 0, none⟩) 1 1 0) (results_cell_row (P := Try.prog) Try.results13 _ _ (w.heap.size + 1) 29 _ (0, 0) _ rfl (HY.2 1 (show 1 < 2 by decide)) Try.underlying29 rfl (by kernel_rfl)) rfl ⟨⟨_, _, rfl, ((one_sub w3 3 (o + t)).setRowH (arr_ltH (HX3.out.2 1 (show 1 < 2 by decide))) _).mono HX3.out.1.size⟩, HY.1⟩
set_option maxHeartbeats 1000000 in
theorem i4a (n o t : Int) (w : World) (q : HfL.ok ⟨n, o, t, 0, 0⟩)  : Calls Try.prog 13 #[.agg #[.int .i64 n, .int .i64 o, .int .i64 t, .int .i64 0, .int .i64 0], .int .i64 4] w fun e w' => HoIs w.heap.size (illH 10) e w' ∧ Below w.heap.size w w' := by
  have i1 := fun W => impl_right ⟨n, o, t, 0, 0⟩ W
  rw [decide_eq_true q] at i1
  have j1 := fun W (HH : Arr W w.heap.size 24 (hfC ⟨n, o, t, 0, 0⟩)) => hf_deny w.heap.size n o t 0 0 W HH (Int.le_refl _) (Int.le_refl _) (.inl rfl)
  rw [if_pos (by rfl)] at j1
  have hI := fun W => idx4 w.heap.size W
  have i2 := hf_kind 4
  rw [show isN 1 4 4 = true from rfl] at i2
  clear q
  go_enter Try.func13, Try.ntmps13
  go_wp2_with (first
    | (go_at_call 19; go_fit (i1 _); rintro e w1 ⟨rfl, hb⟩; have HX1 := Lib.hid ((bx2 w 24 29 [.int .i64 n, .int .i64 o, .int .i64 t, .int .i64 0, .int .i64 0] hoZ).on hb); clear hb)
    | (go_at_call 38; go_fit (i2 _); rintro e w' ⟨rfl, rfl⟩)
    | (go_at_call 39; go_fit (acts _ _); rintro e w2 ⟨rfl, hb⟩; have HX2 := Lib.hid (HX1.out.on hb); clear hb)
    | (go_at_call 58; go_fit (j1 _ (HX2.out.2 0 (show 0 < 2 by decide))); rintro e w3 ⟨rfl, hA, hg⟩; have HX3 := Lib.hid (HX2.out.grown0 hg hA); obtain ⟨⟨c0, c1, c2, c3, c4⟩, _⟩ := hf_cells hA; dsimp only at c0 c1 c2 c3 c4; have hlt := arr_ltH hA; clear hA hg)
    | (refine wpList_store_row rfl 29 _ _ rfl (w.heap.size + 1) _ rfl rfl 29 _ (HX3.out.2 1 (show 1 < 2 by decide)) (by kernel_rfl) (by rfl) (by kernel_rfl) ?_))
  have HY := HX3.out.row 1 (show 1 < 2 by decide) (hoC hf0 none 0 0 10)
  exact bodyPost_ret (v := hoV hf0 none 0 0 10) (results_cell_row (P := Try.prog) Try.results13 _ _ (w.heap.size + 1) 29 _ (0, 0) _ rfl (HY.2 1 (show 1 < 2 by decide)) Try.underlying29 rfl (by kernel_rfl)) rfl ⟨ho_ill _ _ _, HY.1⟩
set_option maxHeartbeats 1000000 in
theorem i4b (n o t i f : Int) (w : World) (q : HfL.ok ⟨n, o, t, i, f⟩) (g0 : 0 ≤ i) (g1 : 0 ≤ f) (g2 : i = 0 ∨ f = 0) (g3 : i + f ≠ 0) : Calls Try.prog 13 #[.agg #[.int .i64 n, .int .i64 o, .int .i64 t, .int .i64 i, .int .i64 f], .int .i64 4] w fun e w' => HoIs w.heap.size (sentH ⟨n, o, t, 0, 0⟩ 4 (i + f)) e w' ∧ Below w.heap.size w w' := by
  have i1 := fun W => impl_right ⟨n, o, t, i, f⟩ W
  rw [decide_eq_true q] at i1
  have j1 := fun W (HH : Arr W w.heap.size 24 (hfC ⟨n, o, t, i, f⟩)) => hf_deny w.heap.size n o t i f W HH g0 g1 g2
  rw [if_neg g3] at j1
  have gz : (i + f == 0) = false := by simpa using g3
  have hI := fun W => idx4 w.heap.size W
  have i2 := hf_kind 4
  rw [show isN 1 4 4 = true from rfl] at i2
  clear q g0 g1 g2 g3
  go_enter Try.func13, Try.ntmps13
  go_wp2_with (first
    | (go_at_call 19; go_fit (i1 _); rintro e w1 ⟨rfl, hb⟩; have HX1 := Lib.hid ((bx2 w 24 29 [.int .i64 n, .int .i64 o, .int .i64 t, .int .i64 i, .int .i64 f] hoZ).on hb); clear hb)
    | (go_at_call 38; go_fit (i2 _); rintro e w' ⟨rfl, rfl⟩)
    | (go_at_call 39; go_fit (acts _ _); rintro e w2 ⟨rfl, hb⟩; have HX2 := Lib.hid (HX1.out.on hb); clear hb)
    | (go_at_call 58; go_fit (j1 _ (HX2.out.2 0 (show 0 < 2 by decide))); rintro e w3 ⟨rfl, hA, hg⟩; have HX3 := Lib.hid (HX2.out.grown0 hg hA); obtain ⟨⟨c0, c1, c2, c3, c4⟩, _⟩ := hf_cells hA; dsimp only at c0 c1 c2 c3 c4; have hlt := arr_ltH hA; clear hA hg)
    | (refine wpList_store_row rfl 29 _ _ rfl (w.heap.size + 1) _ rfl rfl 29 _ ((HX3.out.on ((Below.refl w3.heap.size w3).alloc (Nat.le_refl _) (.cells #[.int .i64 4, .int .i64 (i + f)] 32))).2 1 (show 1 < 2 by decide)) (by kernel_rfl) (by rfl) (by kernel_rfl) ?_))
  have HY := (HX3.out.on ((Below.refl w3.heap.size w3).alloc (Nat.le_refl _) (.cells #[.int .i64 4, .int .i64 (i + f)] 32))).row 1 (show 1 < 2 by decide) (hoC ⟨n, o, t, 0, 0⟩ (some ⟨w3.heap.size, 0, none⟩) 1 1 0)
  exact bodyPost_ret (v := hoV ⟨n, o, t, 0, 0⟩ (some ⟨w3.heap.size, 0, none⟩) 1 1 0) (results_cell_row (P := Try.prog) Try.results13 _ _ (w.heap.size + 1) 29 _ (0, 0) _ rfl (HY.2 1 (show 1 < 2 by decide)) Try.underlying29 rfl (by kernel_rfl)) rfl ⟨⟨_, _, rfl, ((one_sub w3 4 (i + f)).setRowH (arr_ltH (HX3.out.2 1 (show 1 < 2 by decide))) _).mono HX3.out.1.size⟩, HY.1⟩
end Go.Proofs.Ytgfpcmfcnphalaa
