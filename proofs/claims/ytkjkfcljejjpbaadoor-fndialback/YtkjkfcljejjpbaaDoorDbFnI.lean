/- impl.DbOpen, impl.DbResult and impl.DbVerified. -/
import Derived.Test.YtkjkfcljejjpbaaDoorDbChg
namespace Go.Proofs.YtkjkfcljejjpbaaDoor
set_option linter.unusedSimpArgs false
set_option linter.unusedVariables false
open Go.RowKit Go.Joins

noncomputable def openR (d : ByteArray) (n : Int) (ps : List PrL) (f : ByteArray) : DoR :=
  if 20000 < f.size then errR 2 else if (dbB d n ps && domB f) = false then errR 1 else if ps.length = 10 ∨ n = 1000000000 then errR 9 else ⟨d, n + 1, ps ++ [zeroPr f n], n, 0⟩
noncomputable def resultR (d : ByteArray) (n : Int) (ps : List PrL) (id : Int) (key : ByteArray) : DoR :=
  if 20000 < key.size then errR 2 else if dbB d n ps = false then errR 1 else
  match atK id ps with
  | none => errR 6
  | some k => if key.size = 0 ∨ 64 < key.size then errR 1 else if (ps.getD k default).s ≠ 0 then errR 10 else ⟨d, n, ps.set k (prK (ps.getD k default) 1 key), 0, 0⟩
noncomputable def verifiedR (d : ByteArray) (n : Int) (ps : List PrL) (id : Int) (good : Bool) : DoR :=
  if dbB d n ps = false then errR 1 else
  match atK id ps with
  | none => errR 6
  | some k => if (ps.getD k default).s ≠ 1 then errR 10 else ⟨d, n, ps.set k (prS (ps.getD k default) (if good then 2 else 3)), 0, 0⟩
theorem db_bounds {d : ByteArray} {n : Int} {ps : List PrL} (h : dbB d n ps = true) : 1 ≤ n ∧ n ≤ 1000000000 ∧ ps.length ≤ 10 := by
  unfold dbB at h
  simp only [Bool.and_eq_true, decide_eq_true_eq] at h
  obtain ⟨⟨⟨_, h1, h2⟩, h3⟩, _⟩ := h
  exact ⟨h1, h2, h3⟩
/-- The boxes of DbOpen: the dialback's, the answer's. -/
def OpB (w W : World) (cs : List Value) : Prop := Arr W w.heap.size 25 cs ∧ Arr W (w.heap.size + 1) 29 [.string ⟨#[]⟩, .int .i64 0, .slice none 0 0, .int .i64 0, .int .i64 0] ∧ Below w.heap.size w W
theorem OpB.on {w W W2 : World} {cs : List Value} (h : OpB w W cs) (hb : Below W.heap.size W W2) : OpB w W2 cs := ⟨arr_below h.1 hb, arr_below h.2.1 hb, h.2.2.trans (hb.mono h.2.2.size)⟩
theorem opb_start (w : World) (a b c : Value) : OpB w ((w.alloc (.cells #[a, b, c] 25)).alloc (.cells #[.string ⟨#[]⟩, .int .i64 0, .slice none 0 0, .int .i64 0, .int .i64 0] 29)) [a, b, c] := by
  have h2 := Arr.fresh (w.alloc (.cells #[a, b, c] 25)) 29 [.string ⟨#[]⟩, .int .i64 0, .slice none 0 0, .int .i64 0, .int .i64 0]
  rw [World.size_alloc] at h2
  exact ⟨arr_alloc (Arr.fresh w _ _) _, h2, ((Below.refl _ _).alloc (Nat.le_refl _) _).alloc (by simp) _⟩
set_option maxRecDepth 100000 in
set_option maxHeartbeats 400000 in
theorem impl_open_size (d : ByteArray) (n : Int) (ps : List PrL) (p : Option Addr) (c B0 : Nat) (f : ByteArray) (w : World) (h : 20000 < f.size) (hf : f.size ≤ 1048576) :
    Calls Tryd.prog 5 #[dbV d n p ps.length c, .string f] w fun e w' => e = .returned (doV ⟨#[]⟩ 0 none 0 0 0 2) ∧ Below w.heap.size w w' := by
  have h' : (20000 : Int) < f.size := by omega
  unfold dbV
  go_enter Tryd.func5, Tryd.ntmps5
  go_wp2
  have hA := Arr.fresh (w.alloc (.cells #[.string d, .int .i64 n, .slice p ps.length c] 25)) 29 [.string ⟨#[]⟩, .int .i64 0, .slice none 0 0, .int .i64 0, .int .i64 2]
  rw [World.size_alloc] at hA
  exact bodyPost_ret (v := doV ⟨#[]⟩ 0 none 0 0 0 2) (results_cell_row (P := Tryd.prog) Tryd.results5 _ _ (w.heap.size + 1) 29 _ (0, 0) _ rfl (hA) Tryd.underlying29 rfl (by kernel_rfl)) rfl ⟨rfl, ((Below.refl _ _).alloc (Nat.le_refl _) _).alloc (by simp) _⟩
set_option maxRecDepth 100000 in
set_option maxHeartbeats 400000 in
theorem impl_open_err (d : ByteArray) (n : Int) (ps : List PrL) (p : Option Addr) (c B0 : Nat) (f : ByteArray) (w : World) (h : ¬ 20000 < f.size) (ax : Addr) (code : Int) (hc : code ≠ 0)
    (i1 : ∀ W, Below w.heap.size w W → Calls Tryd.prog 22 #[dbV d n p ps.length c, .string f] W fun e w' => e = .returned (.tuple #[dbV ⟨#[]⟩ 0 none 0 0, .iface 102 (.pointer (some ax))]) ∧ Below W.heap.size W w')
    (i2 : ∀ W, Below w.heap.size w W → Calls Tryd.prog 23 #[dbV ⟨#[]⟩ 0 none 0 0, .iface 102 (.pointer (some ax))] W fun e w' => e = .returned (doV ⟨#[]⟩ 0 none 0 0 0 code) ∧ Below W.heap.size W w') :
    Calls Tryd.prog 5 #[dbV d n p ps.length c, .string f] w fun e w' => e = .returned (doV ⟨#[]⟩ 0 none 0 0 0 code) ∧ Below w.heap.size w w' := by
  have h' : ¬ (20000 : Int) < f.size := by omega
  have hc' : (code == 0) = false := by rw [beq_eq_false_iff_ne]; exact hc
  have HS := Lib.hid (opb_start w (.string d) (.int .i64 n) (.slice p ps.length c))
  unfold dbV at i1 i2 ⊢
  unfold doV at i2
  go_enter Tryd.func5, Tryd.ntmps5
  go_wp2_with (first
    | (go_at_call 22; go_fit (i1 _ HS.out.2.2); rintro e w1 ⟨rfl, hb⟩; have HS1 := Lib.hid (HS.out.on hb); clear hb; have HS1a := Lib.hid (HS1.out.on ((Below.refl _ _).alloc (Nat.le_refl _) (.cells #[.string ⟨#[]⟩, .int .i64 0, .slice none 0 0] 25))))
    | (go_at_call 23; go_fit (i2 _ HS1a.out.2.2); rintro e w2 ⟨rfl, hb⟩; have HS2 := Lib.hid (HS1a.out.on hb); clear hb; obtain ⟨⟨c0, c1, c2, c3, c4⟩, f0, f1, f2, f3, f4⟩ := arr_five HS2.out.2.1; obtain ⟨d0, d1, d2, _⟩ := arr_three HS2.out.1; have hlt := arr_lt HS2.out.2.1; have hlt0 : w.heap.size < w2.heap.size := (by omega)))
  exact bodyPost_ret (v := doV ⟨#[]⟩ 0 none 0 0 0 code) (results_cell_row (P := Tryd.prog) Tryd.results5 _ _ (w.heap.size + 1) 29 _ (0, 0) _ rfl (arr_alloc (arr_put5 HS2.out.2.1 (.string ⟨#[]⟩) (.int .i64 0) (.slice none 0 0) (.int .i64 0) (.int .i64 code)) _) Tryd.underlying29 rfl (by kernel_rfl)) rfl ⟨rfl, (below_put5 HS2.out.2.2 (Nat.le_succ _) _ _ _ _ _).alloc (below_put5 HS2.out.2.2 (Nat.le_succ _) _ _ _ _ _).size _⟩
set_option maxRecDepth 100000 in
set_option maxHeartbeats 400000 in
theorem impl_open_ok (d : ByteArray) (n : Int) (ps : List PrL) (p : Option Addr) (c B0 : Nat) (f : ByteArray) (w : World) (h : ¬ 20000 < f.size)
    (i1 : ∀ W, Below w.heap.size w W → Calls Tryd.prog 22 #[dbV d n p ps.length c, .string f] W fun e w' => (∃ q k, e = .returned (.tuple #[dbV d (n + 1) q (ps.length + 1) k, .nilIface]) ∧ OwnC prC w' W.heap.size 43 4 (.slice q (ps.length + 1) k) (ps ++ [zeroPr f n])) ∧ Below W.heap.size W w') :
    Calls Tryd.prog 5 #[dbV d n p ps.length c, .string f] w fun e w' => DoIs w.heap.size ⟨d, n + 1, ps ++ [zeroPr f n], n, 0⟩ e w' ∧ Below w.heap.size w w' := by
  have h' : ¬ (20000 : Int) < f.size := by omega
  have HS := Lib.hid (opb_start w (.string d) (.int .i64 n) (.slice p ps.length c))
  have i2 := fun q k W => impl_out_ok d (n + 1) q (ps.length + 1) k W
  obtain ⟨N, hN⟩ : ∃ N, ps.length = N := ⟨_, rfl⟩
  have HN := Lib.hid hN
  rw [hN] at HS i1 i2 ⊢
  unfold dbV at i1 i2 ⊢
  unfold doV at i2
  clear hN
  go_enter Tryd.func5, Tryd.ntmps5
  go_wp2_with (first
    | (go_at_call 22; go_fit (i1 _ HS.out.2.2); rintro e w1 ⟨⟨q, k, rfl, ho⟩, hb⟩; have HS1 := Lib.hid (HS.out.on hb); clear hb; have HS1a := Lib.hid (HS1.out.on ((Below.refl _ _).alloc (Nat.le_refl _) (.cells #[.string d, .int .i64 (n + 1), .slice q (N + 1) k] 25))); have HV1 := Lib.hid ((ho.mono (B' := w.heap.size + 2) (by have := arr_lt HS.out.2.1; omega)).alloc (.cells #[.string d, .int .i64 (n + 1), .slice q (N + 1) k] 25)); clear ho)
    | (go_at_call 23; go_fit (i2 q k _); rintro e w2 ⟨rfl, hb⟩; have HS2 := Lib.hid (HS1a.out.on hb); have HV2 := Lib.hid (HV1.out.on hb); clear hb; obtain ⟨⟨c0, c1, c2, c3, c4⟩, f0, f1, f2, f3, f4⟩ := arr_five HS2.out.2.1; obtain ⟨d0, d1, d2, _⟩ := arr_three HS2.out.1; have hlt := arr_lt HS2.out.2.1; have hlt0 : w.heap.size < w2.heap.size := (by omega)))
  have hL : ∀ (j : Nat) (u : Value) (X : World), OwnC prC X (w.heap.size + 2) 43 4 (.slice q (N + 1) k) (ps ++ [zeroPr f n]) → OwnC prC (X.setCell ⟨w.heap.size + 1, j, none⟩ u) (w.heap.size + 2) 43 4 (.slice q (N + 1) k) (ps ++ [zeroPr f n]) := fun j u X hX => hX.low (a := ⟨w.heap.size + 1, j, none⟩) (by show w.heap.size + 1 < w.heap.size + 2; omega) u
  exact bodyPost_ret (v := doV d (n + 1) q (N + 1) k n 0) (results_cell_row (P := Tryd.prog) Tryd.results5 _ _ (w.heap.size + 1) 29 _ (0, 0) _ rfl (arr_alloc (arr_put5 HS2.out.2.1 (.string d) (.int .i64 (n + 1)) (.slice q (N + 1) k) (.int .i64 n) (.int .i64 0)) _) Tryd.underlying29 rfl (by kernel_rfl)) rfl ⟨⟨q, k, by rw [show (ps ++ [zeroPr f n]).length = N + 1 by rw [List.length_append, HN.out]; rfl], by rw [show (ps ++ [zeroPr f n]).length = N + 1 by rw [List.length_append, HN.out]; rfl]; exact ((hL _ _ _ (hL _ _ _ (hL _ _ _ (hL _ _ _ (hL _ _ _ HV2.out))))).alloc _).mono (by omega)⟩, (below_put5 HS2.out.2.2 (Nat.le_succ _) _ _ _ _ _).alloc (below_put5 HS2.out.2.2 (Nat.le_succ _) _ _ _ _ _).size _⟩
theorem impl_open (d : ByteArray) (n : Int) (ps : List PrL) (p : Option Addr) (c B0 : Nat) (f : ByteArray) (w : World) (hd : d.size ≤ 1048576) (hl : ps.length ≤ 1048576) (hw : ∀ x ∈ ps, x.d.size ≤ 1048576 ∧ x.k.size ≤ 1048576) (hO : OwnC prC w B0 43 4 (.slice p ps.length c) ps) (hm : MaxL w) (hE : Errs w) (hf : f.size ≤ 1048576) :
    Calls Tryd.prog 5 #[dbV d n p ps.length c, .string f] w fun e w' => DoIs w.heap.size (openR d n ps f) e w' ∧ Below w.heap.size w w' := by
  obtain ⟨a0, a1, a2, a3, hE⟩ := hE
  have HM := fun W (h : Below w.heap.size w W) => hm.below h hm.pos
  by_cases h1 : 20000 < f.size
  · unfold openR
    rw [if_pos h1]
    exact (impl_open_size d n ps p c B0 f w h1 hf).mono fun e w' ⟨he, hb⟩ => ⟨by rw [he]; exact do_err _ _ _, hb⟩
  by_cases h2 : (dbB d n ps && domB f) = false
  · unfold openR
    rw [if_neg h1, if_pos h2]
    exact (impl_open_err d n ps p c B0 f w h1 a0 1 (by decide) (fun W hb => impl_new_form d n ps p c B0 f a0 a1 a2 a3 W hd hf hl hw (hO.on hb) (HM W hb) (hE.below hb) h2) (fun W hb => impl_out_1 a0 a1 a2 a3 W (hE.below hb))).mono fun e w' ⟨he, hb⟩ => ⟨by rw [he]; exact do_err _ _ _, hb⟩
  have h2' : dbB d n ps = true ∧ domB f = true := by
    have : (dbB d n ps && domB f) = true := by revert h2; cases (dbB d n ps && domB f) <;> simp
    simpa using this
  by_cases h3 : ps.length = 10 ∨ n = 1000000000
  · unfold openR
    rw [if_neg h1, if_neg h2, if_pos h3]
    exact (impl_open_err d n ps p c B0 f w h1 a2 9 (by decide) (fun W hb => impl_new_full d n ps p c B0 f a0 a1 a2 a3 W hd hf hl hw (hO.on hb) (HM W hb) (hE.below hb) h2'.1 h2'.2 h3) (fun W hb => impl_out_9 a0 a1 a2 a3 W (hE.below hb))).mono fun e w' ⟨he, hb⟩ => ⟨by rw [he]; exact do_err _ _ _, hb⟩
  · unfold openR
    rw [if_neg h1, if_neg h2, if_neg h3]
    obtain ⟨b1, b2, b3⟩ := db_bounds h2'.1
    exact impl_open_ok d n ps p c B0 f w h1 (fun W hb => impl_new_ok d n ps p c B0 f a0 a1 a2 a3 W hd hf hl hw (hO.on hb) (HM W hb) (hE.below hb) h2'.1 h2'.2 (fun e => h3 (.inl e)) (fun e => h3 (.inr e)) b1 b2)
/-- The boxes of this function: the dialback's, the other argument's, the answer's. -/
def B3_result (w W : World) (cs : List Value) (x : Value) : Prop := Arr W w.heap.size 25 cs ∧ Arr W (w.heap.size + 1) 9 [x] ∧ Arr W (w.heap.size + 2) 29 [.string ⟨#[]⟩, .int .i64 0, .slice none 0 0, .int .i64 0, .int .i64 0] ∧ Below w.heap.size w W
theorem B3_result.on {w W W2 : World} {cs : List Value} {x : Value} (h : B3_result w W cs x) (hb : Below W.heap.size W W2) : B3_result w W2 cs x := ⟨arr_below h.1 hb, arr_below h.2.1 hb, arr_below h.2.2.1 hb, h.2.2.2.trans (hb.mono h.2.2.2.size)⟩
theorem b3_result_start (w : World) (a b c x : Value) : B3_result w (((w.alloc (.cells #[a, b, c] 25)).alloc (.cells #[x] 9)).alloc (.cells #[.string ⟨#[]⟩, .int .i64 0, .slice none 0 0, .int .i64 0, .int .i64 0] 29)) [a, b, c] x := by
  have h2 := Arr.fresh (w.alloc (.cells #[a, b, c] 25)) 9 [x]
  have h3 := Arr.fresh ((w.alloc (.cells #[a, b, c] 25)).alloc (.cells #[x] 9)) 29 [.string ⟨#[]⟩, .int .i64 0, .slice none 0 0, .int .i64 0, .int .i64 0]
  rw [World.size_alloc] at h2
  rw [World.size_alloc, World.size_alloc] at h3
  exact ⟨arr_alloc (arr_alloc (Arr.fresh w _ _) _) _, arr_alloc h2 _, h3, (((Below.refl _ _).alloc (Nat.le_refl _) _).alloc (by simp) _).alloc (by simp; omega) _⟩
set_option maxRecDepth 100000 in
set_option maxHeartbeats 400000 in
theorem impl_result_err (d : ByteArray) (n : Int) (ps : List PrL) (p : Option Addr) (c B0 : Nat) (id : Int) (key : ByteArray) (w : World) (h : ¬ 20000 < key.size) (ax : Addr) (code : Int)
    (i1 : ∀ W, Below w.heap.size w W → W.cell? ⟨w.heap.size + 1, 0, none⟩ = some (.string key) → Calls Tryd.prog 25 #[dbV d n p ps.length c, .int .i64 id, .func (.func 26) #[] #[.pointer (some ⟨w.heap.size + 1, 0, none⟩)]] W fun e w' => e = .returned (.tuple #[dbV ⟨#[]⟩ 0 none 0 0, .iface 102 (.pointer (some ax))]) ∧ Below W.heap.size W w')
    (i2 : ∀ W, Below w.heap.size w W → Calls Tryd.prog 23 #[dbV ⟨#[]⟩ 0 none 0 0, .iface 102 (.pointer (some ax))] W fun e w' => e = .returned (doV ⟨#[]⟩ 0 none 0 0 0 code) ∧ Below W.heap.size W w') :
    Calls Tryd.prog 7 #[dbV d n p ps.length c, .int .i64 id, .string key] w fun e w' => e = .returned (doV ⟨#[]⟩ 0 none 0 0 0 code) ∧ Below w.heap.size w w' := by
  have h' : ¬ (20000 : Int) < key.size := by omega
  have HS := Lib.hid (b3_result_start w (.string d) (.int .i64 n) (.slice p ps.length c) (.string key))
  unfold dbV at i1 i2 ⊢
  unfold doV at i2
  go_enter Tryd.func7, Tryd.ntmps7
  go_wp2_with (first
    | (go_at_call 25; go_fit (i1 _ HS.out.2.2.2 (HS.out.2.1.cell 0)); rintro e w1 ⟨rfl, hb⟩; have HS1 := Lib.hid (HS.out.on hb); clear hb)
    | (go_at_call 23; go_fit (i2 _ HS1.out.2.2.2); rintro e w2 ⟨rfl, hb⟩; have HS2 := Lib.hid (HS1.out.on hb); clear hb; obtain ⟨⟨c0, c1, c2, c3, c4⟩, f0, f1, f2, f3, f4⟩ := arr_five HS2.out.2.2.1))
  exact bodyPost_ret (v := doV ⟨#[]⟩ 0 none 0 0 0 code) (results_cell_row (P := Tryd.prog) Tryd.results7 _ _ (w.heap.size + 2) 29 _ (0, 0) _ rfl (arr_put5 HS2.out.2.2.1 (.string ⟨#[]⟩) (.int .i64 0) (.slice none 0 0) (.int .i64 0) (.int .i64 code)) Tryd.underlying29 rfl (by kernel_rfl)) rfl ⟨rfl, below_put5 HS2.out.2.2.2 (by omega) _ _ _ _ _⟩
set_option maxRecDepth 100000 in
set_option maxHeartbeats 400000 in
theorem impl_result_ok (d : ByteArray) (n : Int) (ps : List PrL) (p : Option Addr) (c B0 : Nat) (id : Int) (key : ByteArray) (w : World) (h : ¬ 20000 < key.size) (K : Nat) (y : PrL)
    (i1 : ∀ W, Below w.heap.size w W → W.cell? ⟨w.heap.size + 1, 0, none⟩ = some (.string key) → Calls Tryd.prog 25 #[dbV d n p ps.length c, .int .i64 id, .func (.func 26) #[] #[.pointer (some ⟨w.heap.size + 1, 0, none⟩)]] W fun e w' => (∃ q k, e = .returned (.tuple #[dbV d n q ps.length k, .nilIface]) ∧ OwnC prC w' W.heap.size 43 4 (.slice q ps.length k) (ps.set K y)) ∧ Below W.heap.size W w') :
    Calls Tryd.prog 7 #[dbV d n p ps.length c, .int .i64 id, .string key] w fun e w' => DoIs w.heap.size ⟨d, n, ps.set K y, 0, 0⟩ e w' ∧ Below w.heap.size w w' := by
  have h' : ¬ (20000 : Int) < key.size := by omega
  have HS := Lib.hid (b3_result_start w (.string d) (.int .i64 n) (.slice p ps.length c) (.string key))
  have i2 := fun q k W => impl_out_ok d n q ps.length k W
  obtain ⟨N, hN⟩ : ∃ N, ps.length = N := ⟨_, rfl⟩
  have HN := Lib.hid hN
  rw [hN] at HS i1 i2 ⊢
  unfold dbV at i1 i2 ⊢
  unfold doV at i2
  clear hN
  go_enter Tryd.func7, Tryd.ntmps7
  go_wp2_with (first
    | (go_at_call 25; go_fit (i1 _ HS.out.2.2.2 (HS.out.2.1.cell 0)); rintro e w1 ⟨⟨q, k, rfl, ho⟩, hb⟩; have HS1 := Lib.hid (HS.out.on hb); have HV1 := Lib.hid (ho.mono (B' := w.heap.size + 3) (by have := arr_lt HS.out.2.2.1; omega)); clear hb ho)
    | (go_at_call 23; go_fit (i2 q k _); rintro e w2 ⟨rfl, hb⟩; have HS2 := Lib.hid (HS1.out.on hb); have HV2 := Lib.hid (HV1.out.on hb); clear hb; obtain ⟨⟨c0, c1, c2, c3, c4⟩, f0, f1, f2, f3, f4⟩ := arr_five HS2.out.2.2.1))
  have hL : ∀ (j : Nat) (u : Value) (X : World), OwnC prC X (w.heap.size + 3) 43 4 (.slice q N k) (ps.set K y) → OwnC prC (X.setCell ⟨w.heap.size + 2, j, none⟩ u) (w.heap.size + 3) 43 4 (.slice q N k) (ps.set K y) := fun j u X hX => hX.low (a := ⟨w.heap.size + 2, j, none⟩) (by show w.heap.size + 2 < w.heap.size + 3; omega) u
  exact bodyPost_ret (v := doV d n q N k 0 0) (results_cell_row (P := Tryd.prog) Tryd.results7 _ _ (w.heap.size + 2) 29 _ (0, 0) _ rfl (arr_put5 HS2.out.2.2.1 (.string d) (.int .i64 n) (.slice q N k) (.int .i64 0) (.int .i64 0)) Tryd.underlying29 rfl (by kernel_rfl)) rfl ⟨⟨q, k, by rw [show (ps.set K y).length = N by rw [List.length_set, HN.out]], by rw [show (ps.set K y).length = N by rw [List.length_set, HN.out]]; exact (hL _ _ _ (hL _ _ _ (hL _ _ _ (hL _ _ _ (hL _ _ _ HV2.out))))).mono (by omega)⟩, below_put5 HS2.out.2.2.2 (by omega) _ _ _ _ _⟩
/-- The boxes of this function: the dialback's, the other argument's, the answer's. -/
def B3_verified (w W : World) (cs : List Value) (x : Value) : Prop := Arr W w.heap.size 25 cs ∧ Arr W (w.heap.size + 1) 4 [x] ∧ Arr W (w.heap.size + 2) 29 [.string ⟨#[]⟩, .int .i64 0, .slice none 0 0, .int .i64 0, .int .i64 0] ∧ Below w.heap.size w W
theorem B3_verified.on {w W W2 : World} {cs : List Value} {x : Value} (h : B3_verified w W cs x) (hb : Below W.heap.size W W2) : B3_verified w W2 cs x := ⟨arr_below h.1 hb, arr_below h.2.1 hb, arr_below h.2.2.1 hb, h.2.2.2.trans (hb.mono h.2.2.2.size)⟩
theorem b3_verified_start (w : World) (a b c x : Value) : B3_verified w (((w.alloc (.cells #[a, b, c] 25)).alloc (.cells #[x] 4)).alloc (.cells #[.string ⟨#[]⟩, .int .i64 0, .slice none 0 0, .int .i64 0, .int .i64 0] 29)) [a, b, c] x := by
  have h2 := Arr.fresh (w.alloc (.cells #[a, b, c] 25)) 4 [x]
  have h3 := Arr.fresh ((w.alloc (.cells #[a, b, c] 25)).alloc (.cells #[x] 4)) 29 [.string ⟨#[]⟩, .int .i64 0, .slice none 0 0, .int .i64 0, .int .i64 0]
  rw [World.size_alloc] at h2
  rw [World.size_alloc, World.size_alloc] at h3
  exact ⟨arr_alloc (arr_alloc (Arr.fresh w _ _) _) _, arr_alloc h2 _, h3, (((Below.refl _ _).alloc (Nat.le_refl _) _).alloc (by simp) _).alloc (by simp; omega) _⟩
set_option maxRecDepth 100000 in
set_option maxHeartbeats 400000 in
theorem impl_verified_err (d : ByteArray) (n : Int) (ps : List PrL) (p : Option Addr) (c B0 : Nat) (id : Int) (good : Bool) (w : World) (ax : Addr) (code : Int)
    (i1 : ∀ W, Below w.heap.size w W → W.cell? ⟨w.heap.size + 1, 0, none⟩ = some (.bool good) → Calls Tryd.prog 25 #[dbV d n p ps.length c, .int .i64 id, .func (.func 29) #[] #[.pointer (some ⟨w.heap.size + 1, 0, none⟩)]] W fun e w' => e = .returned (.tuple #[dbV ⟨#[]⟩ 0 none 0 0, .iface 102 (.pointer (some ax))]) ∧ Below W.heap.size W w')
    (i2 : ∀ W, Below w.heap.size w W → Calls Tryd.prog 23 #[dbV ⟨#[]⟩ 0 none 0 0, .iface 102 (.pointer (some ax))] W fun e w' => e = .returned (doV ⟨#[]⟩ 0 none 0 0 0 code) ∧ Below W.heap.size W w') :
    Calls Tryd.prog 9 #[dbV d n p ps.length c, .int .i64 id, .bool good] w fun e w' => e = .returned (doV ⟨#[]⟩ 0 none 0 0 0 code) ∧ Below w.heap.size w w' := by
  have HS := Lib.hid (b3_verified_start w (.string d) (.int .i64 n) (.slice p ps.length c) (.bool good))
  unfold dbV at i1 i2 ⊢
  unfold doV at i2
  go_enter Tryd.func9, Tryd.ntmps9
  go_wp2_with (first
    | (go_at_call 25; go_fit (i1 _ HS.out.2.2.2 (HS.out.2.1.cell 0)); rintro e w1 ⟨rfl, hb⟩; have HS1 := Lib.hid (HS.out.on hb); clear hb)
    | (go_at_call 23; go_fit (i2 _ HS1.out.2.2.2); rintro e w2 ⟨rfl, hb⟩; have HS2 := Lib.hid (HS1.out.on hb); clear hb; obtain ⟨⟨c0, c1, c2, c3, c4⟩, f0, f1, f2, f3, f4⟩ := arr_five HS2.out.2.2.1))
  exact bodyPost_ret (v := doV ⟨#[]⟩ 0 none 0 0 0 code) (results_cell_row (P := Tryd.prog) Tryd.results9 _ _ (w.heap.size + 2) 29 _ (0, 0) _ rfl (arr_put5 HS2.out.2.2.1 (.string ⟨#[]⟩) (.int .i64 0) (.slice none 0 0) (.int .i64 0) (.int .i64 code)) Tryd.underlying29 rfl (by kernel_rfl)) rfl ⟨rfl, below_put5 HS2.out.2.2.2 (by omega) _ _ _ _ _⟩
set_option maxRecDepth 100000 in
set_option maxHeartbeats 400000 in
theorem impl_verified_ok (d : ByteArray) (n : Int) (ps : List PrL) (p : Option Addr) (c B0 : Nat) (id : Int) (good : Bool) (w : World) (K : Nat) (y : PrL)
    (i1 : ∀ W, Below w.heap.size w W → W.cell? ⟨w.heap.size + 1, 0, none⟩ = some (.bool good) → Calls Tryd.prog 25 #[dbV d n p ps.length c, .int .i64 id, .func (.func 29) #[] #[.pointer (some ⟨w.heap.size + 1, 0, none⟩)]] W fun e w' => (∃ q k, e = .returned (.tuple #[dbV d n q ps.length k, .nilIface]) ∧ OwnC prC w' W.heap.size 43 4 (.slice q ps.length k) (ps.set K y)) ∧ Below W.heap.size W w') :
    Calls Tryd.prog 9 #[dbV d n p ps.length c, .int .i64 id, .bool good] w fun e w' => DoIs w.heap.size ⟨d, n, ps.set K y, 0, 0⟩ e w' ∧ Below w.heap.size w w' := by
  have HS := Lib.hid (b3_verified_start w (.string d) (.int .i64 n) (.slice p ps.length c) (.bool good))
  have i2 := fun q k W => impl_out_ok d n q ps.length k W
  obtain ⟨N, hN⟩ : ∃ N, ps.length = N := ⟨_, rfl⟩
  have HN := Lib.hid hN
  rw [hN] at HS i1 i2 ⊢
  unfold dbV at i1 i2 ⊢
  unfold doV at i2
  clear hN
  go_enter Tryd.func9, Tryd.ntmps9
  go_wp2_with (first
    | (go_at_call 25; go_fit (i1 _ HS.out.2.2.2 (HS.out.2.1.cell 0)); rintro e w1 ⟨⟨q, k, rfl, ho⟩, hb⟩; have HS1 := Lib.hid (HS.out.on hb); have HV1 := Lib.hid (ho.mono (B' := w.heap.size + 3) (by have := arr_lt HS.out.2.2.1; omega)); clear hb ho)
    | (go_at_call 23; go_fit (i2 q k _); rintro e w2 ⟨rfl, hb⟩; have HS2 := Lib.hid (HS1.out.on hb); have HV2 := Lib.hid (HV1.out.on hb); clear hb; obtain ⟨⟨c0, c1, c2, c3, c4⟩, f0, f1, f2, f3, f4⟩ := arr_five HS2.out.2.2.1))
  have hL : ∀ (j : Nat) (u : Value) (X : World), OwnC prC X (w.heap.size + 3) 43 4 (.slice q N k) (ps.set K y) → OwnC prC (X.setCell ⟨w.heap.size + 2, j, none⟩ u) (w.heap.size + 3) 43 4 (.slice q N k) (ps.set K y) := fun j u X hX => hX.low (a := ⟨w.heap.size + 2, j, none⟩) (by show w.heap.size + 2 < w.heap.size + 3; omega) u
  exact bodyPost_ret (v := doV d n q N k 0 0) (results_cell_row (P := Tryd.prog) Tryd.results9 _ _ (w.heap.size + 2) 29 _ (0, 0) _ rfl (arr_put5 HS2.out.2.2.1 (.string d) (.int .i64 n) (.slice q N k) (.int .i64 0) (.int .i64 0)) Tryd.underlying29 rfl (by kernel_rfl)) rfl ⟨⟨q, k, by rw [show (ps.set K y).length = N by rw [List.length_set, HN.out]], by rw [show (ps.set K y).length = N by rw [List.length_set, HN.out]]; exact (hL _ _ _ (hL _ _ _ (hL _ _ _ (hL _ _ _ (hL _ _ _ HV2.out))))).mono (by omega)⟩, below_put5 HS2.out.2.2.2 (by omega) _ _ _ _ _⟩
set_option maxRecDepth 100000 in
set_option maxHeartbeats 400000 in
theorem impl_result_size (d : ByteArray) (n : Int) (ps : List PrL) (p : Option Addr) (c B0 : Nat) (id : Int) (key : ByteArray) (w : World) (h : 20000 < key.size) (hf : key.size ≤ 1048576) :
    Calls Tryd.prog 7 #[dbV d n p ps.length c, .int .i64 id, .string key] w fun e w' => e = .returned (doV ⟨#[]⟩ 0 none 0 0 0 2) ∧ Below w.heap.size w w' := by
  have h' : (20000 : Int) < key.size := by omega
  unfold dbV
  go_enter Tryd.func7, Tryd.ntmps7
  go_wp2
  have hA := Arr.fresh ((w.alloc (.cells #[.string d, .int .i64 n, .slice p ps.length c] 25)).alloc (.cells #[.string key] 9)) 29 [.string ⟨#[]⟩, .int .i64 0, .slice none 0 0, .int .i64 0, .int .i64 2]
  rw [World.size_alloc, World.size_alloc] at hA
  exact bodyPost_ret (v := doV ⟨#[]⟩ 0 none 0 0 0 2) (results_cell_row (P := Tryd.prog) Tryd.results7 _ _ (w.heap.size + 2) 29 _ (0, 0) _ rfl (hA) Tryd.underlying29 rfl (by kernel_rfl)) rfl ⟨rfl, (((Below.refl _ _).alloc (Nat.le_refl _) _).alloc (by simp) _).alloc (by simp; omega) _⟩
theorem getD_at {ps : List PrL} {K : Nat} (h : K < ps.length) : ps.getD K default = ps[K] := by
  rw [List.getD_eq_getElem?_getD, List.getElem?_eq_getElem h]
  rfl
theorem impl_result (d : ByteArray) (n : Int) (ps : List PrL) (p : Option Addr) (c B0 : Nat) (id : Int) (key : ByteArray) (w : World) (hd : d.size ≤ 1048576) (hl : ps.length ≤ 1048576) (hw : ∀ x ∈ ps, x.d.size ≤ 1048576 ∧ x.k.size ≤ 1048576) (hO : OwnC prC w B0 43 4 (.slice p ps.length c) ps) (hm : MaxL w) (hE : Errs w) (hf : key.size ≤ 1048576) :
    Calls Tryd.prog 7 #[dbV d n p ps.length c, .int .i64 id, .string key] w fun e w' => DoIs w.heap.size (resultR d n ps id key) e w' ∧ Below w.heap.size w w' := by
  obtain ⟨a0, a1, a2, a3, hE⟩ := hE
  have HM := fun W (h : Below w.heap.size w W) => hm.below h hm.pos
  by_cases h1 : 20000 < key.size
  · unfold resultR
    rw [if_pos h1]
    exact (impl_result_size d n ps p c B0 id key w h1 hf).mono fun e w' ⟨he, hb⟩ => ⟨by rw [he]; exact do_err _ _ _, hb⟩
  cases h2 : dbB d n ps
  · unfold resultR
    rw [if_neg h1, if_pos h2]
    exact (impl_result_err d n ps p c B0 id key w h1 a0 1 (fun W hb hk => res_chg_form d n ps p c B0 id a0 a1 a2 a3 W hd hl hw (hO.on hb) (HM W hb) (hE.below hb) _ h2) (fun W hb => impl_out_1 a0 a1 a2 a3 W (hE.below hb))).mono fun e w' ⟨he, hb⟩ => ⟨by rw [he]; exact do_err _ _ _, hb⟩
  have h2' : ¬ dbB d n ps = false := by rw [h2]; exact Bool.noConfusion
  cases h3 : atK id ps with
  | none =>
    unfold resultR
    rw [if_neg h1, if_neg h2', h3]
    exact (impl_result_err d n ps p c B0 id key w h1 a1 6 (fun W hb hk => res_chg_none d n ps p c B0 id a0 a1 a2 a3 W hd hl hw (hO.on hb) (HM W hb) (hE.below hb) _ h2 h3) (fun W hb => impl_out_6 a0 a1 a2 a3 W (hE.below hb))).mono fun e w' ⟨he, hb⟩ => ⟨by rw [he]; exact do_err _ _ _, hb⟩
  | some K =>
    obtain ⟨hK, _⟩ := atK_lt h3
    unfold resultR
    rw [if_neg h1, if_neg h2', h3]
    dsimp only
    rw [getD_at hK]
    by_cases h4 : key.size = 0 ∨ 64 < key.size
    · rw [if_pos h4]
      refine (impl_result_err d n ps p c B0 id key w h1 a0 1 (fun W hb hk => res_chg_err d n ps p c B0 id a0 a1 a2 a3 W hd hl hw (hO.on hb) (HM W hb) (hE.below hb) _ key hk h2 K h3 a0 fun g m cc X ho he hx => ?_) (fun W hb => impl_out_1 a0 a1 a2 a3 W (hE.below hb))).mono fun e w' ⟨he, hb⟩ => ⟨by rw [he]; exact do_err _ _ _, hb⟩
      rcases h4 with h5 | h5
      · exact res_empty g K m cc _ ps hK a0 a1 a2 a3 X ho he _ key hx h5
      · exact res_long g K m cc _ ps hK a0 a1 a2 a3 X ho he _ key hx h5 (by omega)
    rw [if_neg h4]
    by_cases h5 : ps[K].s ≠ 0
    · rw [if_pos h5]
      exact (impl_result_err d n ps p c B0 id key w h1 a3 10 (fun W hb hk => res_chg_err d n ps p c B0 id a0 a1 a2 a3 W hd hl hw (hO.on hb) (HM W hb) (hE.below hb) _ key hk h2 K h3 a3 fun g m cc X ho he hx => res_state g K m cc _ ps hK a0 a1 a2 a3 X ho he _ key hx (by omega) (by omega) h5) (fun W hb => impl_out_10 a0 a1 a2 a3 W (hE.below hb))).mono fun e w' ⟨he, hb⟩ => ⟨by rw [he]; exact do_err _ _ _, hb⟩
    · rw [if_neg h5]
      exact impl_result_ok d n ps p c B0 id key w h1 K _ (fun W hb hk => res_chg_ok d n ps p c B0 id a0 a1 a2 a3 W hd hl hw (hO.on hb) (HM W hb) (hE.below hb) _ key hk h2 K h3 _ fun g m cc X ho he hx hne => res_ok g K m cc _ ps hK a0 a1 a2 a3 X ho he _ key hx hne (by omega) (by omega) (by simpa using h5))
theorem impl_verified (d : ByteArray) (n : Int) (ps : List PrL) (p : Option Addr) (c B0 : Nat) (id : Int) (good : Bool) (w : World) (hd : d.size ≤ 1048576) (hl : ps.length ≤ 1048576) (hw : ∀ x ∈ ps, x.d.size ≤ 1048576 ∧ x.k.size ≤ 1048576) (hO : OwnC prC w B0 43 4 (.slice p ps.length c) ps) (hm : MaxL w) (hE : Errs w) :
    Calls Tryd.prog 9 #[dbV d n p ps.length c, .int .i64 id, .bool good] w fun e w' => DoIs w.heap.size (verifiedR d n ps id good) e w' ∧ Below w.heap.size w w' := by
  obtain ⟨a0, a1, a2, a3, hE⟩ := hE
  have HM := fun W (h : Below w.heap.size w W) => hm.below h hm.pos
  cases h2 : dbB d n ps
  · unfold verifiedR
    rw [if_pos h2]
    exact (impl_verified_err d n ps p c B0 id good w a0 1 (fun W hb hk => ver_chg_form d n ps p c B0 id a0 a1 a2 a3 W hd hl hw (hO.on hb) (HM W hb) (hE.below hb) _ h2) (fun W hb => impl_out_1 a0 a1 a2 a3 W (hE.below hb))).mono fun e w' ⟨he, hb⟩ => ⟨by rw [he]; exact do_err _ _ _, hb⟩
  have h2' : ¬ dbB d n ps = false := by rw [h2]; exact Bool.noConfusion
  cases h3 : atK id ps with
  | none =>
    unfold verifiedR
    rw [if_neg h2', h3]
    exact (impl_verified_err d n ps p c B0 id good w a1 6 (fun W hb hk => ver_chg_none d n ps p c B0 id a0 a1 a2 a3 W hd hl hw (hO.on hb) (HM W hb) (hE.below hb) _ h2 h3) (fun W hb => impl_out_6 a0 a1 a2 a3 W (hE.below hb))).mono fun e w' ⟨he, hb⟩ => ⟨by rw [he]; exact do_err _ _ _, hb⟩
  | some K =>
    obtain ⟨hK, _⟩ := atK_lt h3
    unfold verifiedR
    rw [if_neg h2', h3]
    dsimp only
    rw [getD_at hK]
    by_cases h5 : ps[K].s ≠ 1
    · rw [if_pos h5]
      exact (impl_verified_err d n ps p c B0 id good w a3 10 (fun W hb hk => ver_chg_err d n ps p c B0 id a0 a1 a2 a3 W hd hl hw (hO.on hb) (HM W hb) (hE.below hb) _ good hk h2 K h3 a3 fun g m cc X ho he hx => ver_state g K m cc _ ps hK a0 a1 a2 a3 X ho he _ good hx h5) (fun W hb => impl_out_10 a0 a1 a2 a3 W (hE.below hb))).mono fun e w' ⟨he, hb⟩ => ⟨by rw [he]; exact do_err _ _ _, hb⟩
    · rw [if_neg h5]
      exact impl_verified_ok d n ps p c B0 id good w K _ (fun W hb hk => ver_chg_ok d n ps p c B0 id a0 a1 a2 a3 W hd hl hw (hO.on hb) (HM W hb) (hE.below hb) _ good hk h2 K h3 _ fun g m cc X ho he hx hne => ver_ok g K m cc _ ps hK a0 a1 a2 a3 X ho he _ good hx hne (by simpa using h5))
end Go.Proofs.YtkjkfcljejjpbaaDoor
