/- impl.withNewPeer and impl.DbOpen. -/
import Derived.Test.YtkjkfcljejjpbaaDoorDbCopy
import Derived.Test.YtkjkfcljejjpbaaDoorDbOutI
import Derived.Test.YtkjkfcljejjpbaaDoorDbRightM
namespace Go.Proofs.YtkjkfcljejjpbaaDoor
set_option linter.unusedSimpArgs false
set_option linter.unusedVariables false
open Go.RowKit Go.Joins

theorem row_own {W : World} {B : Nat} {p : Option Addr} {k n : Nat} {xs : List PrL} (h : OwnC prC W B 43 4 (.slice p n k) xs) : RowC prC 4 W p xs := by
  obtain ⟨p', k', e, hR⟩ := h.row prC_len
  injection e with e1 e2 e3
  rw [e1]
  exact hR
theorem errs_lt {W : World} {a0 a1 a2 a3 : Addr} (h : ErrsAt W a0 a1 a2 a3) : 0 < W.heap.size ∧ 3 < W.heap.size ∧ 2 < W.heap.size ∧ 1 < W.heap.size :=
  ⟨block_lt_of_cell h.1.1, block_lt_of_cell h.1.2.1, block_lt_of_cell h.1.2.2.1, block_lt_of_cell h.1.2.2.2⟩
/-- A function's boxes: its dialback's, its answer's; what was before is as it was. -/
def NwB (w W : World) (d : ByteArray) (n : Int) (v : Value) : Prop := CpB w W d n v
/-- Besides a third box, with the new dialback, and the row of its peers. -/
def NwC (w W : World) (d : ByteArray) (n : Int) (v : Value) (b : Nat) (d2 : ByteArray) (n2 : Int) (v2 : Value) (ps : List PrL) : Prop :=
  CpB w W d n v ∧ Arr W b 25 [.string d2, .int .i64 n2, v2] ∧ OwnC prC W (w.heap.size + 2) 43 4 v2 ps ∧ w.heap.size + 2 ≤ b ∧ ∀ k, v2.ownBlock = some k → k ≠ b
theorem NwC.on {w W W2 : World} {d : ByteArray} {n : Int} {v : Value} {b : Nat} {d2 : ByteArray} {n2 : Int} {v2 : Value} {ps : List PrL} (h : NwC w W d n v b d2 n2 v2 ps) (hb : Below W.heap.size W W2) : NwC w W2 d n v b d2 n2 v2 ps :=
  ⟨h.1.on hb, arr_below h.2.1 hb, h.2.2.1.on hb, h.2.2.2⟩
theorem NwC.drew {w W : World} {d : ByteArray} {n : Int} {v : Value} {b : Nat} {d2 : ByteArray} {n2 : Int} {v2 : Value} {ps : List PrL} (h : NwC w W d n v b d2 n2 v2 ps) : NwC w W.drew d n v b d2 n2 v2 ps := h.on (Below.refl _ _).drew
theorem nwc_start {w W : World} {d : ByteArray} {n : Int} {v : Value} {d2 : ByteArray} {n2 : Int} {q : Option Addr} {m k : Nat} {ps : List PrL} (h : CpB w W d n v) (ho : OwnC prC W (w.heap.size + 2) 43 4 (.slice q m k) ps) :
    NwC w (W.alloc (.cells #[.string d2, .int .i64 n2, .slice q m k] 25)) d n v W.heap.size d2 n2 (.slice q m k) ps := by
  have hlt := arr_lt h.2.1
  refine ⟨h.on ((Below.refl _ _).alloc (Nat.le_refl _) _), Arr.fresh W _ [.string d2, .int .i64 n2, .slice q m k], ho.alloc _, by omega, fun j hj => ?_⟩
  have := own_lt ho j hj
  omega
/-- The third box's number is stored. -/
theorem NwC.put1 {w W : World} {d : ByteArray} {n : Int} {v : Value} {b : Nat} {d2 : ByteArray} {n2 : Int} {v2 : Value} {ps : List PrL} (h : NwC w W d n v b d2 n2 v2 ps) (n3 : Int) : NwC w (W.setCell ⟨b, 1, none⟩ (.int .i64 n3)) d n v b d2 n3 v2 ps := by
  refine ⟨h.1.other h.2.2.2.1 _ _, h.2.1.put 1 _, own_other h.2.2.1 (fun k hk => (h.2.2.2.2 k hk).symm), h.2.2.2⟩
/-- The third box's row is stored, once the row has grown. -/
theorem NwC.put2 {w W W2 : World} {d : ByteArray} {n : Int} {v : Value} {b : Nat} {d2 : ByteArray} {n2 : Int} {v2 v3 : Value} {ps xs : List PrL} (h : NwC w W d n v b d2 n2 v2 ps) (hg : W.grownBy W2 v2.ownBlock) (ho : OwnC prC W2 (w.heap.size + 2) 43 4 v3 xs) (hne : ∀ k, v3.ownBlock = some k → k ≠ b) :
    NwC w (W2.setCell ⟨b, 2, none⟩ v3) d n v b d2 n2 v3 xs := by
  have hlt := arr_lt h.2.1
  have hA : Arr W2 b 25 [.string d2, .int .i64 n2, v2] := (hg.block b hlt (fun e => h.2.2.2.2 b e.symm rfl)).trans h.2.1
  have hb : Below (w.heap.size + 2) W W2 := (Below.refl _ W).grown hg (by have := arr_lt h.1.2.1; omega) (own_base h.2.2.1)
  have h1 : CpB w W2 d n v := ⟨(hb.block _ (by omega)).trans h.1.1, (hb.block _ (by omega)).trans h.1.2.1, h.1.2.2.trans (hb.mono (by omega))⟩
  exact ⟨h1.other h.2.2.2.1 _ _, hA.put 2 _, own_other ho (fun k hk => (hne k hk).symm), h.2.2.2.1, hne⟩
/-- The answer's box is filled with nothing. -/
theorem cpb_zero {w W : World} {d : ByteArray} {n : Int} {v : Value} (h : CpB w W d n v) : Arr (((W.setCell ⟨w.heap.size + 1, 0, none⟩ (.string ⟨#[]⟩)).setCell ⟨w.heap.size + 1, 1, none⟩ (.int .i64 0)).setCell ⟨w.heap.size + 1, 2, none⟩ (.slice none 0 0)).drew (w.heap.size + 1) 25 [.string ⟨#[]⟩, .int .i64 0, .slice none 0 0] ∧
    Below w.heap.size w (((W.setCell ⟨w.heap.size + 1, 0, none⟩ (.string ⟨#[]⟩)).setCell ⟨w.heap.size + 1, 1, none⟩ (.int .i64 0)).setCell ⟨w.heap.size + 1, 2, none⟩ (.slice none 0 0)).drew :=
  ⟨((h.2.1.put 0 _).put 1 _).put 2 _, (below_three h.2.2 (Nat.le_succ _) _ _ _).drew⟩
theorem cpb_fill {w W : World} {d : ByteArray} {n : Int} {v : Value} (h : CpB w W d n v) (x y z : Value) : Arr (((W.setCell ⟨w.heap.size + 1, 0, none⟩ x).setCell ⟨w.heap.size + 1, 1, none⟩ y).setCell ⟨w.heap.size + 1, 2, none⟩ z) (w.heap.size + 1) 25 [x, y, z] ∧
    Below w.heap.size w (((W.setCell ⟨w.heap.size + 1, 0, none⟩ x).setCell ⟨w.heap.size + 1, 1, none⟩ y).setCell ⟨w.heap.size + 1, 2, none⟩ z) :=
  ⟨((h.2.1.put 0 _).put 1 _).put 2 _, below_three h.2.2 (Nat.le_succ _) _ _ _⟩
def zeroPr (f : ByteArray) (n : Int) : PrL := ⟨f, n, 0, ⟨#[]⟩⟩
theorem one_rowP (W : World) (f : ByteArray) (n : Int) : OwnC prC (W.alloc (.cells #[.string f, .int .i64 n, .int .i64 0, .string ⟨#[]⟩] 43)) W.heap.size 43 4 (.slice (some ⟨W.heap.size, 0, none⟩) 1 1) [zeroPr f n] :=
  World.ownsRow_lit W #[.string f, .int .i64 n, .int .i64 0, .string ⟨#[]⟩] 1 (Nat.le_refl _) (by unfold maxLen; omega) rfl
set_option maxRecDepth 100000 in
set_option maxHeartbeats 400000 in
/-- A new peer is refused: the dialback or the domain is not valid. -/
theorem impl_new_form (d : ByteArray) (n : Int) (ps : List PrL) (p : Option Addr) (c B0 : Nat) (f : ByteArray) (a0 a1 a2 a3 : Addr) (w : World) (hd : d.size ≤ 1048576) (hf : f.size ≤ 1048576) (hl : ps.length ≤ 1048576) (hw : ∀ x ∈ ps, x.d.size ≤ 1048576 ∧ x.k.size ≤ 1048576) (hO : OwnC prC w B0 43 4 (.slice p ps.length c) ps) (hm : MaxL w) (hE : ErrsAt w a0 a1 a2 a3) (hno : (dbB d n ps && domB f) = false) :
    Calls Tryd.prog 22 #[dbV d n p ps.length c, .string f] w fun e w' => e = .returned (.tuple #[dbV ⟨#[]⟩ 0 none 0 0, .iface 102 (.pointer (some a0))]) ∧ Below w.heap.size w w' := by
  have i1 := fun W hR hm => impl_dbright d n ps p c W (by unfold maxLen; omega) hl (fun x hx => by have := hw x hx; unfold maxLen; omega) hR hm
  have i2 := fun W hm => impl_domain f W (by unfold maxLen; omega) hm
  have HR := Lib.hid (fun W (h : Below w.heap.size w W) => row_own (hO.on h))
  have HO := Lib.hid (fun W (h : Below w.heap.size w W) => hO.on h)
  have HM := Lib.hid (fun W (h : Below w.heap.size w W) => hm.below h hm.pos)
  have HE := Lib.hid (fun W (h : Below w.heap.size w W) => (hE.below h).1)
  have hgl := errs_lt hE
  have q0 : ¬ (w.heap.size + 1 = 2) := by omega
  have q1 : ¬ (2 = w.heap.size + 1) := by omega
  have q2 : ¬ (w.heap.size + 1 = 0) := by omega
  have q3 : ¬ (0 = w.heap.size + 1) := by omega
  obtain ⟨b1, e1⟩ : ∃ b, dbB d n ps = b := ⟨_, rfl⟩
  obtain ⟨b2, e2⟩ : ∃ b, domB f = b := ⟨_, rfl⟩
  rw [e1] at i1 hno
  rw [e2] at i2 hno
  obtain ⟨N, hN⟩ : ∃ N, ps.length = N := ⟨_, rfl⟩
  rw [hN] at i1 ⊢
  have HS := Lib.hid (cpb_start w d n (.slice p N c))
  clear hO hm hE e1 e2 hw hl hd hf hN HO
  unfold dbV at i1 ⊢
  cases b1
  · go_enter Tryd.func22, Tryd.ntmps22
    go_wp2_with (go_at_call 18; go_fit (i1 _ (HR.out _ HS.out.2.2) (HM.out _ HS.out.2.2)); rintro e w1 ⟨rfl, hb⟩; have HS1 := Lib.hid (HS.out.on hb); clear hb; obtain ⟨v0, v1, v2, v3⟩ := HE.out _ HS1.out.2.2; obtain ⟨c0, c1, c2, f0, f1, f2⟩ := arr_three HS1.out.1; obtain ⟨d0, d1, d2, g0, g1, g2⟩ := arr_three HS1.out.2.1)
    go_region
    all_goals (try go_wp2)
    have hZ := cpb_zero HS1.out
    obtain ⟨z0, z1, z2, _⟩ := arr_three hZ.1
    refine bodyPost_ret (v := .tuple #[.agg #[.string ⟨#[]⟩, .int .i64 0, .slice none 0 0], .iface 102 (.pointer (some a0))]) (by simp [results, Tryd.results22, go_sem, z0, z1, z2]) rfl ⟨rfl, hZ.2⟩
  · obtain rfl : b2 = false := by simpa using hno
    go_enter Tryd.func22, Tryd.ntmps22
    go_wp2_with (first | (go_at_call 18; go_fit (i1 _ (HR.out _ HS.out.2.2) (HM.out _ HS.out.2.2)); rintro e w1 ⟨rfl, hb⟩; have HS1 := Lib.hid (HS.out.on hb); clear hb; obtain ⟨v0, v1, v2, v3⟩ := HE.out _ HS1.out.2.2; obtain ⟨c0, c1, c2, f0, f1, f2⟩ := arr_three HS1.out.1; obtain ⟨d0, d1, d2, g0, g1, g2⟩ := arr_three HS1.out.2.1) | (go_at_call 36; go_fit (i2 _ (HM.out _ HS1.out.2.2)); rintro e w2 ⟨rfl, k2, rfl⟩; have HS2 := Lib.hid (HS1.out.on (below_drewN (Below.refl _ _) k2)); generalize w1.drewN k2 = w2 at HS2 ⊢; obtain ⟨v0, v1, v2, v3⟩ := HE.out _ HS2.out.2.2; obtain ⟨c0, c1, c2, f0, f1, f2⟩ := arr_three HS2.out.1; obtain ⟨d0, d1, d2, g0, g1, g2⟩ := arr_three HS2.out.2.1))
    go_region
    all_goals (try go_wp2)
    have hZ := cpb_zero HS2.out
    obtain ⟨z0, z1, z2, _⟩ := arr_three hZ.1
    refine bodyPost_ret (v := .tuple #[.agg #[.string ⟨#[]⟩, .int .i64 0, .slice none 0 0], .iface 102 (.pointer (some a0))]) (by simp [results, Tryd.results22, go_sem, z0, z1, z2]) rfl ⟨rfl, hZ.2⟩
set_option maxRecDepth 100000 in
set_option maxHeartbeats 400000 in
/-- A new peer is refused: there is no room. -/
theorem impl_new_full (d : ByteArray) (n : Int) (ps : List PrL) (p : Option Addr) (c B0 : Nat) (f : ByteArray) (a0 a1 a2 a3 : Addr) (w : World) (hd : d.size ≤ 1048576) (hf : f.size ≤ 1048576) (hl : ps.length ≤ 1048576) (hw : ∀ x ∈ ps, x.d.size ≤ 1048576 ∧ x.k.size ≤ 1048576) (hO : OwnC prC w B0 43 4 (.slice p ps.length c) ps) (hm : MaxL w) (hE : ErrsAt w a0 a1 a2 a3) (h1 : dbB d n ps = true) (h2 : domB f = true) (hfull : ps.length = 10 ∨ n = 1000000000) :
    Calls Tryd.prog 22 #[dbV d n p ps.length c, .string f] w fun e w' => e = .returned (.tuple #[dbV ⟨#[]⟩ 0 none 0 0, .iface 102 (.pointer (some a2))]) ∧ Below w.heap.size w w' := by
  have i1 := fun W hR hm => impl_dbright d n ps p c W (by unfold maxLen; omega) hl (fun x hx => by have := hw x hx; unfold maxLen; omega) hR hm
  have i2 := fun W hm => impl_domain f W (by unfold maxLen; omega) hm
  have HR := Lib.hid (fun W (h : Below w.heap.size w W) => row_own (hO.on h))
  have HO := Lib.hid (fun W (h : Below w.heap.size w W) => hO.on h)
  have HM := Lib.hid (fun W (h : Below w.heap.size w W) => hm.below h hm.pos)
  have HE := Lib.hid (fun W (h : Below w.heap.size w W) => (hE.below h).1)
  have hgl := errs_lt hE
  have q0 : ¬ (w.heap.size + 1 = 2) := by omega
  have q1 : ¬ (2 = w.heap.size + 1) := by omega
  have q2 : ¬ (w.heap.size + 1 = 0) := by omega
  have q3 : ¬ (0 = w.heap.size + 1) := by omega
  rw [h1] at i1
  rw [h2] at i2
  obtain ⟨N, hN⟩ : ∃ N, ps.length = N := ⟨_, rfl⟩
  rw [hN] at i1 hfull ⊢
  have HS := Lib.hid (cpb_start w d n (.slice p N c))
  clear hO hm hE h1 h2 hw hl hd hf hN HO
  unfold dbV at i1 ⊢
  by_cases hn : N = 10
  · subst hn
    go_enter Tryd.func22, Tryd.ntmps22
    go_wp2_with (first | (go_at_call 18; go_fit (i1 _ (HR.out _ HS.out.2.2) (HM.out _ HS.out.2.2)); rintro e w1 ⟨rfl, hb⟩; have HS1 := Lib.hid (HS.out.on hb); clear hb; obtain ⟨v0, v1, v2, v3⟩ := HE.out _ HS1.out.2.2; obtain ⟨c0, c1, c2, f0, f1, f2⟩ := arr_three HS1.out.1; obtain ⟨d0, d1, d2, g0, g1, g2⟩ := arr_three HS1.out.2.1) | (go_at_call 36; go_fit (i2 _ (HM.out _ HS1.out.2.2)); rintro e w2 ⟨rfl, k2, rfl⟩; have HS2 := Lib.hid (HS1.out.on (below_drewN (Below.refl _ _) k2)); generalize w1.drewN k2 = w2 at HS2 ⊢; obtain ⟨v0, v1, v2, v3⟩ := HE.out _ HS2.out.2.2; obtain ⟨c0, c1, c2, f0, f1, f2⟩ := arr_three HS2.out.1; obtain ⟨d0, d1, d2, g0, g1, g2⟩ := arr_three HS2.out.2.1))
    go_region
    all_goals (try go_wp2)
    have hZ := cpb_zero HS2.out
    obtain ⟨z0, z1, z2, _⟩ := arr_three hZ.1
    refine bodyPost_ret (v := .tuple #[.agg #[.string ⟨#[]⟩, .int .i64 0, .slice none 0 0], .iface 102 (.pointer (some a2))]) (by simp [results, Tryd.results22, go_sem, z0, z1, z2]) rfl ⟨rfl, hZ.2⟩
  · obtain rfl : n = 1000000000 := by omega
    have hn' : ((N : Int) == 10) = false := by rw [beq_eq_false_iff_ne]; omega
    go_enter Tryd.func22, Tryd.ntmps22
    go_wp2_with (first | (go_at_call 18; go_fit (i1 _ (HR.out _ HS.out.2.2) (HM.out _ HS.out.2.2)); rintro e w1 ⟨rfl, hb⟩; have HS1 := Lib.hid (HS.out.on hb); clear hb; obtain ⟨v0, v1, v2, v3⟩ := HE.out _ HS1.out.2.2; obtain ⟨c0, c1, c2, f0, f1, f2⟩ := arr_three HS1.out.1; obtain ⟨d0, d1, d2, g0, g1, g2⟩ := arr_three HS1.out.2.1) | (go_at_call 36; go_fit (i2 _ (HM.out _ HS1.out.2.2)); rintro e w2 ⟨rfl, k2, rfl⟩; have HS2 := Lib.hid (HS1.out.on (below_drewN (Below.refl _ _) k2)); generalize w1.drewN k2 = w2 at HS2 ⊢; obtain ⟨v0, v1, v2, v3⟩ := HE.out _ HS2.out.2.2; obtain ⟨c0, c1, c2, f0, f1, f2⟩ := arr_three HS2.out.1; obtain ⟨d0, d1, d2, g0, g1, g2⟩ := arr_three HS2.out.2.1))
    go_region
    all_goals (try go_wp2)
    have hZ := cpb_zero HS2.out
    obtain ⟨z0, z1, z2, _⟩ := arr_three hZ.1
    refine bodyPost_ret (v := .tuple #[.agg #[.string ⟨#[]⟩, .int .i64 0, .slice none 0 0], .iface 102 (.pointer (some a2))]) (by simp [results, Tryd.results22, go_sem, z0, z1, z2]) rfl ⟨rfl, hZ.2⟩
set_option maxRecDepth 100000 in
set_option maxHeartbeats 1000000 in
/-- A new peer. -/
theorem impl_new_ok (d : ByteArray) (n : Int) (ps : List PrL) (p : Option Addr) (c B0 : Nat) (f : ByteArray) (a0 a1 a2 a3 : Addr) (w : World) (hd : d.size ≤ 1048576) (hf : f.size ≤ 1048576) (hl : ps.length ≤ 1048576) (hw : ∀ x ∈ ps, x.d.size ≤ 1048576 ∧ x.k.size ≤ 1048576) (hO : OwnC prC w B0 43 4 (.slice p ps.length c) ps) (hm : MaxL w) (hE : ErrsAt w a0 a1 a2 a3) (h1 : dbB d n ps = true) (h2 : domB f = true) (hn : ps.length ≠ 10) (hn2 : n ≠ 1000000000) (hn3 : 1 ≤ n) (hn4 : n ≤ 1000000000) :
    Calls Tryd.prog 22 #[dbV d n p ps.length c, .string f] w fun e w' => (∃ q k, e = .returned (.tuple #[dbV d (n + 1) q (ps.length + 1) k, .nilIface]) ∧ OwnC prC w' w.heap.size 43 4 (.slice q (ps.length + 1) k) (ps ++ [zeroPr f n])) ∧ Below w.heap.size w w' := by
  have i1 := fun W hR hm => impl_dbright d n ps p c W (by unfold maxLen; omega) hl (fun x hx => by have := hw x hx; unfold maxLen; omega) hR hm
  have i2 := fun W hm => impl_domain f W (by unfold maxLen; omega) hm
  have HR := Lib.hid (fun W (h : Below w.heap.size w W) => row_own (hO.on h))
  have HO := Lib.hid (fun W (h : Below w.heap.size w W) => hO.on h)
  have HM := Lib.hid (fun W (h : Below w.heap.size w W) => hm.below h hm.pos)
  have HE := Lib.hid (fun W (h : Below w.heap.size w W) => (hE.below h).1)
  have hgl := errs_lt hE
  have q0 : ¬ (w.heap.size + 1 = 2) := by omega
  have q1 : ¬ (2 = w.heap.size + 1) := by omega
  have q2 : ¬ (w.heap.size + 1 = 0) := by omega
  have q3 : ¬ (0 = w.heap.size + 1) := by omega
  rw [h1] at i1
  rw [h2] at i2
  have i3 := fun W h => impl_dbcopy d n ps p c B0 W (by omega) hl (fun x hx => by have := hw x hx; omega) h
  have hfs := hf
  obtain ⟨N, hN⟩ : ∃ N, ps.length = N := ⟨_, rfl⟩
  have HN := Lib.hid hN
  rw [hN] at i1 i3 HO hn hl ⊢
  have HS := Lib.hid (cpb_start w d n (.slice p N c))
  clear hO hm hE h1 h2 hw hd hf hN
  unfold dbV at i1 i3 ⊢
  have hn' : ((N : Int) == 10) = false := by rw [beq_eq_false_iff_ne]; omega
  have hn2' : (n == 1000000000) = false := by rw [beq_eq_false_iff_ne]; exact hn2
  go_enter Tryd.func22, Tryd.ntmps22
  go_wp2_with (first | (go_at_call 18; go_fit (i1 _ (HR.out _ HS.out.2.2) (HM.out _ HS.out.2.2)); rintro e w1 ⟨rfl, hb⟩; have HS1 := Lib.hid (HS.out.on hb); clear hb; obtain ⟨v0, v1, v2, v3⟩ := HE.out _ HS1.out.2.2; obtain ⟨c0, c1, c2, f0, f1, f2⟩ := arr_three HS1.out.1; obtain ⟨d0, d1, d2, g0, g1, g2⟩ := arr_three HS1.out.2.1) | (go_at_call 36; go_fit (i2 _ (HM.out _ HS1.out.2.2)); rintro e w2 ⟨rfl, k2, rfl⟩; have HS2 := Lib.hid (HS1.out.on (below_drewN (Below.refl _ _) k2)); generalize w1.drewN k2 = w2 at HS2 ⊢; obtain ⟨v0, v1, v2, v3⟩ := HE.out _ HS2.out.2.2; obtain ⟨c0, c1, c2, f0, f1, f2⟩ := arr_three HS2.out.1; obtain ⟨d0, d1, d2, g0, g1, g2⟩ := arr_three HS2.out.2.1) | (go_at_call 39; go_fit (i3 _ (HO.out _ HS2.out.2.2)); rintro e w3 ⟨⟨q, k, rfl, hv⟩, hb⟩; have HC := Lib.hid (nwc_start (d2 := d) (n2 := n) (HS2.out.on hb) (hv.mono (B' := w.heap.size + 2) (by have := arr_lt HS2.out.2.1; omega))); clear hb hv))
  obtain ⟨b6, hb6⟩ : ∃ b6, w3.heap.size = b6 := ⟨_, rfl⟩
  rw [hb6] at HC ⊢
  generalize w3.alloc _ = wa at HC ⊢
  clear hb6 c0 c1 c2 f0 f1 f2 d0 d1 d2 g0 g1 g2 v0 v1 v2 v3
  refine wp_region_held_drew (S := fun W => Arr W w.heap.size 25 [.string d, .int .i64 n, .slice p N c]) (by kernel_rfl) HC.out.1.1 (fun hHeld => ?_)
  refine takeQ (i := 0) (k := 30) (v := .pointer (some ⟨b6, 2, none⟩)) rfl (by rfl) (by kernel_rfl) (by kernel_rfl) (by kernel_rfl) (fun _ _ _ h => h) (by rfl) ?_ hHeld ?_
  · intro w1 hSw; go_simp
  (try simp only [Act.put, List.setIfInBounds_toArray, List.set_cons_zero, List.set_cons_succ])
  refine takeQ (i := 2) (k := 32) (v := .string f) rfl (by rfl) (by kernel_rfl) (by kernel_rfl) (by kernel_rfl) (fun _ _ _ h => h) (by rfl) ?_ hHeld ?_
  · intro w1 hSw; go_simp
  (try simp only [Act.put, List.setIfInBounds_toArray, List.set_cons_zero, List.set_cons_succ])
  refine takeQ (i := 5) (k := 35) (v := .pointer (some ⟨w.heap.size, 1, none⟩)) rfl (by rfl) (by kernel_rfl) (by kernel_rfl) (by kernel_rfl) (fun _ _ _ h => h) (by rfl) ?_ hHeld ?_
  · intro w1 hSw; go_simp
  (try simp only [Act.put, List.setIfInBounds_toArray, List.set_cons_zero, List.set_cons_succ])
  refine takeQ (i := 6) (k := 36) (v := .int .i64 n) rfl (by rfl) (by kernel_rfl) (by kernel_rfl) (by kernel_rfl) (fun _ _ _ h => h) (by rfl) ?_ hHeld ?_
  · intro w1 hSw; obtain ⟨m0, m1, m2, _⟩ := arr_three hSw; go_simp
  (try simp only [Act.put, List.setIfInBounds_toArray, List.set_cons_zero, List.set_cons_succ])
  have HC1 := Lib.hid HC.out.drew
  generalize World.drew _ = wd at HC1 hHeld ⊢
  refine wpAnyH_ready (rs := [1, 3]) (by kernel_rfl) (by simp) ?_
  refine AllReadyH.cons rfl (fun K hK => ?_) (AllReadyH.cons rfl (fun K hK => ?_) AllReadyH.nil)
  · rw [if_pos (by rfl)]
    obtain ⟨l0, l1, l2, _⟩ := arr_three HC1.out.2.1
    go_simp
    refine hK.out _ _ HC1.out.1.1 (fun hHeld => ?_)
    clear hK K
    (try simp only [Act.put, List.setIfInBounds_toArray, List.set_cons_zero, List.set_cons_succ])
    have HC1l := HC1
    clear l0 l1 l2
    refine wpAnyH_ready (rs := [3]) (by kernel_rfl) (by simp) ?_
    refine AllReadyH.cons rfl (fun K hK => ?_) AllReadyH.nil
    rw [if_pos (by rfl)]
    go_simp
    have HC1lm := Lib.hid (HC1l.out.on ((Below.refl _ _).alloc (Nat.le_refl _) (.cells #[.string f] 9)))
    refine hK.out _ _ HC1lm.out.1.1 (fun hHeld => ?_)
    clear hK K
    (try simp only [Act.put, List.setIfInBounds_toArray, List.set_cons_zero, List.set_cons_succ])
    have HC1lm0 := HC1l
    refine wpAnyH_ready (rs := [4]) (by kernel_rfl) (by simp) ?_
    refine AllReadyH.cons rfl (fun K hK => ?_) AllReadyH.nil
    rw [if_pos (by rfl)]
    go_simp
    go_fit (joined_same f _ (by omega))
    rintro e wm ⟨rfl, hb⟩
    have HC1lmm := Lib.hid (HC1.out.on hb)
    refine hK.out _ _ HC1lmm.out.1.1 (fun hHeld => ?_)
    clear hK K
    (try simp only [Act.put, List.setIfInBounds_toArray, List.set_cons_zero, List.set_cons_succ])
    clear hb
    refine takeQ (i := 7) (k := 37) (v := .agg #[.string f, .int .i64 n, .int .i64 0, .string ⟨#[]⟩]) rfl (by rfl) (by kernel_rfl) (by kernel_rfl) (by kernel_rfl) (fun _ _ _ h => h) (by rfl) ?_ hHeld ?_
    · intro w1 hSw; go_simp
    (try simp only [Act.put, List.setIfInBounds_toArray, List.set_cons_zero, List.set_cons_succ])
    refine wpAnyH_ready (rs := [8]) (by kernel_rfl) (by simp) ?_
    refine AllReadyH.cons rfl (fun K hK => ?_) AllReadyH.nil
    rw [if_pos (by rfl)]
    go_simp
    have HC1lmmm := Lib.hid (HC1lmm.out.on ((Below.refl _ _).alloc (Nat.le_refl _) (.cells #[.string f, .int .i64 n, .int .i64 0, .string ⟨#[]⟩] 43)))
    refine hK.out _ _ HC1lmmm.out.1.1 (fun hHeld => ?_)
    clear hK K
    (try simp only [Act.put, List.setIfInBounds_toArray, List.set_cons_zero, List.set_cons_succ])
    refine wpAnyH_ready (rs := [9]) (by kernel_rfl) (by simp) ?_
    refine AllReadyH.cons rfl (fun K hK => ?_) AllReadyH.nil
    rw [if_pos (by rfl)]
    refine wp_app_rowP _ _ rfl (w.heap.size + 2) _ ps rfl HC1lmmm.out.2.2.1 wm.heap.size _ _ _ [zeroPr f n] rfl (one_rowP wm f n) (by rw [HN.out]; simp; omega) (by have := arr_lt HC1lmmm.out.1.2.1; omega) ?_
    intro v' w' ho hg
    obtain ⟨q2, k2, hv, _⟩ := ho.row prC_len
    rw [List.length_append, HN.out] at hv
    subst hv
    have hA4 : Arr w' b6 25 [.string d, .int .i64 n, .slice q N k] := (hg.block b6 (arr_lt HC1lmmm.out.2.1) (fun e => HC1lmmm.out.2.2.2.2 b6 e.symm rfl)).trans HC1lmmm.out.2.1
    have hne := own_ne_box ho hA4 (by decide)
    have HC4 := Lib.hid (HC1lmmm.out.put2 hg ho hne)
    have hA5 : Arr w' w.heap.size 25 [.string d, .int .i64 n, .slice p N c] := (hg.block _ (arr_lt HC1lmmm.out.1.1) (fun e => by have := own_base HC1lmmm.out.2.2.1 _ e.symm; omega)).trans HC1lmmm.out.1.1
    refine hK.out _ _ hA5 (fun hHeld => ?_)
    clear hK K
    (try simp only [Act.put, List.setIfInBounds_toArray, List.set_cons_zero, List.set_cons_succ])
    refine takeQ (i := 10) (k := 40) (v := .pointer (some ⟨b6, 2, none⟩)) rfl (by rfl) (by kernel_rfl) (by kernel_rfl) (by kernel_rfl) (fun _ _ _ h => h) (by rfl) ?_ hHeld ?_
    · intro w1 hSw; go_simp
    (try simp only [Act.put, List.setIfInBounds_toArray, List.set_cons_zero, List.set_cons_succ])
    obtain ⟨m0, m1, m2, m3, m4, m5⟩ := arr_three hA4
    refine wpAnyH_ready (rs := [11]) (by kernel_rfl) (by simp) ?_
    refine AllReadyH.cons rfl (fun K hK => ?_) AllReadyH.nil
    rw [if_pos (by rfl)]
    go_simp
    refine hK.out _ _ HC4.out.1.1 (fun hHeld => ?_)
    clear hK K m0 m1 m2 m3 m4 m5 hA4 hA5 ho hg hne
    (try simp only [Act.put, List.setIfInBounds_toArray, List.set_cons_zero, List.set_cons_succ])
    refine wpAnyH_done (by kernel_rfl) ?_ _
    generalize w'.setCell _ _ = w5 at HC4 ⊢
    obtain ⟨m0, m1, m2, m3, m4, m5⟩ := arr_three HC4.out.2.1
    obtain ⟨o0, o1, o2, o3, o4, o5⟩ := arr_three HC4.out.1.2.1
    have hbn := HC4.out.2.2.2.1
    have hbq : ¬ (b6 = w.heap.size + 1) := by omega
    have hbq2 : ¬ (w.heap.size + 1 = b6) := by omega
    clear hbn
    go_wp2
    have h6 := HC4.out.put1 (n + 1)
    have hF := cpb_fill h6.1 (.string d) (.int .i64 (n + 1)) (.slice q2 (N + 1) k2)
    obtain ⟨z0, z1, z2, _⟩ := arr_three hF.1
    refine bodyPost_ret (v := .tuple #[.agg #[.string d, .int .i64 (n + 1), .slice q2 (N + 1) k2], .nilIface]) (by simp [results, Tryd.results22, go_sem, z0, z1, z2]) rfl ⟨⟨q2, k2, rfl, ?_⟩, hF.2⟩
    exact (((h6.2.2.1.low (a := ⟨w.heap.size + 1, 0, none⟩) (by show w.heap.size + 1 < w.heap.size + 2; omega) _).low (a := ⟨w.heap.size + 1, 1, none⟩) (by show w.heap.size + 1 < w.heap.size + 2; omega) _).low (a := ⟨w.heap.size + 1, 2, none⟩) (by show w.heap.size + 1 < w.heap.size + 2; omega) _).mono (by omega)
  · rw [if_pos (by rfl)]
    go_simp
    have HC1m := Lib.hid (HC1.out.on ((Below.refl _ _).alloc (Nat.le_refl _) (.cells #[.string f] 9)))
    refine hK.out _ _ HC1m.out.1.1 (fun hHeld => ?_)
    clear hK K
    (try simp only [Act.put, List.setIfInBounds_toArray, List.set_cons_zero, List.set_cons_succ])
    have HC1m0 := HC1
    refine wpAnyH_ready (rs := [1, 4]) (by kernel_rfl) (by simp) ?_
    refine AllReadyH.cons rfl (fun K hK => ?_) (AllReadyH.cons rfl (fun K hK => ?_) AllReadyH.nil)
    · rw [if_pos (by rfl)]
      obtain ⟨l0, l1, l2, _⟩ := arr_three HC1m.out.2.1
      go_simp
      refine hK.out _ _ HC1m.out.1.1 (fun hHeld => ?_)
      clear hK K
      (try simp only [Act.put, List.setIfInBounds_toArray, List.set_cons_zero, List.set_cons_succ])
      have HC1ml := HC1m
      clear l0 l1 l2
      refine wpAnyH_ready (rs := [4]) (by kernel_rfl) (by simp) ?_
      refine AllReadyH.cons rfl (fun K hK => ?_) AllReadyH.nil
      rw [if_pos (by rfl)]
      go_simp
      go_fit (joined_same f _ (by omega))
      rintro e wm ⟨rfl, hb⟩
      have HC1mlm := Lib.hid (HC1.out.on hb)
      refine hK.out _ _ HC1mlm.out.1.1 (fun hHeld => ?_)
      clear hK K
      (try simp only [Act.put, List.setIfInBounds_toArray, List.set_cons_zero, List.set_cons_succ])
      clear hb
      refine takeQ (i := 7) (k := 37) (v := .agg #[.string f, .int .i64 n, .int .i64 0, .string ⟨#[]⟩]) rfl (by rfl) (by kernel_rfl) (by kernel_rfl) (by kernel_rfl) (fun _ _ _ h => h) (by rfl) ?_ hHeld ?_
      · intro w1 hSw; go_simp
      (try simp only [Act.put, List.setIfInBounds_toArray, List.set_cons_zero, List.set_cons_succ])
      refine wpAnyH_ready (rs := [8]) (by kernel_rfl) (by simp) ?_
      refine AllReadyH.cons rfl (fun K hK => ?_) AllReadyH.nil
      rw [if_pos (by rfl)]
      go_simp
      have HC1mlmm := Lib.hid (HC1mlm.out.on ((Below.refl _ _).alloc (Nat.le_refl _) (.cells #[.string f, .int .i64 n, .int .i64 0, .string ⟨#[]⟩] 43)))
      refine hK.out _ _ HC1mlmm.out.1.1 (fun hHeld => ?_)
      clear hK K
      (try simp only [Act.put, List.setIfInBounds_toArray, List.set_cons_zero, List.set_cons_succ])
      refine wpAnyH_ready (rs := [9]) (by kernel_rfl) (by simp) ?_
      refine AllReadyH.cons rfl (fun K hK => ?_) AllReadyH.nil
      rw [if_pos (by rfl)]
      refine wp_app_rowP _ _ rfl (w.heap.size + 2) _ ps rfl HC1mlmm.out.2.2.1 wm.heap.size _ _ _ [zeroPr f n] rfl (one_rowP wm f n) (by rw [HN.out]; simp; omega) (by have := arr_lt HC1mlmm.out.1.2.1; omega) ?_
      intro v' w' ho hg
      obtain ⟨q2, k2, hv, _⟩ := ho.row prC_len
      rw [List.length_append, HN.out] at hv
      subst hv
      have hA4 : Arr w' b6 25 [.string d, .int .i64 n, .slice q N k] := (hg.block b6 (arr_lt HC1mlmm.out.2.1) (fun e => HC1mlmm.out.2.2.2.2 b6 e.symm rfl)).trans HC1mlmm.out.2.1
      have hne := own_ne_box ho hA4 (by decide)
      have HC4 := Lib.hid (HC1mlmm.out.put2 hg ho hne)
      have hA5 : Arr w' w.heap.size 25 [.string d, .int .i64 n, .slice p N c] := (hg.block _ (arr_lt HC1mlmm.out.1.1) (fun e => by have := own_base HC1mlmm.out.2.2.1 _ e.symm; omega)).trans HC1mlmm.out.1.1
      refine hK.out _ _ hA5 (fun hHeld => ?_)
      clear hK K
      (try simp only [Act.put, List.setIfInBounds_toArray, List.set_cons_zero, List.set_cons_succ])
      refine takeQ (i := 10) (k := 40) (v := .pointer (some ⟨b6, 2, none⟩)) rfl (by rfl) (by kernel_rfl) (by kernel_rfl) (by kernel_rfl) (fun _ _ _ h => h) (by rfl) ?_ hHeld ?_
      · intro w1 hSw; go_simp
      (try simp only [Act.put, List.setIfInBounds_toArray, List.set_cons_zero, List.set_cons_succ])
      obtain ⟨m0, m1, m2, m3, m4, m5⟩ := arr_three hA4
      refine wpAnyH_ready (rs := [11]) (by kernel_rfl) (by simp) ?_
      refine AllReadyH.cons rfl (fun K hK => ?_) AllReadyH.nil
      rw [if_pos (by rfl)]
      go_simp
      refine hK.out _ _ HC4.out.1.1 (fun hHeld => ?_)
      clear hK K m0 m1 m2 m3 m4 m5 hA4 hA5 ho hg hne
      (try simp only [Act.put, List.setIfInBounds_toArray, List.set_cons_zero, List.set_cons_succ])
      refine wpAnyH_done (by kernel_rfl) ?_ _
      generalize w'.setCell _ _ = w5 at HC4 ⊢
      obtain ⟨m0, m1, m2, m3, m4, m5⟩ := arr_three HC4.out.2.1
      obtain ⟨o0, o1, o2, o3, o4, o5⟩ := arr_three HC4.out.1.2.1
      have hbn := HC4.out.2.2.2.1
      have hbq : ¬ (b6 = w.heap.size + 1) := by omega
      have hbq2 : ¬ (w.heap.size + 1 = b6) := by omega
      clear hbn
      go_wp2
      have h6 := HC4.out.put1 (n + 1)
      have hF := cpb_fill h6.1 (.string d) (.int .i64 (n + 1)) (.slice q2 (N + 1) k2)
      obtain ⟨z0, z1, z2, _⟩ := arr_three hF.1
      refine bodyPost_ret (v := .tuple #[.agg #[.string d, .int .i64 (n + 1), .slice q2 (N + 1) k2], .nilIface]) (by simp [results, Tryd.results22, go_sem, z0, z1, z2]) rfl ⟨⟨q2, k2, rfl, ?_⟩, hF.2⟩
      exact (((h6.2.2.1.low (a := ⟨w.heap.size + 1, 0, none⟩) (by show w.heap.size + 1 < w.heap.size + 2; omega) _).low (a := ⟨w.heap.size + 1, 1, none⟩) (by show w.heap.size + 1 < w.heap.size + 2; omega) _).low (a := ⟨w.heap.size + 1, 2, none⟩) (by show w.heap.size + 1 < w.heap.size + 2; omega) _).mono (by omega)
    · rw [if_pos (by rfl)]
      go_simp
      go_fit (joined_same f _ (by omega))
      rintro e wm ⟨rfl, hb⟩
      have HC1mm := Lib.hid (HC1.out.on hb)
      refine hK.out _ _ HC1mm.out.1.1 (fun hHeld => ?_)
      clear hK K
      (try simp only [Act.put, List.setIfInBounds_toArray, List.set_cons_zero, List.set_cons_succ])
      clear hb
      refine takeQ (i := 7) (k := 37) (v := .agg #[.string f, .int .i64 n, .int .i64 0, .string ⟨#[]⟩]) rfl (by rfl) (by kernel_rfl) (by kernel_rfl) (by kernel_rfl) (fun _ _ _ h => h) (by rfl) ?_ hHeld ?_
      · intro w1 hSw; go_simp
      (try simp only [Act.put, List.setIfInBounds_toArray, List.set_cons_zero, List.set_cons_succ])
      refine wpAnyH_ready (rs := [1, 8]) (by kernel_rfl) (by simp) ?_
      refine AllReadyH.cons rfl (fun K hK => ?_) (AllReadyH.cons rfl (fun K hK => ?_) AllReadyH.nil)
      · rw [if_pos (by rfl)]
        obtain ⟨l0, l1, l2, _⟩ := arr_three HC1mm.out.2.1
        go_simp
        refine hK.out _ _ HC1mm.out.1.1 (fun hHeld => ?_)
        clear hK K
        (try simp only [Act.put, List.setIfInBounds_toArray, List.set_cons_zero, List.set_cons_succ])
        have HC1mml := HC1mm
        clear l0 l1 l2
        refine wpAnyH_ready (rs := [8]) (by kernel_rfl) (by simp) ?_
        refine AllReadyH.cons rfl (fun K hK => ?_) AllReadyH.nil
        rw [if_pos (by rfl)]
        go_simp
        have HC1mmlm := Lib.hid (HC1mml.out.on ((Below.refl _ _).alloc (Nat.le_refl _) (.cells #[.string f, .int .i64 n, .int .i64 0, .string ⟨#[]⟩] 43)))
        refine hK.out _ _ HC1mmlm.out.1.1 (fun hHeld => ?_)
        clear hK K
        (try simp only [Act.put, List.setIfInBounds_toArray, List.set_cons_zero, List.set_cons_succ])
        refine wpAnyH_ready (rs := [9]) (by kernel_rfl) (by simp) ?_
        refine AllReadyH.cons rfl (fun K hK => ?_) AllReadyH.nil
        rw [if_pos (by rfl)]
        refine wp_app_rowP _ _ rfl (w.heap.size + 2) _ ps rfl HC1mmlm.out.2.2.1 wm.heap.size _ _ _ [zeroPr f n] rfl (one_rowP wm f n) (by rw [HN.out]; simp; omega) (by have := arr_lt HC1mmlm.out.1.2.1; omega) ?_
        intro v' w' ho hg
        obtain ⟨q2, k2, hv, _⟩ := ho.row prC_len
        rw [List.length_append, HN.out] at hv
        subst hv
        have hA4 : Arr w' b6 25 [.string d, .int .i64 n, .slice q N k] := (hg.block b6 (arr_lt HC1mmlm.out.2.1) (fun e => HC1mmlm.out.2.2.2.2 b6 e.symm rfl)).trans HC1mmlm.out.2.1
        have hne := own_ne_box ho hA4 (by decide)
        have HC4 := Lib.hid (HC1mmlm.out.put2 hg ho hne)
        have hA5 : Arr w' w.heap.size 25 [.string d, .int .i64 n, .slice p N c] := (hg.block _ (arr_lt HC1mmlm.out.1.1) (fun e => by have := own_base HC1mmlm.out.2.2.1 _ e.symm; omega)).trans HC1mmlm.out.1.1
        refine hK.out _ _ hA5 (fun hHeld => ?_)
        clear hK K
        (try simp only [Act.put, List.setIfInBounds_toArray, List.set_cons_zero, List.set_cons_succ])
        refine takeQ (i := 10) (k := 40) (v := .pointer (some ⟨b6, 2, none⟩)) rfl (by rfl) (by kernel_rfl) (by kernel_rfl) (by kernel_rfl) (fun _ _ _ h => h) (by rfl) ?_ hHeld ?_
        · intro w1 hSw; go_simp
        (try simp only [Act.put, List.setIfInBounds_toArray, List.set_cons_zero, List.set_cons_succ])
        obtain ⟨m0, m1, m2, m3, m4, m5⟩ := arr_three hA4
        refine wpAnyH_ready (rs := [11]) (by kernel_rfl) (by simp) ?_
        refine AllReadyH.cons rfl (fun K hK => ?_) AllReadyH.nil
        rw [if_pos (by rfl)]
        go_simp
        refine hK.out _ _ HC4.out.1.1 (fun hHeld => ?_)
        clear hK K m0 m1 m2 m3 m4 m5 hA4 hA5 ho hg hne
        (try simp only [Act.put, List.setIfInBounds_toArray, List.set_cons_zero, List.set_cons_succ])
        refine wpAnyH_done (by kernel_rfl) ?_ _
        generalize w'.setCell _ _ = w5 at HC4 ⊢
        obtain ⟨m0, m1, m2, m3, m4, m5⟩ := arr_three HC4.out.2.1
        obtain ⟨o0, o1, o2, o3, o4, o5⟩ := arr_three HC4.out.1.2.1
        have hbn := HC4.out.2.2.2.1
        have hbq : ¬ (b6 = w.heap.size + 1) := by omega
        have hbq2 : ¬ (w.heap.size + 1 = b6) := by omega
        clear hbn
        go_wp2
        have h6 := HC4.out.put1 (n + 1)
        have hF := cpb_fill h6.1 (.string d) (.int .i64 (n + 1)) (.slice q2 (N + 1) k2)
        obtain ⟨z0, z1, z2, _⟩ := arr_three hF.1
        refine bodyPost_ret (v := .tuple #[.agg #[.string d, .int .i64 (n + 1), .slice q2 (N + 1) k2], .nilIface]) (by simp [results, Tryd.results22, go_sem, z0, z1, z2]) rfl ⟨⟨q2, k2, rfl, ?_⟩, hF.2⟩
        exact (((h6.2.2.1.low (a := ⟨w.heap.size + 1, 0, none⟩) (by show w.heap.size + 1 < w.heap.size + 2; omega) _).low (a := ⟨w.heap.size + 1, 1, none⟩) (by show w.heap.size + 1 < w.heap.size + 2; omega) _).low (a := ⟨w.heap.size + 1, 2, none⟩) (by show w.heap.size + 1 < w.heap.size + 2; omega) _).mono (by omega)
      · rw [if_pos (by rfl)]
        go_simp
        have HC1mmm := Lib.hid (HC1mm.out.on ((Below.refl _ _).alloc (Nat.le_refl _) (.cells #[.string f, .int .i64 n, .int .i64 0, .string ⟨#[]⟩] 43)))
        refine hK.out _ _ HC1mmm.out.1.1 (fun hHeld => ?_)
        clear hK K
        (try simp only [Act.put, List.setIfInBounds_toArray, List.set_cons_zero, List.set_cons_succ])
        refine wpAnyH_ready (rs := [1]) (by kernel_rfl) (by simp) ?_
        refine AllReadyH.cons rfl (fun K hK => ?_) AllReadyH.nil
        rw [if_pos (by rfl)]
        obtain ⟨l0, l1, l2, _⟩ := arr_three HC1mmm.out.2.1
        go_simp
        refine hK.out _ _ HC1mmm.out.1.1 (fun hHeld => ?_)
        clear hK K
        (try simp only [Act.put, List.setIfInBounds_toArray, List.set_cons_zero, List.set_cons_succ])
        have HC1mmml := HC1mmm
        clear l0 l1 l2
        refine wpAnyH_ready (rs := [9]) (by kernel_rfl) (by simp) ?_
        refine AllReadyH.cons rfl (fun K hK => ?_) AllReadyH.nil
        rw [if_pos (by rfl)]
        refine wp_app_rowP _ _ rfl (w.heap.size + 2) _ ps rfl HC1mmml.out.2.2.1 wm.heap.size _ _ _ [zeroPr f n] rfl (one_rowP wm f n) (by rw [HN.out]; simp; omega) (by have := arr_lt HC1mmml.out.1.2.1; omega) ?_
        intro v' w' ho hg
        obtain ⟨q2, k2, hv, _⟩ := ho.row prC_len
        rw [List.length_append, HN.out] at hv
        subst hv
        have hA4 : Arr w' b6 25 [.string d, .int .i64 n, .slice q N k] := (hg.block b6 (arr_lt HC1mmml.out.2.1) (fun e => HC1mmml.out.2.2.2.2 b6 e.symm rfl)).trans HC1mmml.out.2.1
        have hne := own_ne_box ho hA4 (by decide)
        have HC4 := Lib.hid (HC1mmml.out.put2 hg ho hne)
        have hA5 : Arr w' w.heap.size 25 [.string d, .int .i64 n, .slice p N c] := (hg.block _ (arr_lt HC1mmml.out.1.1) (fun e => by have := own_base HC1mmml.out.2.2.1 _ e.symm; omega)).trans HC1mmml.out.1.1
        refine hK.out _ _ hA5 (fun hHeld => ?_)
        clear hK K
        (try simp only [Act.put, List.setIfInBounds_toArray, List.set_cons_zero, List.set_cons_succ])
        refine takeQ (i := 10) (k := 40) (v := .pointer (some ⟨b6, 2, none⟩)) rfl (by rfl) (by kernel_rfl) (by kernel_rfl) (by kernel_rfl) (fun _ _ _ h => h) (by rfl) ?_ hHeld ?_
        · intro w1 hSw; go_simp
        (try simp only [Act.put, List.setIfInBounds_toArray, List.set_cons_zero, List.set_cons_succ])
        obtain ⟨m0, m1, m2, m3, m4, m5⟩ := arr_three hA4
        refine wpAnyH_ready (rs := [11]) (by kernel_rfl) (by simp) ?_
        refine AllReadyH.cons rfl (fun K hK => ?_) AllReadyH.nil
        rw [if_pos (by rfl)]
        go_simp
        refine hK.out _ _ HC4.out.1.1 (fun hHeld => ?_)
        clear hK K m0 m1 m2 m3 m4 m5 hA4 hA5 ho hg hne
        (try simp only [Act.put, List.setIfInBounds_toArray, List.set_cons_zero, List.set_cons_succ])
        refine wpAnyH_done (by kernel_rfl) ?_ _
        generalize w'.setCell _ _ = w5 at HC4 ⊢
        obtain ⟨m0, m1, m2, m3, m4, m5⟩ := arr_three HC4.out.2.1
        obtain ⟨o0, o1, o2, o3, o4, o5⟩ := arr_three HC4.out.1.2.1
        have hbn := HC4.out.2.2.2.1
        have hbq : ¬ (b6 = w.heap.size + 1) := by omega
        have hbq2 : ¬ (w.heap.size + 1 = b6) := by omega
        clear hbn
        go_wp2
        have h6 := HC4.out.put1 (n + 1)
        have hF := cpb_fill h6.1 (.string d) (.int .i64 (n + 1)) (.slice q2 (N + 1) k2)
        obtain ⟨z0, z1, z2, _⟩ := arr_three hF.1
        refine bodyPost_ret (v := .tuple #[.agg #[.string d, .int .i64 (n + 1), .slice q2 (N + 1) k2], .nilIface]) (by simp [results, Tryd.results22, go_sem, z0, z1, z2]) rfl ⟨⟨q2, k2, rfl, ?_⟩, hF.2⟩
        exact (((h6.2.2.1.low (a := ⟨w.heap.size + 1, 0, none⟩) (by show w.heap.size + 1 < w.heap.size + 2; omega) _).low (a := ⟨w.heap.size + 1, 1, none⟩) (by show w.heap.size + 1 < w.heap.size + 2; omega) _).low (a := ⟨w.heap.size + 1, 2, none⟩) (by show w.heap.size + 1 < w.heap.size + 2; omega) _).mono (by omega)

end Go.Proofs.YtkjkfcljejjpbaaDoor
