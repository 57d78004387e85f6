/- impl.withChangedPeer. -/
import Derived.Test.YtkjkfcljejjpbaaDoorDbChgC
import Derived.Test.YtkjkfcljejjpbaaDoorDbTrust
namespace Go.Proofs.YtkjkfcljejjpbaaDoor
set_option linter.unusedSimpArgs false
set_option linter.unusedVariables false
open Go.RowKit Go.Joins

theorem own_some {W : World} {B m k : Nat} {q : Option Addr} {ps : List PrL} (h : OwnC prC W B 43 4 (.slice q m k) ps) (h0 : 0 < ps.length) : ∃ g, q = some ⟨g, 0, none⟩ := by
  rcases h.2 with ⟨_, e⟩ | ⟨g, c, cur, e, _⟩
  · omega
  · injection e with e1 _ _
    exact ⟨g, e1⟩
theorem NwC.chg {w W W' : World} {d : ByteArray} {n : Int} {v : Value} {b : Nat} {d2 : ByteArray} {n2 : Int} {g m c : Nat} {ps qs : List PrL} (h : NwC w W d n v b d2 n2 (.slice (some ⟨g, 0, none⟩) m c) ps) (hk : Keep g W W') (hb : Below g W W') (ho : OwnC prC W' (w.heap.size + 2) 43 4 (.slice (some ⟨g, 0, none⟩) m c) qs) :
    NwC w W' d n v b d2 n2 (.slice (some ⟨g, 0, none⟩) m c) qs := by
  have hg := own_base h.2.2.1 g rfl
  have hgb := h.2.2.2.2 g rfl
  exact ⟨⟨hk.arr h.1.1 (by omega), hk.arr h.1.2.1 (by omega), h.1.2.2.trans (hb.mono (by omega))⟩, hk.arr h.2.1 (fun e => hgb e.symm), ho, h.2.2.2⟩
theorem atI_some {id : Int} {ps : List PrL} {K : Nat} (h : atK id ps = some K) : atI id ps = (K : Int) := by unfold atI; rw [h]
theorem atI_none {id : Int} {ps : List PrL} (h : atK id ps = none) : atI id ps = -1 := by unfold atI; rw [h]
set_option maxRecDepth 100000 in
set_option maxHeartbeats 400000 in
theorem res_chg_form (d : ByteArray) (n : Int) (ps : List PrL) (p : Option Addr) (c B0 : Nat) (id : Int) (a0 a1 a2 a3 : Addr) (w : World) (hd : d.size ≤ 1048576) (hl : ps.length ≤ 1048576) (hw : ∀ x ∈ ps, x.d.size ≤ 1048576 ∧ x.k.size ≤ 1048576) (hO : OwnC prC w B0 43 4 (.slice p ps.length c) ps) (hm : MaxL w) (hE : ErrsAt w a0 a1 a2 a3) (kb : Nat) (h1 : dbB d n ps = false) :
    Calls Tryd.prog 25 #[dbV d n p ps.length c, .int .i64 id, .func (.func 26) #[] #[.pointer (some ⟨kb, 0, none⟩)]] w fun e w' => e = .returned (.tuple #[dbV ⟨#[]⟩ 0 none 0 0, .iface 102 (.pointer (some a0))]) ∧ Below w.heap.size w w' := by
  have i1 := fun W hR hm => impl_dbright d n ps p c W (by unfold maxLen; omega) hl (fun x hx => by have := hw x hx; unfold maxLen; omega) hR hm
  have i2 := fun W hR => impl_peerat ps p c id W hl hR
  have HR := Lib.hid (fun W (h : Below w.heap.size w W) => row_own (hO.on h))
  have HO := Lib.hid (fun W (h : Below w.heap.size w W) => hO.on h)
  have HM := Lib.hid (fun W (h : Below w.heap.size w W) => hm.below h hm.pos)
  have HE := Lib.hid (fun W (h : Below w.heap.size w W) => (hE.below h).1)
  have HEE := Lib.hid (fun W (h : Below w.heap.size w W) => hE.below h)
  have hgl := errs_lt hE
  have q0 : ¬ (w.heap.size + 1 = 3) := by omega
  have q1 : ¬ (3 = w.heap.size + 1) := by omega
  have q2 : ¬ (w.heap.size + 1 = 0) := by omega
  have q3 : ¬ (0 = w.heap.size + 1) := by omega
  rw [h1] at i1
  obtain ⟨N, hN⟩ : ∃ N, ps.length = N := ⟨_, rfl⟩
  rw [hN] at i1 ⊢
  have HS := Lib.hid (cpb_start w d n (.slice p N c))
  clear hO hm hE h1 hw hl hd hN HO HEE i2
  unfold dbV at i1 ⊢
  go_enter Tryd.func25, Tryd.ntmps25
  go_wp2_with (go_at_call 18; go_fit (i1 _ (HR.out _ HS.out.2.2) (HM.out _ HS.out.2.2)); rintro e w1 ⟨rfl, hb⟩; have HS1 := Lib.hid (HS.out.on hb); clear hb; obtain ⟨v0, v1, v2, v3⟩ := HE.out _ HS1.out.2.2; obtain ⟨c0, c1, c2, f0, f1, f2⟩ := arr_three HS1.out.1; obtain ⟨d0, d1, d2, g0, g1, g2⟩ := arr_three HS1.out.2.1)
  go_region
  all_goals (try go_wp2)
  have hZ := cpb_zero HS1.out
  obtain ⟨z0, z1, z2, _⟩ := arr_three hZ.1
  refine bodyPost_ret (v := .tuple #[.agg #[.string ⟨#[]⟩, .int .i64 0, .slice none 0 0], .iface 102 (.pointer (some a0))]) (by simp [results, Tryd.results25, go_sem, z0, z1, z2]) rfl ⟨rfl, hZ.2⟩
set_option maxRecDepth 100000 in
set_option maxHeartbeats 400000 in
theorem res_chg_none (d : ByteArray) (n : Int) (ps : List PrL) (p : Option Addr) (c B0 : Nat) (id : Int) (a0 a1 a2 a3 : Addr) (w : World) (hd : d.size ≤ 1048576) (hl : ps.length ≤ 1048576) (hw : ∀ x ∈ ps, x.d.size ≤ 1048576 ∧ x.k.size ≤ 1048576) (hO : OwnC prC w B0 43 4 (.slice p ps.length c) ps) (hm : MaxL w) (hE : ErrsAt w a0 a1 a2 a3) (kb : Nat) (h1 : dbB d n ps = true) (h2 : atK id ps = none) :
    Calls Tryd.prog 25 #[dbV d n p ps.length c, .int .i64 id, .func (.func 26) #[] #[.pointer (some ⟨kb, 0, none⟩)]] w fun e w' => e = .returned (.tuple #[dbV ⟨#[]⟩ 0 none 0 0, .iface 102 (.pointer (some a1))]) ∧ Below w.heap.size w w' := by
  have i1 := fun W hR hm => impl_dbright d n ps p c W (by unfold maxLen; omega) hl (fun x hx => by have := hw x hx; unfold maxLen; omega) hR hm
  have i2 := fun W hR => impl_peerat ps p c id W hl hR
  have HR := Lib.hid (fun W (h : Below w.heap.size w W) => row_own (hO.on h))
  have HO := Lib.hid (fun W (h : Below w.heap.size w W) => hO.on h)
  have HM := Lib.hid (fun W (h : Below w.heap.size w W) => hm.below h hm.pos)
  have HE := Lib.hid (fun W (h : Below w.heap.size w W) => (hE.below h).1)
  have HEE := Lib.hid (fun W (h : Below w.heap.size w W) => hE.below h)
  have hgl := errs_lt hE
  have q0 : ¬ (w.heap.size + 1 = 3) := by omega
  have q1 : ¬ (3 = w.heap.size + 1) := by omega
  have q2 : ¬ (w.heap.size + 1 = 0) := by omega
  have q3 : ¬ (0 = w.heap.size + 1) := by omega
  rw [h1] at i1
  rw [atI_none h2] at i2
  obtain ⟨N, hN⟩ : ∃ N, ps.length = N := ⟨_, rfl⟩
  rw [hN] at i1 i2 ⊢
  have HS := Lib.hid (cpb_start w d n (.slice p N c))
  clear hO hm hE h1 h2 hw hl hd hN HO HEE
  unfold dbV at i1 ⊢
  go_enter Tryd.func25, Tryd.ntmps25
  go_wp2_with (first | (go_at_call 18; go_fit (i1 _ (HR.out _ HS.out.2.2) (HM.out _ HS.out.2.2)); rintro e w1 ⟨rfl, hb⟩; have HS1 := Lib.hid (HS.out.on hb); clear hb; obtain ⟨v0, v1, v2, v3⟩ := HE.out _ HS1.out.2.2; obtain ⟨c0, c1, c2, f0, f1, f2⟩ := arr_three HS1.out.1; obtain ⟨d0, d1, d2, g0, g1, g2⟩ := arr_three HS1.out.2.1) | (go_at_call 34; go_fit (i2 _ (HR.out _ HS1.out.2.2)); rintro e w2 ⟨rfl, hb⟩; have HS2 := Lib.hid (HS1.out.on hb); clear hb; obtain ⟨v0, v1, v2, v3⟩ := HE.out _ HS2.out.2.2; obtain ⟨c0, c1, c2, f0, f1, f2⟩ := arr_three HS2.out.1; obtain ⟨d0, d1, d2, g0, g1, g2⟩ := arr_three HS2.out.2.1))
  go_region
  all_goals (try go_wp2)
  have hZ := cpb_zero HS2.out
  obtain ⟨z0, z1, z2, _⟩ := arr_three hZ.1
  refine bodyPost_ret (v := .tuple #[.agg #[.string ⟨#[]⟩, .int .i64 0, .slice none 0 0], .iface 102 (.pointer (some a1))]) (by simp [results, Tryd.results25, go_sem, z0, z1, z2]) rfl ⟨rfl, hZ.2⟩
set_option maxRecDepth 100000 in
set_option maxHeartbeats 400000 in
theorem res_chg_err (d : ByteArray) (n : Int) (ps : List PrL) (p : Option Addr) (c B0 : Nat) (id : Int) (a0 a1 a2 a3 : Addr) (w : World) (hd : d.size ≤ 1048576) (hl : ps.length ≤ 1048576) (hw : ∀ x ∈ ps, x.d.size ≤ 1048576 ∧ x.k.size ≤ 1048576) (hO : OwnC prC w B0 43 4 (.slice p ps.length c) ps) (hm : MaxL w) (hE : ErrsAt w a0 a1 a2 a3) (kb : Nat) (key : ByteArray) (hkb : w.cell? ⟨kb, 0, none⟩ = some (.string key)) (h1 : dbB d n ps = true) (K : Nat) (h2 : atK id ps = some K) (ax : Addr)
    (hcl : ∀ g m c (W : World), OwnC prC W (w.heap.size + 2) 43 4 (.slice (some ⟨g, 0, none⟩) m c) ps → ErrsAt W a0 a1 a2 a3 → W.cell? ⟨kb, 0, none⟩ = some (.string key) → Calls Tryd.prog 26 #[.pointer (some ⟨g, K * 4, none⟩), .pointer (some ⟨kb, 0, none⟩)] W fun e W' => e = .returned (.iface 102 (.pointer (some ax))) ∧ W' = W) :
    Calls Tryd.prog 25 #[dbV d n p ps.length c, .int .i64 id, .func (.func 26) #[] #[.pointer (some ⟨kb, 0, none⟩)]] w fun e w' => e = .returned (.tuple #[dbV ⟨#[]⟩ 0 none 0 0, .iface 102 (.pointer (some ax))]) ∧ Below w.heap.size w w' := by
  have i1 := fun W hR hm => impl_dbright d n ps p c W (by unfold maxLen; omega) hl (fun x hx => by have := hw x hx; unfold maxLen; omega) hR hm
  have i2 := fun W hR => impl_peerat ps p c id W hl hR
  have HR := Lib.hid (fun W (h : Below w.heap.size w W) => row_own (hO.on h))
  have HO := Lib.hid (fun W (h : Below w.heap.size w W) => hO.on h)
  have HM := Lib.hid (fun W (h : Below w.heap.size w W) => hm.below h hm.pos)
  have HE := Lib.hid (fun W (h : Below w.heap.size w W) => (hE.below h).1)
  have HEE := Lib.hid (fun W (h : Below w.heap.size w W) => hE.below h)
  have hgl := errs_lt hE
  have q0 : ¬ (w.heap.size + 1 = 3) := by omega
  have q1 : ¬ (3 = w.heap.size + 1) := by omega
  have q2 : ¬ (w.heap.size + 1 = 0) := by omega
  have q3 : ¬ (0 = w.heap.size + 1) := by omega
  rw [h1] at i1
  rw [atI_some h2] at i2
  have i3 := fun W h => impl_dbcopy d n ps p c B0 W (by omega) hl (fun x hx => by have := hw x hx; omega) h
  obtain ⟨hK, _⟩ := atK_lt h2
  have hkl : kb < w.heap.size := block_lt_of_cell hkb
  have HK := Lib.hid (fun W (h : Below w.heap.size w W) => (h.cell (p := ⟨kb, 0, none⟩) hkl).trans hkb)
  obtain ⟨N, hN⟩ : ∃ N, ps.length = N := ⟨_, rfl⟩
  have HN := Lib.hid hN
  rw [hN] at i1 i2 i3 HO hK hl ⊢
  have HS := Lib.hid (cpb_start w d n (.slice p N c))
  clear hO hm hE h1 h2 hw hd hN hkb
  have hKi : ¬ ((K : Int) < 0) := by omega
  unfold dbV at i1 i3 ⊢
  go_enter Tryd.func25, Tryd.ntmps25
  go_wp2_with (first | (go_at_call 18; go_fit (i1 _ (HR.out _ HS.out.2.2) (HM.out _ HS.out.2.2)); rintro e w1 ⟨rfl, hb⟩; have HS1 := Lib.hid (HS.out.on hb); clear hb; obtain ⟨v0, v1, v2, v3⟩ := HE.out _ HS1.out.2.2; obtain ⟨c0, c1, c2, f0, f1, f2⟩ := arr_three HS1.out.1; obtain ⟨d0, d1, d2, g0, g1, g2⟩ := arr_three HS1.out.2.1) | (go_at_call 34; go_fit (i2 _ (HR.out _ HS1.out.2.2)); rintro e w2 ⟨rfl, hb⟩; have HS2 := Lib.hid (HS1.out.on hb); clear hb; obtain ⟨v0, v1, v2, v3⟩ := HE.out _ HS2.out.2.2; obtain ⟨c0, c1, c2, f0, f1, f2⟩ := arr_three HS2.out.1; obtain ⟨d0, d1, d2, g0, g1, g2⟩ := arr_three HS2.out.2.1) | (go_at_call 39; go_fit (i3 _ (HO.out _ HS2.out.2.2)); rintro e w3 ⟨⟨q, k, rfl, hv⟩, hb⟩; have hlt3 := Nat.lt_of_lt_of_le (arr_lt HS2.out.2.1) hb.size; have hbx := HS2.out.2.2.trans (hb.mono HS2.out.2.2.size); have HC := Lib.hid (nwc_start (d2 := d) (n2 := n) (HS2.out.on hb) (hv.mono (B' := w.heap.size + 2) (by have := arr_lt HS2.out.2.1; omega))); obtain ⟨g, hq⟩ := own_some hv (by rw [HN.out]; omega); subst hq; have hgB := own_base HC.out.2.2.1 g rfl; have hgl3 := own_lt hv g rfl; clear hb hv; obtain ⟨u0, u1, u2, t0, t1, t2⟩ := arr_three HC.out.1.2.1) | (go_at_call 26; go_fit (hcl g N k _ HC.out.2.2.1 (HEE.out _ HC.out.1.2.2) (HK.out _ HC.out.1.2.2)); rintro e w4 ⟨rfl, hw4⟩; rw [← hw4] at HC; clear hw4 u0 u1 u2 t0 t1 t2; obtain ⟨u0, u1, u2, t0, t1, t2⟩ := arr_three HC.out.1.2.1))
  have hZ := cpb_fill HC.out.1 (.string ⟨#[]⟩) (.int .i64 0) (.slice none 0 0)
  obtain ⟨z0, z1, z2, _⟩ := arr_three hZ.1
  refine bodyPost_ret (v := .tuple #[.agg #[.string ⟨#[]⟩, .int .i64 0, .slice none 0 0], .iface 102 (.pointer (some ax))]) (by simp [results, Tryd.results25, go_sem, z0, z1, z2]) rfl ⟨rfl, hZ.2⟩
set_option maxRecDepth 100000 in
set_option maxHeartbeats 400000 in
theorem res_chg_ok (d : ByteArray) (n : Int) (ps : List PrL) (p : Option Addr) (c B0 : Nat) (id : Int) (a0 a1 a2 a3 : Addr) (w : World) (hd : d.size ≤ 1048576) (hl : ps.length ≤ 1048576) (hw : ∀ x ∈ ps, x.d.size ≤ 1048576 ∧ x.k.size ≤ 1048576) (hO : OwnC prC w B0 43 4 (.slice p ps.length c) ps) (hm : MaxL w) (hE : ErrsAt w a0 a1 a2 a3) (kb : Nat) (key : ByteArray) (hkb : w.cell? ⟨kb, 0, none⟩ = some (.string key)) (h1 : dbB d n ps = true) (K : Nat) (h2 : atK id ps = some K) (y : PrL)
    (hcl : ∀ g m c (W : World), OwnC prC W (w.heap.size + 2) 43 4 (.slice (some ⟨g, 0, none⟩) m c) ps → ErrsAt W a0 a1 a2 a3 → W.cell? ⟨kb, 0, none⟩ = some (.string key) → kb ≠ g → Calls Tryd.prog 26 #[.pointer (some ⟨g, K * 4, none⟩), .pointer (some ⟨kb, 0, none⟩)] W fun e W' => e = .returned .nilIface ∧ OwnC prC W' (w.heap.size + 2) 43 4 (.slice (some ⟨g, 0, none⟩) m c) (ps.set K y) ∧ Keep g W W' ∧ Below g W W') :
    Calls Tryd.prog 25 #[dbV d n p ps.length c, .int .i64 id, .func (.func 26) #[] #[.pointer (some ⟨kb, 0, none⟩)]] w fun e w' => (∃ q k, e = .returned (.tuple #[dbV d n q ps.length k, .nilIface]) ∧ OwnC prC w' w.heap.size 43 4 (.slice q ps.length k) (ps.set K y)) ∧ Below w.heap.size w w' := by
  have i1 := fun W hR hm => impl_dbright d n ps p c W (by unfold maxLen; omega) hl (fun x hx => by have := hw x hx; unfold maxLen; omega) hR hm
  have i2 := fun W hR => impl_peerat ps p c id W hl hR
  have HR := Lib.hid (fun W (h : Below w.heap.size w W) => row_own (hO.on h))
  have HO := Lib.hid (fun W (h : Below w.heap.size w W) => hO.on h)
  have HM := Lib.hid (fun W (h : Below w.heap.size w W) => hm.below h hm.pos)
  have HE := Lib.hid (fun W (h : Below w.heap.size w W) => (hE.below h).1)
  have HEE := Lib.hid (fun W (h : Below w.heap.size w W) => hE.below h)
  have hgl := errs_lt hE
  have q0 : ¬ (w.heap.size + 1 = 3) := by omega
  have q1 : ¬ (3 = w.heap.size + 1) := by omega
  have q2 : ¬ (w.heap.size + 1 = 0) := by omega
  have q3 : ¬ (0 = w.heap.size + 1) := by omega
  rw [h1] at i1
  rw [atI_some h2] at i2
  have i3 := fun W h => impl_dbcopy d n ps p c B0 W (by omega) hl (fun x hx => by have := hw x hx; omega) h
  obtain ⟨hK, _⟩ := atK_lt h2
  have hkl : kb < w.heap.size := block_lt_of_cell hkb
  have HK := Lib.hid (fun W (h : Below w.heap.size w W) => (h.cell (p := ⟨kb, 0, none⟩) hkl).trans hkb)
  obtain ⟨N, hN⟩ : ∃ N, ps.length = N := ⟨_, rfl⟩
  have HN := Lib.hid hN
  rw [hN] at i1 i2 i3 HO hK hl ⊢
  have HS := Lib.hid (cpb_start w d n (.slice p N c))
  clear hO hm hE h1 h2 hw hd hN hkb
  have hKi : ¬ ((K : Int) < 0) := by omega
  unfold dbV at i1 i3 ⊢
  go_enter Tryd.func25, Tryd.ntmps25
  go_wp2_with (first | (go_at_call 18; go_fit (i1 _ (HR.out _ HS.out.2.2) (HM.out _ HS.out.2.2)); rintro e w1 ⟨rfl, hb⟩; have HS1 := Lib.hid (HS.out.on hb); clear hb; obtain ⟨v0, v1, v2, v3⟩ := HE.out _ HS1.out.2.2; obtain ⟨c0, c1, c2, f0, f1, f2⟩ := arr_three HS1.out.1; obtain ⟨d0, d1, d2, g0, g1, g2⟩ := arr_three HS1.out.2.1) | (go_at_call 34; go_fit (i2 _ (HR.out _ HS1.out.2.2)); rintro e w2 ⟨rfl, hb⟩; have HS2 := Lib.hid (HS1.out.on hb); clear hb; obtain ⟨v0, v1, v2, v3⟩ := HE.out _ HS2.out.2.2; obtain ⟨c0, c1, c2, f0, f1, f2⟩ := arr_three HS2.out.1; obtain ⟨d0, d1, d2, g0, g1, g2⟩ := arr_three HS2.out.2.1) | (go_at_call 39; go_fit (i3 _ (HO.out _ HS2.out.2.2)); rintro e w3 ⟨⟨q, k, rfl, hv⟩, hb⟩; have hlt3 := Nat.lt_of_lt_of_le (arr_lt HS2.out.2.1) hb.size; have hbx := HS2.out.2.2.trans (hb.mono HS2.out.2.2.size); have HC := Lib.hid (nwc_start (d2 := d) (n2 := n) (HS2.out.on hb) (hv.mono (B' := w.heap.size + 2) (by have := arr_lt HS2.out.2.1; omega))); obtain ⟨g, hq⟩ := own_some hv (by rw [HN.out]; omega); subst hq; have hgB := own_base HC.out.2.2.1 g rfl; have hgl3 := own_lt hv g rfl; clear hb hv; obtain ⟨u0, u1, u2, t0, t1, t2⟩ := arr_three HC.out.1.2.1) | (go_at_call 26; go_fit (hcl g N k _ HC.out.2.2.1 (HEE.out _ HC.out.1.2.2) (HK.out _ HC.out.1.2.2) (by omega)); rintro e w4 ⟨rfl, ho, hkp, hbl⟩; have HC4 := Lib.hid (HC.out.chg hkp hbl ho); clear ho hkp hbl u0 u1 u2 t0 t1 t2; obtain ⟨x0, x1, x2, y0, y1, y2⟩ := arr_three HC4.out.2.1; obtain ⟨u0, u1, u2, t0, t1, t2⟩ := arr_three HC4.out.1.2.1))
  have hZ := cpb_fill HC4.out.1 (.string d) (.int .i64 n) (.slice (some ⟨g, 0, none⟩) N k)
  obtain ⟨z0, z1, z2, _⟩ := arr_three hZ.1
  refine bodyPost_ret (v := .tuple #[.agg #[.string d, .int .i64 n, .slice (some ⟨g, 0, none⟩) N k], .nilIface]) (by simp [results, Tryd.results25, go_sem, z0, z1, z2]) rfl ⟨⟨_, k, rfl, ?_⟩, hZ.2⟩
  exact (((HC4.out.2.2.1.low (a := ⟨w.heap.size + 1, 0, none⟩) (by show w.heap.size + 1 < w.heap.size + 2; omega) _).low (a := ⟨w.heap.size + 1, 1, none⟩) (by show w.heap.size + 1 < w.heap.size + 2; omega) _).low (a := ⟨w.heap.size + 1, 2, none⟩) (by show w.heap.size + 1 < w.heap.size + 2; omega) _).mono (by omega)
set_option maxRecDepth 100000 in
set_option maxHeartbeats 400000 in
theorem ver_chg_form (d : ByteArray) (n : Int) (ps : List PrL) (p : Option Addr) (c B0 : Nat) (id : Int) (a0 a1 a2 a3 : Addr) (w : World) (hd : d.size ≤ 1048576) (hl : ps.length ≤ 1048576) (hw : ∀ x ∈ ps, x.d.size ≤ 1048576 ∧ x.k.size ≤ 1048576) (hO : OwnC prC w B0 43 4 (.slice p ps.length c) ps) (hm : MaxL w) (hE : ErrsAt w a0 a1 a2 a3) (kb : Nat) (h1 : dbB d n ps = false) :
    Calls Tryd.prog 25 #[dbV d n p ps.length c, .int .i64 id, .func (.func 29) #[] #[.pointer (some ⟨kb, 0, none⟩)]] w fun e w' => e = .returned (.tuple #[dbV ⟨#[]⟩ 0 none 0 0, .iface 102 (.pointer (some a0))]) ∧ Below w.heap.size w w' := by
  have i1 := fun W hR hm => impl_dbright d n ps p c W (by unfold maxLen; omega) hl (fun x hx => by have := hw x hx; unfold maxLen; omega) hR hm
  have i2 := fun W hR => impl_peerat ps p c id W hl hR
  have HR := Lib.hid (fun W (h : Below w.heap.size w W) => row_own (hO.on h))
  have HO := Lib.hid (fun W (h : Below w.heap.size w W) => hO.on h)
  have HM := Lib.hid (fun W (h : Below w.heap.size w W) => hm.below h hm.pos)
  have HE := Lib.hid (fun W (h : Below w.heap.size w W) => (hE.below h).1)
  have HEE := Lib.hid (fun W (h : Below w.heap.size w W) => hE.below h)
  have hgl := errs_lt hE
  have q0 : ¬ (w.heap.size + 1 = 3) := by omega
  have q1 : ¬ (3 = w.heap.size + 1) := by omega
  have q2 : ¬ (w.heap.size + 1 = 0) := by omega
  have q3 : ¬ (0 = w.heap.size + 1) := by omega
  rw [h1] at i1
  obtain ⟨N, hN⟩ : ∃ N, ps.length = N := ⟨_, rfl⟩
  rw [hN] at i1 ⊢
  have HS := Lib.hid (cpb_start w d n (.slice p N c))
  clear hO hm hE h1 hw hl hd hN HO HEE i2
  unfold dbV at i1 ⊢
  go_enter Tryd.func25, Tryd.ntmps25
  go_wp2_with (go_at_call 18; go_fit (i1 _ (HR.out _ HS.out.2.2) (HM.out _ HS.out.2.2)); rintro e w1 ⟨rfl, hb⟩; have HS1 := Lib.hid (HS.out.on hb); clear hb; obtain ⟨v0, v1, v2, v3⟩ := HE.out _ HS1.out.2.2; obtain ⟨c0, c1, c2, f0, f1, f2⟩ := arr_three HS1.out.1; obtain ⟨d0, d1, d2, g0, g1, g2⟩ := arr_three HS1.out.2.1)
  go_region
  all_goals (try go_wp2)
  have hZ := cpb_zero HS1.out
  obtain ⟨z0, z1, z2, _⟩ := arr_three hZ.1
  refine bodyPost_ret (v := .tuple #[.agg #[.string ⟨#[]⟩, .int .i64 0, .slice none 0 0], .iface 102 (.pointer (some a0))]) (by simp [results, Tryd.results25, go_sem, z0, z1, z2]) rfl ⟨rfl, hZ.2⟩
set_option maxRecDepth 100000 in
set_option maxHeartbeats 400000 in
theorem ver_chg_none (d : ByteArray) (n : Int) (ps : List PrL) (p : Option Addr) (c B0 : Nat) (id : Int) (a0 a1 a2 a3 : Addr) (w : World) (hd : d.size ≤ 1048576) (hl : ps.length ≤ 1048576) (hw : ∀ x ∈ ps, x.d.size ≤ 1048576 ∧ x.k.size ≤ 1048576) (hO : OwnC prC w B0 43 4 (.slice p ps.length c) ps) (hm : MaxL w) (hE : ErrsAt w a0 a1 a2 a3) (kb : Nat) (h1 : dbB d n ps = true) (h2 : atK id ps = none) :
    Calls Tryd.prog 25 #[dbV d n p ps.length c, .int .i64 id, .func (.func 29) #[] #[.pointer (some ⟨kb, 0, none⟩)]] w fun e w' => e = .returned (.tuple #[dbV ⟨#[]⟩ 0 none 0 0, .iface 102 (.pointer (some a1))]) ∧ Below w.heap.size w w' := by
  have i1 := fun W hR hm => impl_dbright d n ps p c W (by unfold maxLen; omega) hl (fun x hx => by have := hw x hx; unfold maxLen; omega) hR hm
  have i2 := fun W hR => impl_peerat ps p c id W hl hR
  have HR := Lib.hid (fun W (h : Below w.heap.size w W) => row_own (hO.on h))
  have HO := Lib.hid (fun W (h : Below w.heap.size w W) => hO.on h)
  have HM := Lib.hid (fun W (h : Below w.heap.size w W) => hm.below h hm.pos)
  have HE := Lib.hid (fun W (h : Below w.heap.size w W) => (hE.below h).1)
  have HEE := Lib.hid (fun W (h : Below w.heap.size w W) => hE.below h)
  have hgl := errs_lt hE
  have q0 : ¬ (w.heap.size + 1 = 3) := by omega
  have q1 : ¬ (3 = w.heap.size + 1) := by omega
  have q2 : ¬ (w.heap.size + 1 = 0) := by omega
  have q3 : ¬ (0 = w.heap.size + 1) := by omega
  rw [h1] at i1
  rw [atI_none h2] at i2
  obtain ⟨N, hN⟩ : ∃ N, ps.length = N := ⟨_, rfl⟩
  rw [hN] at i1 i2 ⊢
  have HS := Lib.hid (cpb_start w d n (.slice p N c))
  clear hO hm hE h1 h2 hw hl hd hN HO HEE
  unfold dbV at i1 ⊢
  go_enter Tryd.func25, Tryd.ntmps25
  go_wp2_with (first | (go_at_call 18; go_fit (i1 _ (HR.out _ HS.out.2.2) (HM.out _ HS.out.2.2)); rintro e w1 ⟨rfl, hb⟩; have HS1 := Lib.hid (HS.out.on hb); clear hb; obtain ⟨v0, v1, v2, v3⟩ := HE.out _ HS1.out.2.2; obtain ⟨c0, c1, c2, f0, f1, f2⟩ := arr_three HS1.out.1; obtain ⟨d0, d1, d2, g0, g1, g2⟩ := arr_three HS1.out.2.1) | (go_at_call 34; go_fit (i2 _ (HR.out _ HS1.out.2.2)); rintro e w2 ⟨rfl, hb⟩; have HS2 := Lib.hid (HS1.out.on hb); clear hb; obtain ⟨v0, v1, v2, v3⟩ := HE.out _ HS2.out.2.2; obtain ⟨c0, c1, c2, f0, f1, f2⟩ := arr_three HS2.out.1; obtain ⟨d0, d1, d2, g0, g1, g2⟩ := arr_three HS2.out.2.1))
  go_region
  all_goals (try go_wp2)
  have hZ := cpb_zero HS2.out
  obtain ⟨z0, z1, z2, _⟩ := arr_three hZ.1
  refine bodyPost_ret (v := .tuple #[.agg #[.string ⟨#[]⟩, .int .i64 0, .slice none 0 0], .iface 102 (.pointer (some a1))]) (by simp [results, Tryd.results25, go_sem, z0, z1, z2]) rfl ⟨rfl, hZ.2⟩
set_option maxRecDepth 100000 in
set_option maxHeartbeats 400000 in
theorem ver_chg_err (d : ByteArray) (n : Int) (ps : List PrL) (p : Option Addr) (c B0 : Nat) (id : Int) (a0 a1 a2 a3 : Addr) (w : World) (hd : d.size ≤ 1048576) (hl : ps.length ≤ 1048576) (hw : ∀ x ∈ ps, x.d.size ≤ 1048576 ∧ x.k.size ≤ 1048576) (hO : OwnC prC w B0 43 4 (.slice p ps.length c) ps) (hm : MaxL w) (hE : ErrsAt w a0 a1 a2 a3) (kb : Nat) (good : Bool) (hkb : w.cell? ⟨kb, 0, none⟩ = some (.bool good)) (h1 : dbB d n ps = true) (K : Nat) (h2 : atK id ps = some K) (ax : Addr)
    (hcl : ∀ g m c (W : World), OwnC prC W (w.heap.size + 2) 43 4 (.slice (some ⟨g, 0, none⟩) m c) ps → ErrsAt W a0 a1 a2 a3 → W.cell? ⟨kb, 0, none⟩ = some (.bool good) → Calls Tryd.prog 29 #[.pointer (some ⟨g, K * 4, none⟩), .pointer (some ⟨kb, 0, none⟩)] W fun e W' => e = .returned (.iface 102 (.pointer (some ax))) ∧ W' = W) :
    Calls Tryd.prog 25 #[dbV d n p ps.length c, .int .i64 id, .func (.func 29) #[] #[.pointer (some ⟨kb, 0, none⟩)]] w fun e w' => e = .returned (.tuple #[dbV ⟨#[]⟩ 0 none 0 0, .iface 102 (.pointer (some ax))]) ∧ Below w.heap.size w w' := by
  have i1 := fun W hR hm => impl_dbright d n ps p c W (by unfold maxLen; omega) hl (fun x hx => by have := hw x hx; unfold maxLen; omega) hR hm
  have i2 := fun W hR => impl_peerat ps p c id W hl hR
  have HR := Lib.hid (fun W (h : Below w.heap.size w W) => row_own (hO.on h))
  have HO := Lib.hid (fun W (h : Below w.heap.size w W) => hO.on h)
  have HM := Lib.hid (fun W (h : Below w.heap.size w W) => hm.below h hm.pos)
  have HE := Lib.hid (fun W (h : Below w.heap.size w W) => (hE.below h).1)
  have HEE := Lib.hid (fun W (h : Below w.heap.size w W) => hE.below h)
  have hgl := errs_lt hE
  have q0 : ¬ (w.heap.size + 1 = 3) := by omega
  have q1 : ¬ (3 = w.heap.size + 1) := by omega
  have q2 : ¬ (w.heap.size + 1 = 0) := by omega
  have q3 : ¬ (0 = w.heap.size + 1) := by omega
  rw [h1] at i1
  rw [atI_some h2] at i2
  have i3 := fun W h => impl_dbcopy d n ps p c B0 W (by omega) hl (fun x hx => by have := hw x hx; omega) h
  obtain ⟨hK, _⟩ := atK_lt h2
  have hkl : kb < w.heap.size := block_lt_of_cell hkb
  have HK := Lib.hid (fun W (h : Below w.heap.size w W) => (h.cell (p := ⟨kb, 0, none⟩) hkl).trans hkb)
  obtain ⟨N, hN⟩ : ∃ N, ps.length = N := ⟨_, rfl⟩
  have HN := Lib.hid hN
  rw [hN] at i1 i2 i3 HO hK hl ⊢
  have HS := Lib.hid (cpb_start w d n (.slice p N c))
  clear hO hm hE h1 h2 hw hd hN hkb
  have hKi : ¬ ((K : Int) < 0) := by omega
  unfold dbV at i1 i3 ⊢
  go_enter Tryd.func25, Tryd.ntmps25
  go_wp2_with (first | (go_at_call 18; go_fit (i1 _ (HR.out _ HS.out.2.2) (HM.out _ HS.out.2.2)); rintro e w1 ⟨rfl, hb⟩; have HS1 := Lib.hid (HS.out.on hb); clear hb; obtain ⟨v0, v1, v2, v3⟩ := HE.out _ HS1.out.2.2; obtain ⟨c0, c1, c2, f0, f1, f2⟩ := arr_three HS1.out.1; obtain ⟨d0, d1, d2, g0, g1, g2⟩ := arr_three HS1.out.2.1) | (go_at_call 34; go_fit (i2 _ (HR.out _ HS1.out.2.2)); rintro e w2 ⟨rfl, hb⟩; have HS2 := Lib.hid (HS1.out.on hb); clear hb; obtain ⟨v0, v1, v2, v3⟩ := HE.out _ HS2.out.2.2; obtain ⟨c0, c1, c2, f0, f1, f2⟩ := arr_three HS2.out.1; obtain ⟨d0, d1, d2, g0, g1, g2⟩ := arr_three HS2.out.2.1) | (go_at_call 39; go_fit (i3 _ (HO.out _ HS2.out.2.2)); rintro e w3 ⟨⟨q, k, rfl, hv⟩, hb⟩; have hlt3 := Nat.lt_of_lt_of_le (arr_lt HS2.out.2.1) hb.size; have hbx := HS2.out.2.2.trans (hb.mono HS2.out.2.2.size); have HC := Lib.hid (nwc_start (d2 := d) (n2 := n) (HS2.out.on hb) (hv.mono (B' := w.heap.size + 2) (by have := arr_lt HS2.out.2.1; omega))); obtain ⟨g, hq⟩ := own_some hv (by rw [HN.out]; omega); subst hq; have hgB := own_base HC.out.2.2.1 g rfl; have hgl3 := own_lt hv g rfl; clear hb hv; obtain ⟨u0, u1, u2, t0, t1, t2⟩ := arr_three HC.out.1.2.1) | (go_at_call 29; go_fit (hcl g N k _ HC.out.2.2.1 (HEE.out _ HC.out.1.2.2) (HK.out _ HC.out.1.2.2)); rintro e w4 ⟨rfl, hw4⟩; rw [← hw4] at HC; clear hw4 u0 u1 u2 t0 t1 t2; obtain ⟨u0, u1, u2, t0, t1, t2⟩ := arr_three HC.out.1.2.1))
  have hZ := cpb_fill HC.out.1 (.string ⟨#[]⟩) (.int .i64 0) (.slice none 0 0)
  obtain ⟨z0, z1, z2, _⟩ := arr_three hZ.1
  refine bodyPost_ret (v := .tuple #[.agg #[.string ⟨#[]⟩, .int .i64 0, .slice none 0 0], .iface 102 (.pointer (some ax))]) (by simp [results, Tryd.results25, go_sem, z0, z1, z2]) rfl ⟨rfl, hZ.2⟩
set_option maxRecDepth 100000 in
set_option maxHeartbeats 400000 in
theorem ver_chg_ok (d : ByteArray) (n : Int) (ps : List PrL) (p : Option Addr) (c B0 : Nat) (id : Int) (a0 a1 a2 a3 : Addr) (w : World) (hd : d.size ≤ 1048576) (hl : ps.length ≤ 1048576) (hw : ∀ x ∈ ps, x.d.size ≤ 1048576 ∧ x.k.size ≤ 1048576) (hO : OwnC prC w B0 43 4 (.slice p ps.length c) ps) (hm : MaxL w) (hE : ErrsAt w a0 a1 a2 a3) (kb : Nat) (good : Bool) (hkb : w.cell? ⟨kb, 0, none⟩ = some (.bool good)) (h1 : dbB d n ps = true) (K : Nat) (h2 : atK id ps = some K) (y : PrL)
    (hcl : ∀ g m c (W : World), OwnC prC W (w.heap.size + 2) 43 4 (.slice (some ⟨g, 0, none⟩) m c) ps → ErrsAt W a0 a1 a2 a3 → W.cell? ⟨kb, 0, none⟩ = some (.bool good) → kb ≠ g → Calls Tryd.prog 29 #[.pointer (some ⟨g, K * 4, none⟩), .pointer (some ⟨kb, 0, none⟩)] W fun e W' => e = .returned .nilIface ∧ OwnC prC W' (w.heap.size + 2) 43 4 (.slice (some ⟨g, 0, none⟩) m c) (ps.set K y) ∧ Keep g W W' ∧ Below g W W') :
    Calls Tryd.prog 25 #[dbV d n p ps.length c, .int .i64 id, .func (.func 29) #[] #[.pointer (some ⟨kb, 0, none⟩)]] w fun e w' => (∃ q k, e = .returned (.tuple #[dbV d n q ps.length k, .nilIface]) ∧ OwnC prC w' w.heap.size 43 4 (.slice q ps.length k) (ps.set K y)) ∧ Below w.heap.size w w' := by
  have i1 := fun W hR hm => impl_dbright d n ps p c W (by unfold maxLen; omega) hl (fun x hx => by have := hw x hx; unfold maxLen; omega) hR hm
  have i2 := fun W hR => impl_peerat ps p c id W hl hR
  have HR := Lib.hid (fun W (h : Below w.heap.size w W) => row_own (hO.on h))
  have HO := Lib.hid (fun W (h : Below w.heap.size w W) => hO.on h)
  have HM := Lib.hid (fun W (h : Below w.heap.size w W) => hm.below h hm.pos)
  have HE := Lib.hid (fun W (h : Below w.heap.size w W) => (hE.below h).1)
  have HEE := Lib.hid (fun W (h : Below w.heap.size w W) => hE.below h)
  have hgl := errs_lt hE
  have q0 : ¬ (w.heap.size + 1 = 3) := by omega
  have q1 : ¬ (3 = w.heap.size + 1) := by omega
  have q2 : ¬ (w.heap.size + 1 = 0) := by omega
  have q3 : ¬ (0 = w.heap.size + 1) := by omega
  rw [h1] at i1
  rw [atI_some h2] at i2
  have i3 := fun W h => impl_dbcopy d n ps p c B0 W (by omega) hl (fun x hx => by have := hw x hx; omega) h
  obtain ⟨hK, _⟩ := atK_lt h2
  have hkl : kb < w.heap.size := block_lt_of_cell hkb
  have HK := Lib.hid (fun W (h : Below w.heap.size w W) => (h.cell (p := ⟨kb, 0, none⟩) hkl).trans hkb)
  obtain ⟨N, hN⟩ : ∃ N, ps.length = N := ⟨_, rfl⟩
  have HN := Lib.hid hN
  rw [hN] at i1 i2 i3 HO hK hl ⊢
  have HS := Lib.hid (cpb_start w d n (.slice p N c))
  clear hO hm hE h1 h2 hw hd hN hkb
  have hKi : ¬ ((K : Int) < 0) := by omega
  unfold dbV at i1 i3 ⊢
  go_enter Tryd.func25, Tryd.ntmps25
  go_wp2_with (first | (go_at_call 18; go_fit (i1 _ (HR.out _ HS.out.2.2) (HM.out _ HS.out.2.2)); rintro e w1 ⟨rfl, hb⟩; have HS1 := Lib.hid (HS.out.on hb); clear hb; obtain ⟨v0, v1, v2, v3⟩ := HE.out _ HS1.out.2.2; obtain ⟨c0, c1, c2, f0, f1, f2⟩ := arr_three HS1.out.1; obtain ⟨d0, d1, d2, g0, g1, g2⟩ := arr_three HS1.out.2.1) | (go_at_call 34; go_fit (i2 _ (HR.out _ HS1.out.2.2)); rintro e w2 ⟨rfl, hb⟩; have HS2 := Lib.hid (HS1.out.on hb); clear hb; obtain ⟨v0, v1, v2, v3⟩ := HE.out _ HS2.out.2.2; obtain ⟨c0, c1, c2, f0, f1, f2⟩ := arr_three HS2.out.1; obtain ⟨d0, d1, d2, g0, g1, g2⟩ := arr_three HS2.out.2.1) | (go_at_call 39; go_fit (i3 _ (HO.out _ HS2.out.2.2)); rintro e w3 ⟨⟨q, k, rfl, hv⟩, hb⟩; have hlt3 := Nat.lt_of_lt_of_le (arr_lt HS2.out.2.1) hb.size; have hbx := HS2.out.2.2.trans (hb.mono HS2.out.2.2.size); have HC := Lib.hid (nwc_start (d2 := d) (n2 := n) (HS2.out.on hb) (hv.mono (B' := w.heap.size + 2) (by have := arr_lt HS2.out.2.1; omega))); obtain ⟨g, hq⟩ := own_some hv (by rw [HN.out]; omega); subst hq; have hgB := own_base HC.out.2.2.1 g rfl; have hgl3 := own_lt hv g rfl; clear hb hv; obtain ⟨u0, u1, u2, t0, t1, t2⟩ := arr_three HC.out.1.2.1) | (go_at_call 29; go_fit (hcl g N k _ HC.out.2.2.1 (HEE.out _ HC.out.1.2.2) (HK.out _ HC.out.1.2.2) (by omega)); rintro e w4 ⟨rfl, ho, hkp, hbl⟩; have HC4 := Lib.hid (HC.out.chg hkp hbl ho); clear ho hkp hbl u0 u1 u2 t0 t1 t2; obtain ⟨x0, x1, x2, y0, y1, y2⟩ := arr_three HC4.out.2.1; obtain ⟨u0, u1, u2, t0, t1, t2⟩ := arr_three HC4.out.1.2.1))
  have hZ := cpb_fill HC4.out.1 (.string d) (.int .i64 n) (.slice (some ⟨g, 0, none⟩) N k)
  obtain ⟨z0, z1, z2, _⟩ := arr_three hZ.1
  refine bodyPost_ret (v := .tuple #[.agg #[.string d, .int .i64 n, .slice (some ⟨g, 0, none⟩) N k], .nilIface]) (by simp [results, Tryd.results25, go_sem, z0, z1, z2]) rfl ⟨⟨_, k, rfl, ?_⟩, hZ.2⟩
  exact (((HC4.out.2.2.1.low (a := ⟨w.heap.size + 1, 0, none⟩) (by show w.heap.size + 1 < w.heap.size + 2; omega) _).low (a := ⟨w.heap.size + 1, 1, none⟩) (by show w.heap.size + 1 < w.heap.size + 2; omega) _).low (a := ⟨w.heap.size + 1, 2, none⟩) (by show w.heap.size + 1 < w.heap.size + 2; omega) _).mono (by omega)
end Go.Proofs.YtkjkfcljejjpbaaDoor
