/- The changes that impl.DbResult and impl.DbVerified hand to impl.withChangedPeer. -/
import Derived.Test.YtkjkfcljejjpbaaDoorDbNew
import Derived.Test.YtkjkfcljejjpbaaDoorRowMk
namespace Go.Proofs.YtkjkfcljejjpbaaDoor
set_option linter.unusedSimpArgs false
set_option linter.unusedVariables false
open Go.RowKit Go.Joins

theorem own_cells {W : World} {B g m c K : Nat} {ps : List PrL} (hO : OwnC prC W B 43 4 (.slice (some ⟨g, 0, none⟩) m c) ps) (hK : K < ps.length) :
    (W.cell? ⟨g, K * 4, none⟩ = some (.string ps[K].d) ∧ W.cell? ⟨g, K * 4 + 1, none⟩ = some (.int .i64 ps[K].i) ∧ W.cell? ⟨g, K * 4 + 2, none⟩ = some (.int .i64 ps[K].s) ∧ W.cell? ⟨g, K * 4 + 3, none⟩ = some (.string ps[K].k)) ∧ W.frozen? ⟨g, K * 4 + 2, none⟩ = false ∧ W.frozen? ⟨g, K * 4 + 3, none⟩ = false :=
  ⟨⟨OwnC.cell prC_len hO K 0 hK (by decide), OwnC.cell prC_len hO K 1 hK (by decide), OwnC.cell prC_len hO K 2 hK (by decide), OwnC.cell prC_len hO K 3 hK (by decide)⟩, (own_at hO hK (by decide : 2 < 4)).2, (own_at hO hK (by decide : 3 < 4)).2⟩
def prS (x : PrL) (s : Int) : PrL := ⟨x.d, x.i, s, x.k⟩
def prK (x : PrL) (s : Int) (k : ByteArray) : PrL := ⟨x.d, x.i, s, k⟩
theorem Keep.trans {g : Nat} {a b c : World} (h : Keep g a b) (k : Keep g b c) : Keep g a c := ⟨Nat.le_trans h.1 k.1, fun i hi hne => (k.2 i (Nat.lt_of_lt_of_le hi h.1) hne).trans (h.2 i hi hne)⟩
set_option maxRecDepth 100000 in
set_option maxHeartbeats 400000 in
theorem res_empty (g K m c B : Nat) (ps : List PrL) (hK : K < ps.length) (a0 a1 a2 a3 : Addr) (W : World) (hO : OwnC prC W B 43 4 (.slice (some ⟨g, 0, none⟩) m c) ps) (hE : ErrsAt W a0 a1 a2 a3) (kb : Nat) (key : ByteArray) (hkb : W.cell? ⟨kb, 0, none⟩ = some (.string key)) (h : key.size = 0) :
    Calls Tryd.prog 26 #[.pointer (some ⟨g, K * 4, none⟩), .pointer (some ⟨kb, 0, none⟩)] W fun e W' => e = .returned (.iface 102 (.pointer (some a0))) ∧ W' = W := by
  obtain ⟨⟨h0, h1, h2, h3⟩, _⟩ := hE
  obtain ⟨⟨c0, c1, c2, c3⟩, f2, f3⟩ := own_cells hO hK
  obtain ⟨x, hx⟩ : ∃ x, ps[K] = x := ⟨_, rfl⟩
  rw [hx] at c0 c1 c2 c3
  obtain ⟨n1, e1⟩ := empty_of h
  clear hx hO
  go_enter Tryd.func26, Tryd.ntmps26
  go_wp2
  go_ret
  exact ⟨rfl, rfl⟩
set_option maxRecDepth 100000 in
set_option maxHeartbeats 400000 in
theorem res_long (g K m c B : Nat) (ps : List PrL) (hK : K < ps.length) (a0 a1 a2 a3 : Addr) (W : World) (hO : OwnC prC W B 43 4 (.slice (some ⟨g, 0, none⟩) m c) ps) (hE : ErrsAt W a0 a1 a2 a3) (kb : Nat) (key : ByteArray) (hkb : W.cell? ⟨kb, 0, none⟩ = some (.string key)) (h9 : 64 < key.size) (hks : key.size ≤ 20000) :
    Calls Tryd.prog 26 #[.pointer (some ⟨g, K * 4, none⟩), .pointer (some ⟨kb, 0, none⟩)] W fun e W' => e = .returned (.iface 102 (.pointer (some a0))) ∧ W' = W := by
  obtain ⟨⟨h0, h1, h2, h3⟩, _⟩ := hE
  obtain ⟨⟨c0, c1, c2, c3⟩, f2, f3⟩ := own_cells hO hK
  obtain ⟨x, hx⟩ : ∃ x, ps[K] = x := ⟨_, rfl⟩
  rw [hx] at c0 c1 c2 c3
  have h : 0 < key.size := by omega
  have n1 := ne_nil h
  have e1 := not_empty h
  have h9 : (64 : Int) < key.size := by omega
  clear hx hO
  go_enter Tryd.func26, Tryd.ntmps26
  go_wp2
  go_ret
  exact ⟨rfl, rfl⟩
set_option maxRecDepth 100000 in
set_option maxHeartbeats 400000 in
theorem res_state (g K m c B : Nat) (ps : List PrL) (hK : K < ps.length) (a0 a1 a2 a3 : Addr) (W : World) (hO : OwnC prC W B 43 4 (.slice (some ⟨g, 0, none⟩) m c) ps) (hE : ErrsAt W a0 a1 a2 a3) (kb : Nat) (key : ByteArray) (hkb : W.cell? ⟨kb, 0, none⟩ = some (.string key)) (h : 0 < key.size) (h9 : key.size ≤ 64) (hs : ps[K].s ≠ 0) :
    Calls Tryd.prog 26 #[.pointer (some ⟨g, K * 4, none⟩), .pointer (some ⟨kb, 0, none⟩)] W fun e W' => e = .returned (.iface 102 (.pointer (some a3))) ∧ W' = W := by
  obtain ⟨⟨h0, h1, h2, h3⟩, _⟩ := hE
  obtain ⟨⟨c0, c1, c2, c3⟩, f2, f3⟩ := own_cells hO hK
  obtain ⟨x, hx⟩ : ∃ x, ps[K] = x := ⟨_, rfl⟩
  rw [hx] at c0 c1 c2 c3 hs
  have n1 := ne_nil h
  have e1 := not_empty h
  have h9 : ¬ (64 : Int) < key.size := by omega
  have hsb : (x.s == 0) = false := by rw [beq_eq_false_iff_ne]; exact hs
  clear hx hO
  go_enter Tryd.func26, Tryd.ntmps26
  go_wp2
  go_ret
  exact ⟨rfl, rfl⟩
set_option maxRecDepth 100000 in
set_option maxHeartbeats 400000 in
theorem ver_state (g K m c B : Nat) (ps : List PrL) (hK : K < ps.length) (a0 a1 a2 a3 : Addr) (W : World) (hO : OwnC prC W B 43 4 (.slice (some ⟨g, 0, none⟩) m c) ps) (hE : ErrsAt W a0 a1 a2 a3) (kb : Nat) (good : Bool) (hkb : W.cell? ⟨kb, 0, none⟩ = some (.bool good)) (hs : ps[K].s ≠ 1) :
    Calls Tryd.prog 29 #[.pointer (some ⟨g, K * 4, none⟩), .pointer (some ⟨kb, 0, none⟩)] W fun e W' => e = .returned (.iface 102 (.pointer (some a3))) ∧ W' = W := by
  obtain ⟨⟨h0, h1, h2, h3⟩, _⟩ := hE
  obtain ⟨⟨c0, c1, c2, c3⟩, f2, f3⟩ := own_cells hO hK
  obtain ⟨x, hx⟩ : ∃ x, ps[K] = x := ⟨_, rfl⟩
  rw [hx] at c0 c1 c2 c3 hs
  have hsb : (x.s == 1) = false := by rw [beq_eq_false_iff_ne]; exact hs
  clear hx hO
  go_enter Tryd.func29, Tryd.ntmps29
  go_wp2
  go_ret
  exact ⟨rfl, rfl⟩
set_option maxRecDepth 100000 in
set_option maxHeartbeats 400000 in
theorem ver_ok (g K m c B : Nat) (ps : List PrL) (hK : K < ps.length) (a0 a1 a2 a3 : Addr) (W : World) (hO : OwnC prC W B 43 4 (.slice (some ⟨g, 0, none⟩) m c) ps) (hE : ErrsAt W a0 a1 a2 a3) (kb : Nat) (good : Bool) (hkb : W.cell? ⟨kb, 0, none⟩ = some (.bool good)) (hne : kb ≠ g) (hs : ps[K].s = 1) :
    Calls Tryd.prog 29 #[.pointer (some ⟨g, K * 4, none⟩), .pointer (some ⟨kb, 0, none⟩)] W fun e W' => e = .returned .nilIface ∧ OwnC prC W' B 43 4 (.slice (some ⟨g, 0, none⟩) m c) (ps.set K (prS ps[K] (if good then 2 else 3))) ∧ Keep g W W' ∧ Below g W W' := by
  have HO3 : Hid (OwnC prC (W.setCell ⟨g, K * 4 + 2, none⟩ (.int .i64 3)) B 43 4 (.slice (some ⟨g, 0, none⟩) m c) (ps.set K (prS ps[K] 3))) := Lib.hid (OwnC.set prC_len hO K 2 hK (by decide) rfl)
  have HO2 : Hid (OwnC prC ((W.setCell ⟨g, K * 4 + 2, none⟩ (.int .i64 3)).setCell ⟨g, K * 4 + 2, none⟩ (.int .i64 2)) B 43 4 (.slice (some ⟨g, 0, none⟩) m c) (ps.set K (prS ps[K] 2))) := Lib.hid (by
    have h := OwnC.set prC_len HO3.out K 2 (by simpa using hK) (by decide) (u := .int .i64 2) (y := prS ps[K] 2) (by rw [List.getElem_set_self]; rfl)
    rw [List.set_set] at h
    exact h)
  obtain ⟨⟨c0, c1, c2, c3⟩, f2, f3⟩ := own_cells hO hK
  obtain ⟨x, hx⟩ : ∃ x, ps[K] = x := ⟨_, rfl⟩
  rw [hx] at c0 c1 c2 c3 hs HO3 HO2 ⊢
  have q1 : ¬ (g = kb) := fun e => hne e.symm
  have q2 : ¬ (kb = g) := hne
  clear hx hO hE
  cases good
  · go_enter Tryd.func29, Tryd.ntmps29
    go_wp2
    go_ret
    exact ⟨rfl, HO3.out, (Keep.refl g W).put _ _, (Below.refl g W).setCell (p := ⟨g, _, none⟩) (Nat.le_refl _) _⟩
  · go_enter Tryd.func29, Tryd.ntmps29
    go_wp2
    go_ret
    exact ⟨rfl, HO2.out, ((Keep.refl g W).put _ _).put _ _, ((Below.refl g W).setCell (p := ⟨g, _, none⟩) (Nat.le_refl _) _).setCell (p := ⟨g, _, none⟩) (Nat.le_refl _) _⟩
set_option maxRecDepth 100000 in
set_option maxHeartbeats 400000 in
theorem res_ok (g K m c B : Nat) (ps : List PrL) (hK : K < ps.length) (a0 a1 a2 a3 : Addr) (W : World) (hO : OwnC prC W B 43 4 (.slice (some ⟨g, 0, none⟩) m c) ps) (hE : ErrsAt W a0 a1 a2 a3) (kb : Nat) (key : ByteArray) (hkb : W.cell? ⟨kb, 0, none⟩ = some (.string key)) (hne : kb ≠ g) (h : 0 < key.size) (h9 : key.size ≤ 64) (hs : ps[K].s = 0) :
    Calls Tryd.prog 26 #[.pointer (some ⟨g, K * 4, none⟩), .pointer (some ⟨kb, 0, none⟩)] W fun e W' => e = .returned .nilIface ∧ OwnC prC W' B 43 4 (.slice (some ⟨g, 0, none⟩) m c) (ps.set K (prK ps[K] 1 key)) ∧ Keep g W W' ∧ Below g W W' := by
  have HO1 : Hid (OwnC prC (W.setCell ⟨g, K * 4 + 2, none⟩ (.int .i64 1)) B 43 4 (.slice (some ⟨g, 0, none⟩) m c) (ps.set K (prS ps[K] 1))) := Lib.hid (OwnC.set prC_len hO K 2 hK (by decide) rfl)
  have i1 := joined_same key (W.setCell ⟨g, K * 4 + 2, none⟩ (.int .i64 1)) (by omega)
  have hsz : (W.setCell ⟨g, K * 4 + 2, none⟩ (.int .i64 1)).heap.size = W.heap.size := by simp [World.setCell]
  rw [hsz] at i1
  have n1 := ne_nil h
  have e1 := not_empty h
  have h9 : ¬ (64 : Int) < key.size := by omega
  have hlt : g < W.heap.size := own_lt hO g rfl
  obtain ⟨⟨c0, c1, c2, c3⟩, f2, f3⟩ := own_cells hO hK
  have q1 : ¬ (g = kb) := fun e => hne e.symm
  have q2 : ¬ (kb = g) := hne
  have hK2 : K < (ps.set K (prS ps[K] 1)).length := by simpa using hK
  clear hE
  obtain ⟨x, hx⟩ : ∃ x, ps[K] = x := ⟨_, rfl⟩
  have HX := Lib.hid hx
  rw [hx] at c0 c1 c2 c3 hs HO1 hK2 ⊢
  clear hO hx hsz
  go_enter Tryd.func26, Tryd.ntmps26
  go_wp2_with (go_at_call 27; go_fit i1; rintro e w1 ⟨rfl, hb⟩; have HO4 := Lib.hid (HO1.out.on (hb.mono (by simp [World.setCell]))); have HKp : Hid (Keep g W w1) := Lib.hid (((Keep.refl g W).put _ _).on (hb.mono (by simp [World.setCell]))); have HBp : Hid (Below g W w1) := Lib.hid (((Below.refl g W).setCell (p := ⟨g, K * 4 + 2, none⟩) (Nat.le_refl _) _).trans (hb.mono (by omega))); clear hb; obtain ⟨⟨p0, p1, p2, p3⟩, p4, p5⟩ := own_cells HO4.out hK2)
  go_ret
  refine ⟨rfl, ?_, HKp.out.put _ _, HBp.out.setCell (p := ⟨g, _, none⟩) (Nat.le_refl _) _⟩
  have h := OwnC.set prC_len HO4.out K 3 hK2 (by decide) (u := .string key) (y := prK x 1 key) (by rw [List.getElem_set_self]; rfl)
  rw [List.set_set] at h
  exact h
end Go.Proofs.YtkjkfcljejjpbaaDoor
