/- The small functions of the laws on dialbacks: sizes, copies, comparison. -/
import Derived.Test.YtpbogdfgomfpjaaDoorDbFrame
import Derived.Test.YtpbogdfgomfpjaaDoorArPeer
import Derived.Test.YtpbogdfgomfpjaaDoorEqPeer
import Derived.Test.YtpbogdfgomfpjaaDoorJidCells
import Derived.Laws.Rows
namespace Go.Proofs.YtpbogdfgomfpjaaDoor
set_option linter.unusedSimpArgs false
set_option linter.unusedVariables false
open Go.RowKit

theorem box3 {w w1 : World} {a b c : Value} {t : Nat} (h : Below (w.alloc (.cells #[a, b, c] t)).heap.size (w.alloc (.cells #[a, b, c] t)) w1) : Arr w1 w.heap.size t [a, b, c] ∧ Below w.heap.size w w1 :=
  ⟨(h.block w.heap.size (by simp)).trans (Arr.fresh w t [a, b, c]), ((Below.refl _ _).alloc (Nat.le_refl _) _).trans (h.mono (by simp))⟩
theorem arr_beside {w : World} {b t : Nat} {cs : List Value} (h : Arr w b t cs) (g i : Nat) (u : Value) (hne : b ≠ g) : Arr (w.setCell ⟨g, i, none⟩ u) b t cs := (heap_setCell_other w ⟨g, i, none⟩ b u hne).trans h
theorem three_box {w w1 : World} {A : Obj} {cs ds : List Value} {t : Nat} (h : Below (((w.alloc A).alloc (.cells cs.toArray t)).alloc (.cells ds.toArray t)).heap.size (((w.alloc A).alloc (.cells cs.toArray t)).alloc (.cells ds.toArray t)) w1) :
    Arr w1 (w.heap.size + 1) t cs ∧ Arr w1 (w.heap.size + 1 + 1) t ds ∧ Below w.heap.size w w1 := by
  have h1 := Arr.fresh (w.alloc A) t cs
  have h2 := Arr.fresh ((w.alloc A).alloc (.cells cs.toArray t)) t ds
  rw [World.size_alloc] at h1
  rw [World.size_alloc, World.size_alloc] at h2
  exact ⟨(h.block _ (by simp)).trans (arr_alloc h1 _), (h.block _ (by simp)).trans h2, ((((Below.refl _ _).alloc (Nat.le_refl _) _).alloc (by simp) _).alloc (by simp; omega) _).trans (h.mono (by simp; omega))⟩
theorem sz_wf {ps : List PrL} (h : ∀ p ∈ ps, p.wf) : ∀ p ∈ ps, Sz_pr p := fun p hp => by
  obtain ⟨h1, _, _, h2⟩ := h p hp
  unfold maxLen at h1 h2
  exact ⟨by omega, by omega⟩
set_option maxHeartbeats 1000000 in
theorem sz_db (d : ByteArray) (n : Int) (a : Option Addr) (len cap : Nat) (ps : List PrL) (w : World) (h : DbArg w d n a len ps) :
    Calls Tryd.prog 31 #[dbV d n a len cap, .int .i64 1048576] w fun e w' => (∃ z, e = .returned (.int .i64 z) ∧ (z = -1 ∨ 0 ≤ z ∧ d.size ≤ 1048576 ∧ len ≤ 1048576 ∧ ∀ x ∈ ps, Le_pr 1048576 x)) ∧ Below w.heap.size w w' := by
  obtain ⟨hd, hn, hl, hm, hw, hR⟩ := h
  have hm' : ps.length ≤ 9223372036854775807 := by unfold maxLen at hm; omega
  have i1 := fun left W l0 l1 hR => szs_pr ps a cap left W hm' (sz_wf hw) l0 l1 hR
  rw [hl] at i1
  have HR := Lib.hid (fun W (hb : Below w.heap.size w W) => hR.below hb)
  unfold maxLen at hd
  clear hR hw hm hn hl hm'
  unfold dbV
  by_cases hbig : (1048576 : Int) < d.size
  · go_enter Tryd.func31, Tryd.ntmps31
    go_wp2
    go_ret
    exact ⟨⟨_, rfl, .inl rfl⟩, (Below.refl _ _).alloc (Nat.le_refl _) _⟩
  · go_enter Tryd.func31, Tryd.ntmps31
    go_wp2_with (go_at_call 64; go_fit (i1 _ _ (by omega) (by omega) (HR.out _ ((Below.refl _ _).alloc (Nat.le_refl _) _))); rintro e w1 ⟨⟨z, rfl, hz⟩, hb⟩; have HZ := Lib.hid hz; have hzz : -1 ≤ z ∧ z ≤ 1048576 := (by omega); clear hz)
    all_goals
      go_ret
      have hz := HZ.out
      first
        | exact ⟨⟨_, rfl, .inl rfl⟩, (box3 hb).2⟩
        | (refine ⟨⟨_, rfl, ?_⟩, (box3 hb).2⟩
           rcases hz with h1 | ⟨h1, h2, h3, h4⟩
           · exact .inl h1
           · exact .inr ⟨h1, by omega, by omega, fun x hx => by have := h4 x hx; unfold Le_pr at this ⊢; omega⟩)
set_option maxRecDepth 100000 in
set_option maxHeartbeats 1000000 in
theorem to_db (d : ByteArray) (n : Int) (a : Option Addr) (len cap : Nat) (ps : List PrL) (w : World) (hl : ps.length = len) (hm : len ≤ 1048576) (hR : RowA prC 4 w a ps) :
    Calls Tryd.prog 32 #[dbV d n a len cap] w fun e w' => (∃ p c, e = .returned (dbV d n p ps.length c) ∧ OwnC prC w' w.heap.size 50 4 (.slice p ps.length c) ps) ∧ Below w.heap.size w w' := by
  subst hl
  have i1 := fun W hR => tos_pr ps a cap W hm hR
  have HR := Lib.hid (fun W (hb : Below w.heap.size w W) => hR.below hb)
  clear hR
  unfold dbV
  go_enter Tryd.func32, Tryd.ntmps32
  go_wp2_with (go_at_call 65; go_fit (i1 _ (HR.out _ ((((Below.refl _ _).alloc (Nat.le_refl _) _).alloc (by simp) _).alloc (by simp; omega) _))); rintro e w1 ⟨⟨v, rfl, hv⟩, hb⟩; obtain ⟨p, c, rfl, _⟩ := hv.row prC_len; have HT : Hid (Arr w1 (w.heap.size + 1) 32 [.string ⟨#[]⟩, .int .i64 0, .slice none 0 0] ∧ Arr w1 (w.heap.size + 1 + 1) 32 [.string d, .int .i64 n, .slice none 0 0] ∧ Below w.heap.size w w1) := Lib.hid (three_box hb); obtain ⟨c0, c1, c2, f0, f1, f2⟩ := arr_three HT.out.1; obtain ⟨d0, d1, d2, g0, g1, g2⟩ := arr_three HT.out.2.1; have HV : Hid (OwnC prC w1 (w.heap.size + 3) 50 4 (.slice p ps.length c) ps) := Lib.hid (by rw [World.size_alloc, World.size_alloc, World.size_alloc] at hv; exact hv); clear hb hv)
  have hl : ∀ {W : World} (b i : Nat) (u : Value), b < w.heap.size + 3 → OwnC prC W (w.heap.size + 3) 50 4 (.slice p ps.length c) ps → OwnC prC (W.setCell ⟨b, i, none⟩ u) (w.heap.size + 3) 50 4 (.slice p ps.length c) ps := fun b i u hb h => h.low (a := ⟨b, i, none⟩) hb u
  exact bodyPost_ret (v := dbV d n p ps.length c) (results_cell_row (P := Tryd.prog) Tryd.results32 _ _ (w.heap.size + 1) 32 _ (0, 0) _ rfl (((Arr.put (arr_beside HT.out.1 (w.heap.size + 1 + 1) 2 _ (by omega)) 0 _).put 1 _).put 2 _) Tryd.underlying32 rfl (by kernel_rfl)) rfl
    ⟨⟨p, c, rfl, (hl _ _ _ (by omega) (hl _ _ _ (by omega) (hl _ _ _ (by omega) (hl _ _ _ (by omega) HV.out)))).mono (by omega)⟩, (((HT.out.2.2.setCell (p := ⟨w.heap.size + 1 + 1, 2, none⟩) (by show w.heap.size ≤ w.heap.size + 1 + 1; omega) _).setCell (p := ⟨w.heap.size + 1, 0, none⟩) (Nat.le_succ _) _).setCell (p := ⟨w.heap.size + 1, 1, none⟩) (Nat.le_succ _) _).setCell (p := ⟨w.heap.size + 1, 2, none⟩) (Nat.le_succ _) _⟩
set_option maxHeartbeats 1000000 in
theorem eq_db (d : ByteArray) (n : Int) (ps : List PrL) (p q : Option Addr) (k l : Nat) (w : World) (hn : ps.length ≤ 2000000) (hp : RowC prC 4 w p ps) (hq : RowC prC 4 w q ps) :
    Calls Tryd.prog 34 #[dbV d n p ps.length k, dbV d n q ps.length l] w fun e w' => e = .returned (.bool true) ∧ Below w.heap.size w w' := by
  have i1 := fun W hp hq => eqs_pr ps p q k l W hn hp hq
  have HP := Lib.hid hp
  have HQ := Lib.hid hq
  clear hp hq
  unfold dbV
  go_enter Tryd.func34, Tryd.ntmps34
  go_wp2_with (go_at_call 66; go_fit (i1 _ (HP.out.on (((Below.refl _ _).alloc (Nat.le_refl _) _).alloc (by simp) _)) (HQ.out.on (((Below.refl _ _).alloc (Nat.le_refl _) _).alloc (by simp) _))); rintro e w1 ⟨rfl, hb⟩)
  go_ret
  exact ⟨rfl, (((Below.refl _ _).alloc (Nat.le_refl _) _).alloc (by simp) _).trans (hb.mono (by simp; omega))⟩
end Go.Proofs.YtpbogdfgomfpjaaDoor
