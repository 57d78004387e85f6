/- impl.Best, spec.l09Best, spec.Best. -/
import Derived.Test.YtkjkfcljejjpbaaSeBestM
namespace Go.Proofs.Ytkjkfcljejjpbaa
set_option linter.unusedSimpArgs false
set_option linter.unusedVariables false
open Go.RowKit Go.Joins

theorem str_flat : ∀ ps : List ByteArray, ps.flatMap strC = ps.map Value.string
  | [] => rfl
  | p :: ps => by rw [List.flatMap_cons, List.map_cons, str_flat ps]; rfl
theorem ownT_C {w : World} {B : Nat} {v : Value} {ps : List ByteArray} (h : OwnT w B v ps) : OwnC strC w B 9 1 v ps := by
  unfold OwnC
  rw [str_flat]
  exact h
/-- A row of strings, in memory of the call's own. -/
def StIs (B : Nat) (ps : List ByteArray) (e : Ending) (W : World) : Prop := ∃ p k, e = .returned (.slice p ps.length k) ∧ OwnC strC W B 9 1 (.slice p ps.length k) ps
theorem wpList_app_str9 {ops : Array Oper} {rest : List Oper} {o : Oper} {a : Act} {w : World} {Q : Exit → Act → World → Prop} (hgd : o.guard = none) (s x : Operand)
    (ho : o.op = Op.call { callee := Callee.builtin Builtin.append, args := #[s, x], argTypes := #[38, 38] })
    (B : Nat) (v : Value) (ps : List ByteArray) (hs : a.eval s = v) (hown : OwnT w B v ps) (g : Nat) (y : ByteArray) (hx : a.eval x = .slice (some ⟨g, 0, none⟩) 1 1)
    (hc : w.cell? ⟨g, 0, none⟩ = some (.string y)) (hmax : ps.length ≤ 2000000) (hB : B ≤ w.heap.size)
    (h : ∀ v' w', OwnT w' B v' (ps ++ [y]) → w.grownBy w' v.ownBlock → (∀ k, v.ownBlock = some k → B ≤ k ∧ k < w.heap.size) → wpList Try.prog ops Q rest (a.put o.dst v') w') : wpList Try.prog ops Q (o :: rest) a w :=
  wpList_plain hgd fun K hK => wp_app_str9 s x ho B v ps hs hown g y hx hc hmax hB (fun v' w' h1 h2 h3 => hK _ _ (h v' w' h1 h2 h3))
theorem ownT_shape {w : World} {B : Nat} {v : Value} {ps : List ByteArray} (h : OwnT w B v ps) : ∃ p k, v = .slice p ps.length k := by
  rcases h.2 with ⟨h0, h1⟩ | ⟨g, cap, cur, h1, _⟩
  · exact ⟨none, 0, by rw [h0, h1]⟩
  · exact ⟨_, _, h1⟩
set_option maxRecDepth 100000 in
set_option maxHeartbeats 4000000 in
theorem impl_best (xs : List SeL) (p0 : Option Addr) (c : Nat) (w : World) (hn : xs.length ≤ 1048576) (hw : ∀ x ∈ xs, x.r.size ≤ maxLen) (hw2 : ∀ x ∈ xs, x.r.size ≤ 1048576 ∧ x.s.size ≤ 1048576) (hR : RowC seC 4 w p0 xs) :
    Calls Try.prog 35 #[.slice p0 xs.length c] w fun e w' => StIs w.heap.size (bestR xs) e w' ∧ Below w.heap.size w w' := by
  have i1 := impl_seright xs p0 c w hn hw hR
  unfold bestR
  by_cases hk : okB xs = true
  rotate_left
  · rw [if_neg hk]
    rw [show okB xs = false by simpa using hk] at i1
    clear hk hw hw2 hR
    go_enter Try.func35, Try.ntmps35
    go_wp2_with (go_at_call 32; go_fit i1; rintro e w1 ⟨rfl, hb⟩)
    go_ret
    exact ⟨⟨none, 0, rfl, ownC_nil _ _ _ _ _⟩, hb⟩
  rw [if_pos hk]
  rw [hk] at i1
  have h5 := (okB_iff.1 hk).1
  have i2 := fun W h => impl_besttest xs p0 c W hn h
  obtain ⟨M, hM⟩ : ∃ M, mxA 0 xs = M := ⟨_, rfl⟩
  rw [hM] at i2 ⊢
  clear hM hk
  obtain ⟨n, hxn⟩ : ∃ n, xs.length = n := ⟨_, rfl⟩
  have HP := Lib.hid (fun W (h : Below w.heap.size w W) => hR.on h)
  have HW := Lib.hid hw2
  have HN := Lib.hid hxn
  rw [hxn] at hn i1 i2 h5 ⊢
  clear hR hw hw2 hxn
  go_enter Try.func35, Try.ntmps35
  go_wp2_with (first
    | (go_at_call 32; go_fit i1; rintro e w1 ⟨rfl, hb⟩; have HB1 := Lib.hid hb; clear hb)
    | (go_at_call 74; go_fit (i2 _ (HP.out _ HB1.out)); rintro e w2 ⟨rfl, hc2, hb⟩; have HB2 := Lib.hid (HB1.out.trans (hb.mono HB1.out.size)); have HC2 := Lib.hid hc2; have HZ1 := Lib.hid HB1.out.size; clear hb hc2))
  go_loopw [4, 13] (fun vq iq wr => ∃ (k : Nat) (v : Value), k ≤ n ∧ iq = .int .i64 k ∧ vq = v ∧ OwnT wr (w1.heap.size + 1) v (bestL M (xs.take k)) ∧ wr.cell? ⟨w1.heap.size, 0, none⟩ = some (.int .i64 M) ∧ Below w.heap.size w wr) (fun _ i _ => n - (intOf i).toNat)
  case atStart => exact ⟨0, _, Nat.zero_le _, rfl, rfl, World.ownsRow_nil _ _ _ _, HC2.out, HB2.out⟩
  case round =>
    obtain ⟨k, v, hk, rfl, hvv, hv, hcM, hb⟩ := hrel
    subst hvv
    have HV := Lib.hid hv
    have HB := Lib.hid hb
    have HCM := Lib.hid hcM
    have hlM : w1.heap.size < wr.heap.size := block_lt_of_cell hcM
    clear hv
    by_cases hlt : k < n
    · have hlt1 : k < xs.length := by rw [HN.out]; exact hlt
      obtain ⟨g, rfl, hg, a0, a1, a2, a3⟩ := row_se4 (HP.out _ hb) hlt1
      have hxw := HW.out _ (List.getElem_mem hlt1)
      have hps := best_succ M hlt1
      obtain ⟨x, hx⟩ : ∃ x, xs[k] = x := ⟨_, rfl⟩
      rw [hx] at a0 a1 a2 a3 hxw hps
      have i3 := fun W hc => clo_best x w1.heap.size M W hc
      unfold seV at i3
      have i4 := fun W b hb => joined_at9 x.r W (by omega) b hb
      obtain ⟨b1, h1⟩ : ∃ b, (x.o && x.p == M) = b := ⟨_, rfl⟩
      rw [h1] at i3 hps
      have HPS := Lib.hid hps
      have HL : Hid ((bestL M (xs.take k)).length ≤ 1000000) := Lib.hid (by have := best_len M (xs.take k); rw [List.length_take] at this; omega)
      clear hb hx hps h1 hcM
      cases b1
      · rw [if_neg (by decide)] at HPS
        go_wp2_with (go_at_call 95; go_fit (i3 _ HCM.out); rintro e w3 ⟨rfl, hb3⟩; have HB3 := Lib.hid (HB.out.trans (hb3.mono HB.out.size)); have HV3 := Lib.hid (own_on9 HV.out hb3); have HC3 := Lib.hid ((hb3.cell (p := ⟨w1.heap.size, 0, none⟩) hlM).trans HCM.out); clear hb3)
        go_roundw
        case rel => exact ⟨k + 1, _, by omega, by go_num, rfl, by rw [HPS.out]; exact HV3.out, HC3.out, HB3.out⟩
        case measure => simp [intOf]; omega
      · rw [if_pos rfl] at HPS
        go_wp2_with (first
          | (go_at_call 95; go_fit (i3 _ HCM.out); rintro e w3 ⟨rfl, hb3⟩; have c0 := (hb3.cell (p := ⟨g, k * 4, none⟩) hg).trans a0; have HB3 := Lib.hid (HB.out.trans (hb3.mono HB.out.size)); have HV3 := Lib.hid (own_on9 HV.out hb3); have HC3 := Lib.hid ((hb3.cell (p := ⟨w1.heap.size, 0, none⟩) hlM).trans HCM.out); have hlM3 : w1.heap.size < w3.heap.size := Nat.lt_of_lt_of_le hlM hb3.size; clear hb3)
          | (go_at_call 58; have _ := HV3; go_fit (i4 w3 w3.heap.size rfl); rintro e w4 ⟨rfl, hb4⟩; have HB4 := Lib.hid (HB3.out.trans (hb4.mono HB3.out.size)); have HV4 : Hid (OwnT (w4.alloc (.cells #[.string x.r] 9)) (w1.heap.size + 1) u4 (bestL M (xs.take k))) := Lib.hid (World.ownsRow.alloc (own_on9 HV3.out hb4) _); have HC4 := Lib.hid ((Below.cell ((Below.refl w4.heap.size w4).alloc (Nat.le_refl _) (.cells #[.string x.r] 9)) (p := ⟨w1.heap.size, 0, none⟩) (Nat.lt_of_lt_of_le hlM3 hb4.size)).trans ((hb4.cell (p := ⟨w1.heap.size, 0, none⟩) hlM3).trans HC3.out)); have hlM4 : w1.heap.size < w4.heap.size := Nat.lt_of_lt_of_le hlM3 hb4.size; clear hb4)
          | (at_builtin; have _ := HV4; refine wpList_app_str9 rfl _ _ rfl (w1.heap.size + 1) u4 (bestL M (xs.take k)) rfl HV4.out w4.heap.size x.r rfl ((Arr.fresh w4 9 [.string x.r]).cell 0) (by have := HL.out; omega) (by rw [World.size_alloc]; omega) ?_; intro v5 w5 hv5 hg5 hin5; have HV5 := Lib.hid hv5; have HG5 := Lib.hid hg5; have HI5 := Lib.hid hin5; clear hv5 hg5 hin5))
        go_roundw
        case rel => exact ⟨k + 1, _, by omega, by go_num, rfl, by rw [HPS.out]; exact HV5.out, (((Below.refl (w1.heap.size + 1) _).grown HG5.out (by rw [World.size_alloc]; omega) (fun q hq => (HI5.out q hq).1)).cell (p := ⟨w1.heap.size, 0, none⟩) (Nat.lt_succ_self _)).trans HC4.out, (HB4.out.alloc HB4.out.size _).grown HG5.out (HB4.out.alloc HB4.out.size _).size (fun q hq => by have := (HI5.out q hq).1; have := HZ1.out; omega)⟩
        case measure => simp [intOf]; omega
    · have HT : Hid (bestL M (xs.take k) = bestL M xs) := Lib.hid (by rw [List.take_of_length_le (by rw [HN.out]; omega)])
      have HVE := HV.out
      rw [HT.out] at HVE
      have HS := ownT_shape HVE
      obtain ⟨q, kq, rfl⟩ := HS
      have HVE2 := Lib.hid ((ownT_C HVE).mono (show w.heap.size ≤ w1.heap.size + 1 from Nat.le_succ_of_le HZ1.out))
      clear hb HVE HV
      go_wp2
      go_ret
      exact ⟨⟨q, kq, rfl, HVE2.out⟩, HB.out⟩
end Go.Proofs.Ytkjkfcljejjpbaa
