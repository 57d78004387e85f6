/- spec.l09Best, spec.Best. -/
import Derived.Test.YtkdljhmenejckaaSeBest
namespace Go.Proofs.Ytkdljhmenejckaa
set_option linter.unusedSimpArgs false
set_option linter.unusedVariables false
open Go.RowKit Go.Joins

/-- What is known of the priority that is kept, behind k sessions. -/
def BInv (xs : List SeL) (k : Nat) (m : Int) : Prop := 0 ≤ m ∧ (∀ x ∈ xs.take k, x.o = true → x.p ≤ m) ∧ (m = 0 ∨ ∃ x ∈ xs.take k, x.p = m)
theorem mem_succ {xs : List SeL} {k : Nat} (hk : k < xs.length) {x : SeL} (h : x ∈ xs.take (k + 1)) : x ∈ xs.take k ∨ x = xs[k] := by
  rw [List.take_succ_eq_append_getElem hk] at h
  rcases List.mem_append.1 h with h | h
  · exact .inl h
  · exact .inr (List.mem_singleton.1 h)
theorem mem_keep {xs : List SeL} {k : Nat} (hk : k < xs.length) {x : SeL} (h : x ∈ xs.take k) : x ∈ xs.take (k + 1) := by
  rw [List.take_succ_eq_append_getElem hk]
  exact List.mem_append_left _ h
theorem mem_last {xs : List SeL} {k : Nat} (hk : k < xs.length) : xs[k] ∈ xs.take (k + 1) := by
  rw [List.take_succ_eq_append_getElem hk]
  exact List.mem_append_right _ (List.mem_singleton.2 rfl)
theorem binv_skip {xs : List SeL} {k : Nat} {m : Int} (hk : k < xs.length) (h : BInv xs k m) (hx : xs[k].o = true → xs[k].p < m) : BInv xs (k + 1) m ∧ bestL m (xs.take (k + 1)) = bestL m (xs.take k) := by
  obtain ⟨h0, h1, h2⟩ := h
  refine ⟨⟨h0, fun x hm ho => ?_, ?_⟩, ?_⟩
  · rcases mem_succ hk hm with h | rfl
    · exact h1 x h ho
    · have := hx ho; omega
  · rcases h2 with h | ⟨x, hm, h⟩
    · exact .inl h
    · exact .inr ⟨x, mem_keep hk hm, h⟩
  · rw [best_succ m hk, if_neg]
    intro hc
    simp only [Bool.and_eq_true, beq_iff_eq] at hc
    have := hx hc.1
    omega
theorem binv_take {xs : List SeL} {k : Nat} {m : Int} (hk : k < xs.length) (h : BInv xs k m) (ho : xs[k].o = true) (hp : m ≤ xs[k].p) : BInv xs (k + 1) xs[k].p ∧ bestL xs[k].p (xs.take (k + 1)) = (if m < xs[k].p then [] else bestL m (xs.take k)) ++ [xs[k].r] := by
  obtain ⟨h0, h1, h2⟩ := h
  refine ⟨⟨by omega, fun x hm hx => ?_, .inr ⟨_, mem_last hk, rfl⟩⟩, ?_⟩
  · rcases mem_succ hk hm with h | rfl
    · have := h1 x h hx; omega
    · exact Int.le_refl _
  · rw [best_succ _ hk, if_pos (by rw [ho]; simp)]
    split
    · rename_i hlt
      rw [best_none (fun x hm hx => by have := h1 x hm hx; omega)]
    · rename_i hlt
      have he : xs[k].p = m := by omega
      rw [he]
theorem binv_end {xs : List SeL} {m : Int} (hok : okB xs = true) (h : BInv xs xs.length m) : m = mxA 0 xs := by
  obtain ⟨h0, h1, h2⟩ := h
  rw [List.take_length] at h1 h2
  exact mx_same (off_zero hok) h0 h1 h2
theorem empty_str9 (w : World) (B : Nat) (hB : B ≤ w.heap.size) : OwnT (w.alloc (.cells #[] 9)) B (.slice (some ⟨w.heap.size, 0, none⟩) 0 0) [] :=
  ownsRow_le (World.ownsRow_lit w #[] 0 (Nat.le_refl _) (Nat.zero_le _) rfl) hB
set_option maxRecDepth 100000 in
set_option maxHeartbeats 4000000 in
theorem spec_l09best (xs : List SeL) (p0 : Option Addr) (c : Nat) (w : World) (hok : okB xs = true) (hR : RowC seC 4 w p0 xs) :
    Calls Try.prog 79 #[.slice p0 xs.length c] w fun e w' => StIs w.heap.size (bestR xs) e w' ∧ Below w.heap.size w w' := by
  unfold bestR
  rw [if_pos hok]
  have hn := (okB_iff.1 hok).1
  have HE := Lib.hid (fun m (h : BInv xs xs.length m) => binv_end hok h)
  obtain ⟨n, hxn⟩ : ∃ n, xs.length = n := ⟨_, rfl⟩
  have HP := Lib.hid (fun W (h : Below w.heap.size w W) => hR.on h)
  have HN := Lib.hid hxn
  rw [hxn] at hn HE ⊢
  clear hR hxn hok
  go_enter Try.func79, Try.ntmps79
  go_wp2
  go_loopw [3, 4, 5] (fun mq vq iq wr => ∃ (k : Nat) (m : Int) (v : Value), k ≤ n ∧ iq = .int .i64 k ∧ mq = .int .i64 m ∧ vq = v ∧ BInv xs k m ∧ OwnT wr w.heap.size v (bestL m (xs.take k)) ∧ Below w.heap.size w wr) (fun _ _ i _ => n - (intOf i).toNat)
  case atStart => exact ⟨0, 0, _, Nat.zero_le _, rfl, rfl, rfl, ⟨Int.le_refl _, fun x hx => by simp at hx, .inl rfl⟩, empty_str9 w _ (Nat.le_refl _), (Below.refl _ _).alloc (Nat.le_refl _) _⟩
  case round =>
    obtain ⟨k, m, v, hk, rfl, rfl, hvv, hI, hv, hb⟩ := hrel
    subst hvv
    have HV := Lib.hid hv
    have HB := Lib.hid hb
    have HI := Lib.hid hI
    clear hv hI
    by_cases hlt : k < n
    · have hlt1 : k < xs.length := by rw [HN.out]; exact hlt
      obtain ⟨g, rfl, hg, a0, a1, a2, a3⟩ := row_se4 (HP.out _ hb) hlt1
      have hsk := binv_skip hlt1 HI.out
      have htk := binv_take hlt1 HI.out
      obtain ⟨x, hx⟩ : ∃ x, xs[k] = x := ⟨_, rfl⟩
      rw [hx] at a0 a1 a2 a3 hsk htk
      have HL : Hid ((bestL m (xs.take k)).length ≤ 1000000) := Lib.hid (by have := best_len m (xs.take k); rw [List.length_take] at this; omega)
      clear hb hx
      obtain ⟨bo, hbo⟩ : ∃ b, x.o = b := ⟨_, rfl⟩
      rw [hbo] at a1 hsk htk
      obtain ⟨pr, hpr⟩ : ∃ b, x.p = b := ⟨_, rfl⟩
      rw [hpr] at a2 hsk htk
      clear hbo hpr
      cases bo
      · have HS := Lib.hid (hsk (by simp))
        clear hsk htk
        go_wp2
        go_roundw
        case rel => exact ⟨k + 1, m, _, by omega, by go_num, rfl, rfl, HS.out.1, by rw [HS.out.2]; exact HV.out, HB.out⟩
        case measure => simp [intOf]; omega
      · by_cases hq : pr < m
        · have HS := Lib.hid (hsk (fun _ => hq))
          clear hsk htk
          go_wp2
          go_roundw
          case rel => exact ⟨k + 1, m, _, by omega, by go_num, rfl, rfl, HS.out.1, by rw [HS.out.2]; exact HV.out, HB.out⟩
          case measure => simp [intOf]; omega
        · have HS := Lib.hid (htk rfl (by omega))
          clear hsk htk
          by_cases hq2 : m < pr
          · rw [if_pos hq2] at HS
            have HBa := Lib.hid (HB.out.alloc HB.out.size (.cells #[] 9))
            have HVa := Lib.hid (empty_str9 wr w.heap.size HB.out.size)
            have b0 := (((Below.refl wr.heap.size wr).alloc (Nat.le_refl _) (.cells #[] 9)).cell (p := ⟨g, k * 4, none⟩) hg).trans a0
            have b2 := (((Below.refl wr.heap.size wr).alloc (Nat.le_refl _) (.cells #[] 9)).cell (p := ⟨g, k * 4 + 2, none⟩) hg).trans a2
            go_wp2_with (first
              | (at_builtin; refine wpList_app_str9 rfl _ _ rfl w.heap.size _ [] rfl (World.ownsRow.alloc HVa.out _) (wr.heap.size + 1) x.r rfl (by have := (Arr.fresh (wr.alloc (.cells #[] 9)) 9 [.string x.r]).cell 0; rw [World.size_alloc] at this; exact this) (by simp) (by rw [World.size_alloc]; have := HBa.out.size; omega) ?_; intro v5 w5 hv5 hg5 hin5; have HV5 := Lib.hid hv5; have HB5 := Lib.hid ((HBa.out.alloc HBa.out.size _).grown hg5 (HBa.out.alloc HBa.out.size _).size (fun q hq => (hin5 q hq).1)); clear hv5 hg5 hin5))
            go_roundw
            case rel => exact ⟨k + 1, pr, _, by omega, by go_num, rfl, rfl, HS.out.1, by rw [HS.out.2]; exact HV5.out, HB5.out⟩
            case measure => simp [intOf]; omega
          · rw [if_neg hq2] at HS
            go_wp2_with (first
              | (at_builtin; refine wpList_app_str9 rfl _ _ rfl w.heap.size _ (bestL m (xs.take k)) rfl (HV.out.alloc _) wr.heap.size x.r rfl ((Arr.fresh wr 9 [.string x.r]).cell 0) (by have := HL.out; first | omega | simp) (by rw [World.size_alloc]; have := HB.out.size; omega) ?_; intro v5 w5 hv5 hg5 hin5; have HV5 := Lib.hid hv5; have HB5 := Lib.hid ((HB.out.alloc HB.out.size _).grown hg5 (HB.out.alloc HB.out.size _).size (fun q hq => (hin5 q hq).1)); clear hv5 hg5 hin5))
            go_roundw
            case rel => exact ⟨k + 1, pr, _, by omega, by go_num, rfl, rfl, HS.out.1, by rw [HS.out.2]; exact HV5.out, HB5.out⟩
            case measure => simp [intOf]; omega
    · obtain rfl : k = n := by omega
      have hm := HE.out m HI.out
      subst hm
      have HT : Hid (bestL (mxA 0 xs) (xs.take k) = bestL (mxA 0 xs) xs) := Lib.hid (by rw [List.take_of_length_le (by rw [HN.out]; omega)])
      have HVE := HV.out
      rw [HT.out] at HVE
      obtain ⟨q, kq, rfl⟩ := ownT_shape HVE
      have HVE2 := Lib.hid (ownT_C HVE)
      clear hb HVE HV
      go_wp2
      go_ret
      exact ⟨⟨q, kq, rfl, HVE2.out⟩, HB.out⟩
set_option maxRecDepth 100000 in
set_option maxHeartbeats 4000000 in
theorem spec_best (xs : List SeL) (p0 : Option Addr) (c : Nat) (w : World) (hn : xs.length ≤ 1048576) (hw : ∀ x ∈ xs, x.r.size ≤ maxLen) (hR : RowC seC 4 w p0 xs) :
    Calls Try.prog 32 #[.slice p0 xs.length c] w fun e w' => StIs w.heap.size (bestR xs) e w' ∧ Below w.heap.size w w' := by
  have i1 := spec_seright xs p0 c w hn hw hR
  by_cases hk : okB xs = true
  rotate_left
  · unfold bestR
    rw [if_neg hk]
    rw [show okB xs = false by simpa using hk] at i1
    clear hk hw hR
    go_enter Try.func32, Try.ntmps32
    go_wp2_with (go_at_call 28; go_fit i1; rintro e w1 ⟨rfl, hb⟩)
    go_ret
    exact ⟨⟨_, _, rfl, ownT_C (empty_str9 w1 w.heap.size hb.size)⟩, hb.alloc hb.size _⟩
  rw [hk] at i1
  have i2 := fun W (h : Below w.heap.size w W) => spec_l09best xs p0 c W hk (hR.on h)
  clear hk hw hR
  go_enter Try.func32, Try.ntmps32
  go_wp2_with (first
    | (go_at_call 28; go_fit i1; rintro e w1 ⟨rfl, hb⟩; have HB := Lib.hid hb; clear hb)
    | (go_at_call 79; go_fit (i2 _ HB.out); rintro e w2 ⟨⟨q, kq, rfl, hv⟩, hb2⟩; have HV := Lib.hid (OwnC.mono hv HB.out.size); have HB2 := Lib.hid (HB.out.trans (hb2.mono HB.out.size)); clear hv hb2))
  go_ret
  exact ⟨⟨q, kq, rfl, HV.out⟩, HB2.out⟩
end Go.Proofs.Ytkdljhmenejckaa
