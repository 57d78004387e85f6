/- FnBest's walk. -/
import Derived.Test.YtkdljhmenejckaaSeDrawB
import Derived.Test.YtkdljhmenejckaaSeBestS
import Derived.Test.YtkdljhmenejckaaSeLw
import Derived.BigQuiet
import Derived.WalkSmall
namespace Go.Proofs.Ytkdljhmenejckaa
set_option linter.unusedSimpArgs false
set_option linter.unusedVariables false
open Go.RowKit Go.Joins

/-- The greatest priority of those that are on, or m. -/
def moA (m : Int) : List SeL → Int
  | [] => m
  | x :: l => moA (if (x.o && decide (m < x.p)) = true then x.p else m) l
theorem mo_ge : ∀ (l : List SeL) (m : Int), m ≤ moA m l
  | [], m => Int.le_refl _
  | x :: l, m => by
    have := mo_ge l (if (x.o && decide (m < x.p)) = true then x.p else m)
    show m ≤ moA (if (x.o && decide (m < x.p)) = true then x.p else m) l
    split at this <;> rename_i h
    · rw [if_pos h]
      simp only [Bool.and_eq_true, decide_eq_true_eq] at h
      omega
    · rw [if_neg h]; exact this
theorem mo_all : ∀ (l : List SeL) (m : Int), ∀ x ∈ l, x.o = true → x.p ≤ moA m l
  | x :: l, m, y, hy, ho => by
    show y.p ≤ moA (if (x.o && decide (m < x.p)) = true then x.p else m) l
    rcases List.mem_cons.1 hy with rfl | hy
    · have := mo_ge l (if (y.o && decide (m < y.p)) = true then y.p else m)
      by_cases h : m < y.p
      · rw [if_pos (by rw [ho, decide_eq_true h]; rfl)] at this ⊢; exact this
      · rw [if_neg (by rw [decide_eq_false h]; simp)] at this ⊢; omega
    · exact mo_all l _ y hy ho
theorem mo_is : ∀ (l : List SeL) (m : Int), moA m l = m ∨ ∃ x ∈ l, x.o = true ∧ x.p = moA m l
  | [], m => .inl rfl
  | x :: l, m => by
    show moA (if (x.o && decide (m < x.p)) = true then x.p else m) l = m ∨ ∃ y ∈ x :: l, y.o = true ∧ y.p = moA (if (x.o && decide (m < x.p)) = true then x.p else m) l
    rcases mo_is l (if (x.o && decide (m < x.p)) = true then x.p else m) with h | ⟨y, hy, h0, h⟩
    · by_cases hm : (x.o && decide (m < x.p)) = true
      · rw [if_pos hm] at h ⊢
        simp only [Bool.and_eq_true] at hm
        exact .inr ⟨x, List.mem_cons_self .., hm.1, h.symm⟩
      · rw [if_neg hm] at h ⊢
        exact .inl h
    · exact .inr ⟨y, List.mem_cons_of_mem _ hy, h0, h⟩
theorem best_most {xs : List SeL} (hok : okB xs = true) {x : SeL} (hx : x ∈ xs) : (x.o && x.p == mxA 0 xs) = (x.o && x.p == moA (-1) xs && decide (0 ≤ moA (-1) xs)) := by
  by_cases h0 : 0 ≤ moA (-1) xs
  · have e := mx_same (off_zero hok) h0 (fun y hy ho => mo_all xs (-1) y hy ho) (by
      rcases mo_is xs (-1) with h | ⟨y, hy, _, h⟩
      · omega
      · exact .inr ⟨y, hy, h⟩)
    rw [decide_eq_true h0, Bool.and_true, ← e]
  · rw [decide_eq_false h0, Bool.and_false]
    cases ho : x.o
    · rfl
    · have h1 := mo_all xs (-1) x hx ho
      have h2 := mx_ge xs 0
      rw [Bool.true_and]
      exact beq_eq_false_iff_ne.2 (by omega)
theorem inc_only {xs : List SeL} (h : IncR xs xs.length) {i j : Nat} (hi : i < xs.length) (hj : j < xs.length) (he : xs[i].r.toList = xs[j].r.toList) : i = j := by
  rcases Nat.lt_trichotomy i j with hl | rfl | hl
  · have := inc_all h j i hj hl
    rw [he, sl_self] at this
    cases this
  · rfl
  · have := inc_all h i j hi hl
    rw [he, sl_self] at this
    cases this
/-- Which resources are among those of the sessions that pass a test. -/
theorem sel_has {xs : List SeL} (hok : okB xs = true) (f : SeL → Bool) {i : Nat} (hi : i < xs.length) : hasB (selL f xs) xs[i].r = f xs[i] := by
  have hI := (okB_iff.1 hok).2.1
  unfold hasB selL
  cases hf : f xs[i]
  · rw [List.any_eq_false]
    intro t ht hte
    obtain ⟨x, hx, rfl⟩ := List.mem_map.1 ht
    obtain ⟨hx1, hx2⟩ := List.mem_filter.1 hx
    obtain ⟨j, hj, rfl⟩ := List.mem_iff_getElem.1 hx1
    have e := inc_only hI hj hi (by simpa using hte)
    subst e
    rw [hf] at hx2
    cases hx2
  · rw [List.any_eq_true]
    exact ⟨xs[i].r, List.mem_map.2 ⟨xs[i], List.mem_filter.2 ⟨List.getElem_mem hi, hf⟩, rfl⟩, by simp⟩
theorem mo_step {xs : List SeL} {k : Nat} (hk : k < xs.length) (m : Int) : moA m (xs.drop k) = moA (if (xs[k].o && decide (m < xs[k].p)) = true then xs[k].p else m) (xs.drop (k + 1)) := by
  rw [List.drop_eq_getElem_cons hk]
  rfl
set_option maxRecDepth 100000 in
set_option maxHeartbeats 4000000 in
theorem fnbest (a0 : Option Addr) (len0 cap0 : Nat) (w : World) (h0 : len0 ≤ 1048576) (r0 : SrcRow w w.heap.size a0 len0) :
    Calls Try.prog 4 #[.slice a0 len0 cap0] w fun e w' => e = .returned (.bool true) ∧ Below w.heap.size w w' := by
  have R0 := Lib.hid r0
  clear r0
  go_enter Try.func4, Try.ntmps4
  go_wp2_with fail
  refine (draw_best a0 len0 cap0 _ h0 R0.out).mono ?_
  rintro e w1 ⟨⟨xs, p, c, rfl, ho, hl, hw⟩, hb1⟩
  have HB1 := Lib.hid hb1
  have HR1 := Lib.hid (fun W (h : Below w1.heap.size w1 W) => (row_own9 ho).on h)
  have hw1 : ∀ x ∈ xs, x.r.size ≤ 1048576 ∧ x.s.size ≤ 1048576 := fun x hx => by have := hw x hx; omega
  have i1 := fun W hR => impl_best xs p c W (by omega) (se_max hw1) hw1 hR
  have i2 := fun W hR => spec_best xs p c W (by omega) (se_max hw1) hR
  have i3 := fun W hR => spec_seright xs p c W (by omega) (se_max hw1) hR
  unfold StIs at i1 i2
  clear hb1 ho hw hw1 h0
  cases hok : okB xs
  · have hbe : bestR xs = [] := by unfold bestR; rw [hok]; rfl
    rw [hbe] at i1 i2
    rw [hok] at i3
    have i4 := fun p q c d W hp hq => lw_texts [] p q c d W (by simp) hp hq
    simp only [List.length_nil] at i1 i2 i4
    obtain ⟨n, hxn⟩ : ∃ n, xs.length = n := ⟨_, rfl⟩
    rw [hxn] at i1 i2 i3 hl ⊢
    clear hok hbe hxn
    go_wp2_with (first
      | (go_at_call 28; have _ := HB7; go_fit (i3 _ (HR1.out _ HC7.out)); rintro e w8 ⟨rfl, hb⟩; have HB8 := Lib.hid (HB7.out.trans (hb.mono HB7.out.size)); clear hb)
      | (go_at_call 31; have _ := HB6; go_fit (i4 p2 p6 k2 k6 _ (row_ownT HV6a.out) (row_ownT HV6.out)); rintro e w7 ⟨rfl, hb⟩; have HB7 := Lib.hid (HB6.out.trans (hb.mono HB6.out.size)); have HC7 := Lib.hid (HC6.out.trans (hb.mono HC6.out.size)); clear hb)
      | (go_at_call 32; have _ := HB5; go_fit (i2 _ (HR1.out _ HC5.out)); rintro e w6 ⟨⟨p6, k6, rfl, hv⟩, hb⟩; have HB6 := Lib.hid (HB5.out.trans (hb.mono HB5.out.size)); have HC6 := Lib.hid (HC5.out.trans (hb.mono HC5.out.size)); have HV6 := Lib.hid hv; have HV6a := Lib.hid (HV5.out.on hb); clear hb hv)
      | (go_at_call 28; have _ := HB4; go_fit (i3 _ (HR1.out _ HC4.out)); rintro e w5 ⟨rfl, hb⟩; have HB5 := Lib.hid (HB4.out.trans (hb.mono HB4.out.size)); have HC5 := Lib.hid (HC4.out.trans (hb.mono HC4.out.size)); have HV5 := Lib.hid (HV4.out.on hb); clear hb)
      | (go_at_call 31; have _ := HB3; go_fit (i4 p2 p3 k2 k3 _ (row_ownT HV3a.out) (row_ownT HV3.out)); rintro e w4 ⟨rfl, hb⟩; have HB4 := Lib.hid (HB3.out.trans (hb.mono HB3.out.size)); have HC4 := Lib.hid (HC3.out.trans (hb.mono HC3.out.size)); have HV4 := Lib.hid (HV3a.out.on hb); clear hb)
      | (go_at_call 32; have _ := HB2; go_fit (i2 _ (HR1.out _ HC2.out)); rintro e w3 ⟨⟨p3, k3, rfl, hv⟩, hb⟩; have HB3 := Lib.hid (HB2.out.trans (hb.mono HB2.out.size)); have HC3 := Lib.hid (HC2.out.trans (hb.mono HC2.out.size)); have HV3 := Lib.hid hv; have HV3a := Lib.hid (HV2.out.on hb); clear hb hv)
      | (go_at_call 30; go_fit (i1 _ (HR1.out _ (Below.refl _ _))); rintro e w2 ⟨⟨p2, k2, rfl, hv⟩, hb⟩; have HB2 := Lib.hid (HB1.out.trans (hb.mono HB1.out.size)); have HC2 := Lib.hid hb; have HV2 := Lib.hid hv; clear hb hv))
    go_ret
    exact ⟨rfl, HB8.out⟩
  · have hbe : bestR xs = selL (fun x => x.o && x.p == mxA 0 xs) xs := by unfold bestR; rw [hok]; rfl
    have hpsl := sel_len (fun x => x.o && x.p == mxA 0 xs) xs
    have HPS : Hid (∀ i (hi : i < xs.length), hasB (selL (fun x => x.o && x.p == mxA 0 xs) xs) xs[i].r = (xs[i].o && xs[i].p == moA (-1) xs && decide (0 ≤ moA (-1) xs))) := Lib.hid (fun i hi => (sel_has hok _ hi).trans (best_most hok (List.getElem_mem hi)))
    rw [hbe] at i1 i2
    rw [hok] at i3
    obtain ⟨ps, hps⟩ : ∃ ps, selL (fun x => x.o && x.p == mxA 0 xs) xs = ps := ⟨_, rfl⟩
    rw [hps] at i1 i2 hpsl HPS
    have i4 := fun p q c d W hp hq => lw_texts ps p q c d W (by omega) hp hq
    have i5 := fun t p c W hp => lw_hasW ps t p c W (by omega) hp
    obtain ⟨mo, hmo⟩ : ∃ m, moA (-1) xs = m := ⟨_, rfl⟩
    rw [hmo] at HPS
    have HMO : Hid (moA (-1) (xs.drop 0) = mo) := Lib.hid hmo
    obtain ⟨n, hxn⟩ : ∃ n, xs.length = n := ⟨_, rfl⟩
    have HN := Lib.hid hxn
    rw [hxn] at i1 i2 i3 hl ⊢
    obtain ⟨nq, hnq⟩ : ∃ n, ps.length = n := ⟨_, rfl⟩
    rw [hnq] at i1 i2 i4 i5
    clear hok hbe hxn hpsl hps hmo hnq
    go_wp2_with (first
      | (go_at_call 28; have _ := HB4; go_fit (i3 _ (HR1.out _ HC4.out)); rintro e w5 ⟨rfl, hb⟩; have HB5 := Lib.hid (HB4.out.trans (hb.mono HB4.out.size)); have HC5 := Lib.hid (HC4.out.trans (hb.mono HC4.out.size)); have HV5 := Lib.hid (HV4.out.on hb); clear hb)
      | (go_at_call 31; have _ := HB3; go_fit (i4 p2 p3 k2 k3 _ (row_ownT HV3a.out) (row_ownT HV3.out)); rintro e w4 ⟨rfl, hb⟩; have HB4 := Lib.hid (HB3.out.trans (hb.mono HB3.out.size)); have HC4 := Lib.hid (HC3.out.trans (hb.mono HC3.out.size)); have HV4 := Lib.hid (HV3a.out.on hb); clear hb)
      | (go_at_call 32; have _ := HB2; go_fit (i2 _ (HR1.out _ HC2.out)); rintro e w3 ⟨⟨p3, k3, rfl, hv⟩, hb⟩; have HB3 := Lib.hid (HB2.out.trans (hb.mono HB2.out.size)); have HC3 := Lib.hid (HC2.out.trans (hb.mono HC2.out.size)); have HV3 := Lib.hid hv; have HV3a := Lib.hid (HV2.out.on hb); clear hb hv)
      | (go_at_call 30; go_fit (i1 _ (HR1.out _ (Below.refl _ _))); rintro e w2 ⟨⟨p2, k2, rfl, hv⟩, hb⟩; have HB2 := Lib.hid (HB1.out.trans (hb.mono HB1.out.size)); have HC2 := Lib.hid hb; have HV2 := Lib.hid hv; clear hb hv))
    go_loopw [5, 6] (fun mq iq wr => ∃ (k : Nat) (m : Int), k ≤ n ∧ iq = .int .i64 k ∧ mq = .int .i64 m ∧ moA m (xs.drop k) = mo ∧ w5 = wr) (fun _ i _ => n - (intOf i).toNat)
    case atStart => exact ⟨0, -1, Nat.zero_le _, rfl, rfl, HMO.out, rfl⟩
    case round =>
      obtain ⟨k, m, hk, rfl, rfl, hm, rfl⟩ := hrel
      have HMk := Lib.hid hm
      clear hm
      by_cases hlt : k < n
      · have hlt1 : k < xs.length := by rw [HN.out]; exact hlt
        obtain ⟨g, rfl, hg, a0, a1, a2, a3⟩ := row_se4 (HR1.out _ HC5.out) hlt1
        have hst := mo_step hlt1 m
        obtain ⟨x, hx⟩ : ∃ x, xs[k] = x := ⟨_, rfl⟩
        rw [hx] at a0 a1 a2 a3 hst
        rw [HMk.out] at hst
        obtain ⟨bo, hbo⟩ : ∃ b, x.o = b := ⟨_, rfl⟩
        rw [hbo] at a1 hst
        clear hx hbo
        cases bo
        · have HST := Lib.hid hst.symm
          clear hst
          go_wp2
          go_roundw
          case rel => exact ⟨k + 1, m, by omega, by go_num, rfl, HST.out, by first | rfl | trivial⟩
          case measure => simp [intOf]; omega
        · by_cases hp : m < x.p
          · rw [if_pos (by rw [decide_eq_true hp]; rfl)] at hst
            have HST := Lib.hid hst.symm
            clear hst
            go_wp2
            go_roundw
            case rel => exact ⟨k + 1, x.p, by omega, by go_num, rfl, HST.out, by first | rfl | trivial⟩
            case measure => simp [intOf]; omega
          · rw [if_neg (by rw [decide_eq_false hp]; decide)] at hst
            have HST := Lib.hid hst.symm
            clear hst
            go_wp2
            go_roundw
            case rel => exact ⟨k + 1, m, by omega, by go_num, rfl, HST.out, by first | rfl | trivial⟩
            case measure => simp [intOf]; omega
      · have hmm : m = mo := by
          have h := HMk.out
          rw [List.drop_of_length_le (by rw [HN.out]; omega)] at h
          exact h
        subst hmm
        clear HMk
        go_wp2
        go_loopw [7] (fun iq wr => ∃ k : Nat, k ≤ n ∧ iq = .int .i64 k ∧ Below w5.heap.size w5 wr) (fun i _ => n - (intOf i).toNat)
        case atStart => exact ⟨0, Nat.zero_le _, rfl, Below.refl _ _⟩
        case round =>
          obtain ⟨q, hq, rfl, hb⟩ := hrel
          have HB := Lib.hid hb
          by_cases hlt2 : q < n
          · have hlt1 : q < xs.length := by rw [HN.out]; exact hlt2
            obtain ⟨g, rfl, hg, a0, a1, a2, a3⟩ := row_se4 (HR1.out _ (HC5.out.trans (hb.mono HC5.out.size))) hlt1
            have hH := HPS.out q hlt1
            obtain ⟨x, hx⟩ : ∃ x, xs[q] = x := ⟨_, rfl⟩
            rw [hx] at a0 a1 a2 a3 hH
            obtain ⟨bo, hbo⟩ : ∃ b, x.o = b := ⟨_, rfl⟩
            obtain ⟨b2, hb2⟩ : ∃ b, (x.p == m) = b := ⟨_, rfl⟩
            obtain ⟨b3, hb3⟩ : ∃ b, decide (0 ≤ m) = b := ⟨_, rfl⟩
            rw [hbo] at a1
            rw [hbo, hb2, hb3] at hH
            have i6 := fun W hp => i5 x.r p2 k2 W hp
            obtain ⟨H, hHH⟩ : ∃ H, hasB ps x.r = H := ⟨_, rfl⟩
            rw [hHH] at i6 hH
            unfold SaysB at i6
            have hbd := fun N => below_drewN HB.out N
            have hrow := fun N => row_ownT (HV5.out.on (below_drewN HB.out N))
            clear hx hbo hHH hb
            cases bo
            · obtain rfl : H = false := hH
              go_wp2
              go_quiet (first | (go_at_call 33; exact Calls.quiet_of_same ((i6 _ (hrow _)).mono fun e w' h => ⟨h.1, h.2.symm⟩)))
              go_wp2
              go_roundw
              case rel => exact ⟨q + 1, by omega, by go_num, hbd _⟩
              case measure => simp [intOf]; omega
            · cases b2
              · obtain rfl : H = false := hH
                go_wp2
                go_quiet (first | (go_at_call 33; exact Calls.quiet_of_same ((i6 _ (hrow _)).mono fun e w' h => ⟨h.1, h.2.symm⟩)))
                go_wp2
                go_roundw
                case rel => exact ⟨q + 1, by omega, by go_num, hbd _⟩
                case measure => simp [intOf]; omega
              · cases b3
                · have hd3 : ¬ 0 ≤ m := by simpa using hb3
                  obtain rfl : H = false := hH
                  go_wp2
                  go_quiet (first | (go_at_call 33; exact Calls.quiet_of_same ((i6 _ (hrow _)).mono fun e w' h => ⟨h.1, h.2.symm⟩)))
                  go_wp2
                  go_roundw
                  case rel => exact ⟨q + 1, by omega, by go_num, hbd _⟩
                  case measure => simp [intOf]; omega
                · have hd3 : 0 ≤ m := by simpa using hb3
                  obtain rfl : H = true := hH
                  go_wp2
                  go_quiet (first | (go_at_call 33; exact Calls.quiet_of_same ((i6 _ (hrow _)).mono fun e w' h => ⟨h.1, h.2.symm⟩)))
                  go_wp2
                  go_roundw
                  case rel => exact ⟨q + 1, by omega, by go_num, hbd _⟩
                  case measure => simp [intOf]; omega
          · clear hb
            go_wp2
            go_ret
            exact ⟨rfl, HB5.out.trans (HB.out.mono HB5.out.size)⟩
end Go.Proofs.Ytkdljhmenejckaa
