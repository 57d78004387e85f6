/- Several parts in one text: SeAny, SeUnbS, SeStrs, SeSeen, SeIns2, ArSession, EqSession. -/
import Derived.Test.YtafdjjdmcnlddaaHNA
import Derived.Deep.MidRow
import Derived.Laws.CopyOwn
import Derived.Deep.DeepFit
import Derived.Deep.RegionHeld3
namespace Go.Proofs.Ytafdjjdmcnlddaa
set_option linter.unusedSimpArgs false
set_option linter.unusedVariables false
open Go.RowKit

def NoOn (xs : List SeL) (k : Nat) : Prop := ∀ i (h : i < xs.length), i < k → xs[i].o = false
theorem noOn_zero (xs : List SeL) : NoOn xs 0 := fun i _ h => absurd h (Nat.not_lt_zero _)
theorem noOn_succ {xs : List SeL} {k : Nat} (h : NoOn xs k) (hk : k < xs.length) (h1 : xs[k].o = false) : NoOn xs (k + 1) := by
  intro i hi hlt
  by_cases e : i = k
  · subst e; exact h1
  · exact h i hi (by omega)
theorem any_no {xs : List SeL} {k : Nat} (h : NoOn xs k) (hk : ¬ k < xs.length) : anyS xs = false := by
  unfold anyS
  rw [List.any_eq_false]
  intro x hx
  obtain ⟨i, hi, rfl⟩ := List.mem_iff_getElem.1 hx
  rw [h i hi (by omega)]
  decide
theorem any_yes {xs : List SeL} {k : Nat} (hk : k < xs.length) (h : xs[k].o = true) : anyS xs = true := by
  unfold anyS
  exact List.any_eq_true.2 ⟨xs[k], List.getElem_mem hk, h⟩
theorem impl_ison (x : SeL) (w : World) : Calls Try.prog 79 #[seV x] w fun e w' => e = .returned (.bool x.o) ∧ Below w.heap.size w w' := by
  unfold seV
  go_enter Try.func79, Try.ntmps79
  go_wp2
  go_ret
  exact ⟨rfl, (Below.refl _ _).alloc (Nat.le_refl _) _⟩
set_option maxRecDepth 100000 in
set_option maxHeartbeats 1000000 in
theorem impl_indexf (xs : List SeL) (p : Option Addr) (c : Nat) (w : World) (hn : xs.length ≤ 1048576) (hR : RowC seC 4 w p xs) :
    Calls Try.prog 110 #[.slice p xs.length c, .func (.func 79) #[] #[]] w fun e w' => (∃ z, e = .returned (.int .i64 z) ∧ decide (0 ≤ z) = anyS xs) ∧ Below w.heap.size w w' := by
  obtain ⟨n, hxn⟩ : ∃ n, xs.length = n := ⟨_, rfl⟩
  have HP := Lib.hid (fun W (h : Below w.heap.size w W) => hR.on h)
  have HN := Lib.hid hxn
  rw [hxn] at hn ⊢
  clear hR hxn
  go_enter Try.func110, Try.ntmps110
  go_wp2
  go_loopw [8] (fun iq wr => ∃ k : Nat, k ≤ n ∧ iq = .int .i64 k ∧ NoOn xs k ∧ Below w.heap.size w wr) (fun i _ => n - (intOf i).toNat)
  case atStart => exact ⟨0, Nat.zero_le _, rfl, noOn_zero xs, Below.refl _ _⟩
  case round =>
    obtain ⟨k, hk, rfl, hA, hb⟩ := hrel
    have HA := Lib.hid hA
    have HB := Lib.hid hb
    clear hA
    by_cases hlt : k < n
    · have hlt1 : k < xs.length := by rw [HN.out]; exact hlt
      obtain ⟨g, rfl, hg, a0, a1, a2, a3⟩ := row_se4 (HP.out _ hb) hlt1
      obtain ⟨x, hx⟩ : ∃ x, xs[k] = x := ⟨_, rfl⟩
      rw [hx] at a0 a1 a2 a3
      obtain ⟨r, o, p, s⟩ := x
      have i3 := fun W => impl_ison ⟨r, o, p, s⟩ W
      unfold seV at i3
      have HX : Hid (xs[k].o = o) := Lib.hid (by rw [hx])
      clear hb hx
      dsimp only at a0 a1 a2 a3 i3
      cases o
      · go_wp2_with (go_at_call 79; go_fit (i3 _); rintro e w2 ⟨rfl, hb2⟩)
        go_roundw
        case rel => exact ⟨k + 1, by omega, by go_num, noOn_succ HA.out hlt1 HX.out, HB.out.trans (hb2.mono HB.out.size)⟩
        case measure => simp [intOf]; omega
      · go_wp2_with (go_at_call 79; go_fit (i3 _); rintro e w2 ⟨rfl, hb2⟩)
        go_ret
        exact ⟨⟨_, rfl, by rw [any_yes hlt1 HX.out]; simp⟩, HB.out.trans (hb2.mono HB.out.size)⟩
    · have HL := Lib.hid (any_no HA.out (by rw [HN.out]; exact hlt))
      clear hb
      go_wp2
      go_ret
      exact ⟨⟨_, rfl, by rw [HL.out]; decide⟩, HB.out⟩
set_option maxHeartbeats 1000000 in
theorem impl_contains (xs : List SeL) (p : Option Addr) (c : Nat) (w : World) (hn : xs.length ≤ 1048576) (hR : RowC seC 4 w p xs) :
    Calls Try.prog 78 #[.slice p xs.length c, .func (.func 79) #[] #[]] w fun e w' => e = .returned (.bool (anyS xs)) ∧ Below w.heap.size w w' := by
  have i1 := impl_indexf xs p c w hn hR
  clear hR
  go_enter Try.func78, Try.ntmps78
  go_wp2_with (go_at_call 110; go_fit i1; rintro e w2 ⟨⟨z, rfl, hz⟩, hb⟩; have HZ := Lib.hid hz; clear hz)
  go_ret
  exact ⟨ret_bool HZ.out, hb⟩
set_option maxHeartbeats 1000000 in
theorem impl_any (xs : List SeL) (p : Option Addr) (c : Nat) (w : World) (hn : xs.length ≤ 1048576) (hw : ∀ x ∈ xs, x.r.size ≤ maxLen) (hR : RowC seC 4 w p xs) :
    Calls Try.prog 25 #[.slice p xs.length c] w fun e w' => e = .returned (.bool (anyR xs)) ∧ Below w.heap.size w w' := by
  have i1 := impl_seright xs p c w hn hw hR
  have i2 := fun W h => impl_contains xs p c W hn h
  have HR := Lib.hid (fun W (h : Below w.heap.size w W) => hR.on h)
  unfold anyR
  obtain ⟨b1, h1⟩ : ∃ b, okB xs = b := ⟨_, rfl⟩
  obtain ⟨b2, h2⟩ : ∃ b, anyS xs = b := ⟨_, rfl⟩
  rw [h1] at i1
  rw [h2] at i2
  rw [h1, h2]
  clear h1 h2 hR hw
  cases b1
  · go_enter Try.func25, Try.ntmps25
    go_wp2_with (go_at_call 30; go_fit i1; rintro e w2 ⟨rfl, hb⟩)
    go_ret
    exact ⟨ret_bool (by simp), hb⟩
  · go_enter Try.func25, Try.ntmps25
    go_wp2_with (first
      | (go_at_call 30; go_fit i1; rintro e w2 ⟨rfl, hb⟩; have HB := Lib.hid hb; clear hb)
      | (go_at_call 78; go_fit (i2 _ (HR.out _ HB.out)); rintro e w3 ⟨rfl, hb2⟩))
    go_ret
    exact ⟨ret_bool (by simp), HB.out.trans (hb2.mono HB.out.size)⟩
set_option maxRecDepth 100000 in
set_option maxHeartbeats 1000000 in
theorem spec_any (xs : List SeL) (p : Option Addr) (c : Nat) (w : World) (hn : xs.length ≤ 1048576) (hw : ∀ x ∈ xs, x.r.size ≤ maxLen) (hR : RowC seC 4 w p xs) :
    Calls Try.prog 29 #[.slice p xs.length c] w fun e w' => e = .returned (.bool (anyR xs)) ∧ Below w.heap.size w w' := by
  have i1 := spec_seright xs p c w hn hw hR
  obtain ⟨n, hxn⟩ : ∃ n, xs.length = n := ⟨_, rfl⟩
  have HP := Lib.hid (fun W (h : Below w.heap.size w W) => hR.on h)
  have HN := Lib.hid hxn
  unfold anyR
  obtain ⟨b1, h1⟩ : ∃ b, okB xs = b := ⟨_, rfl⟩
  rw [h1] at i1 ⊢
  rw [hxn] at hn i1 ⊢
  obtain ⟨Z, hZ⟩ : ∃ b, anyS xs = b := ⟨_, rfl⟩
  have HZ := Lib.hid hZ
  rw [hZ]
  clear hR hxn h1 hZ hw
  cases b1
  · go_enter Try.func29, Try.ntmps29
    go_wp2_with (go_at_call 31; go_fit i1; rintro e w2 ⟨rfl, hb⟩)
    go_ret
    exact ⟨ret_bool (by simp), hb⟩
  go_enter Try.func29, Try.ntmps29
  go_wp2_with (go_at_call 31; go_fit i1; rintro e w1 ⟨rfl, hb⟩; have HB1 := Lib.hid hb; clear hb)
  go_loopw [3] (fun iq wr => ∃ k : Nat, k ≤ n ∧ iq = .int .i64 k ∧ NoOn xs k ∧ Below w.heap.size w wr) (fun i _ => n - (intOf i).toNat)
  case atStart => exact ⟨0, Nat.zero_le _, rfl, noOn_zero xs, HB1.out⟩
  case round =>
    obtain ⟨k, hk, rfl, hA, hb⟩ := hrel
    have HA := Lib.hid hA
    have HB := Lib.hid hb
    clear hA
    by_cases hlt : k < n
    · have hlt1 : k < xs.length := by rw [HN.out]; exact hlt
      obtain ⟨g, rfl, hg, a0, a1, a2, a3⟩ := row_se4 (HP.out _ hb) hlt1
      obtain ⟨x, hx⟩ : ∃ x, xs[k] = x := ⟨_, rfl⟩
      rw [hx] at a0 a1 a2 a3
      obtain ⟨r, o, p, s⟩ := x
      have HX : Hid (xs[k].o = o) := Lib.hid (by rw [hx])
      clear hb hx
      dsimp only at a0 a1 a2 a3
      cases o
      · go_wp2
        go_roundw
        case rel => exact ⟨k + 1, by omega, by go_num, noOn_succ HA.out hlt1 HX.out, HB.out⟩
        case measure => simp [intOf]; omega
      · have HL : Hid (Z = true) := Lib.hid (by rw [← HZ.out]; exact any_yes hlt1 HX.out)
        go_wp2
        go_ret
        exact ⟨ret_bool (by rw [HL.out]; simp), HB.out⟩
    · have HL : Hid (Z = false) := Lib.hid (by rw [← HZ.out]; exact any_no HA.out (by rw [HN.out]; exact hlt))
      clear hb
      go_wp2
      go_ret
      exact ⟨ret_bool (by rw [HL.out]; simp), HB.out⟩
end Go.Proofs.Ytafdjjdmcnlddaa

namespace Go.Proofs.Ytafdjjdmcnlddaa
set_option linter.unusedSimpArgs false
set_option linter.unusedVariables false
open Go.RowKit Go.Joins

theorem flat_len9 (xs : List SeL) : (xs.flatMap seC).length = xs.length * 4 := by
  induction xs with
  | nil => rfl
  | cons x xs ih => rw [List.flatMap_cons, List.length_append, seC_len, ih, List.length_cons]; omega
theorem flat_at9 : ∀ (xs : List SeL) (i j : Nat) (hi : i < xs.length), j < 4 → (xs.flatMap seC)[i * 4 + j]? = (seC xs[i])[j]?
  | x :: xs, 0, j, hi, hj => by
    rw [List.flatMap_cons, Nat.zero_mul, Nat.zero_add, List.getElem?_append_left (by rw [seC_len]; exact hj)]
    rfl
  | x :: xs, i + 1, j, hi, hj => by
    rw [List.flatMap_cons, List.getElem?_append_right (by rw [seC_len]; omega), seC_len, show (i + 1) * 4 + j - 4 = i * 4 + j by omega]
    exact flat_at9 xs i j (by simpa using hi) hj
/-- append(v, part...): the part's elements lie at an address. -/
theorem wp_app_sub9 {o : Oper} {a : Act} {w : World} {K : Act → World → Prop} {Q : Exit → Act → World → Prop} (s x : Operand)
    (ho : o.op = .call { callee := .builtin .append, args := #[s, x], argTypes := #[23, 23] })
    (B : Nat) (v : Value) (ys : List SeL) (hs : a.eval s = v) (hown : OwnC seC w B 84 4 v ys) (g off m c : Nat) (zs : List SeL) (hx : a.eval x = .slice (some ⟨g, off, none⟩) m c) (hm : zs.length = m)
    (hcells : ∀ i (h : i < zs.length) j, j < 4 → w.cell? ⟨g, off + (i * 4 + j), none⟩ = (seC zs[i])[j]?)
    (hlen : ys.length + zs.length ≤ 2000000) (hB : B ≤ w.heap.size) (h : ∀ v' w', OwnC seC w' B 84 4 v' (ys ++ zs) → w.grownBy w' v.ownBlock → K (a.put o.dst v') w') : o.wp Try.prog a w K Q := by
  obtain ⟨i0, hi, hz0, hz1, hz2⟩ := info_parts info_sec
  subst hm
  refine wp_append_own w s x 23 ho B 84 i0 _ 4 48 Try.underlying23 hi hz0 hz1 hz2 rfl (by decide) v ys.length (ys.flatMap seC) hs hown ⟨g, off, none⟩ zs.length c (zs.flatMap seC) hx (flat_len9 zs) (fun j u hj => ?_) (one_all9 zs) (by unfold maxLen; omega) (by omega) hB (fun v' w' h1 h2 _ => h v' w' ?_ h2)
  · have hlt : j < zs.length * 4 := by
      have := (List.getElem?_eq_some_iff.1 hj).1
      rwa [flat_len9] at this
    have h4 := hcells (j / 4) (by omega) (j % 4) (by omega)
    have h5 := flat_at9 zs (j / 4) (j % 4) (by omega) (by omega)
    rw [show j / 4 * 4 + j % 4 = j by omega] at h4 h5
    rw [← h5, hj] at h4
    rw [show (⟨g, off, none⟩ : Addr).add j = ⟨g, off + j, none⟩ by unfold Addr.add; split <;> simp_all]
    exact h4
  · show w'.ownsRow B _ 4 v' (ys ++ zs).length ((ys ++ zs).flatMap seC)
    rw [List.length_append, List.flatMap_append]
    exact h1
theorem unb_size {xs : List SeL} {r : ByteArray} (h : 400 < xs.length ∨ 20000 < r.size) : unbindR xs r = illS 2 := by unfold unbindR; exact if_pos h
theorem unb_form {xs : List SeL} {r : ByteArray} (h : ¬ (400 < xs.length ∨ 20000 < r.size)) (h2 : okB xs = false) : unbindR xs r = illS 1 := by unfold unbindR; rw [if_neg h, if_pos h2]
theorem unb_none {xs : List SeL} {r : ByteArray} (h : ¬ (400 < xs.length ∨ 20000 < r.size)) (h2 : okB xs = true) (h3 : hereB r xs = false) : unbindR xs r = illS 6 := by unfold unbindR; rw [if_neg h, if_neg (by rw [h2]; decide), if_pos h3]
theorem unb_ok {xs : List SeL} {r : ByteArray} (h : ¬ (400 < xs.length ∨ 20000 < r.size)) (h2 : okB xs = true) (h3 : hereB r xs = true) : unbindR xs r = ⟨xs.take (posS r xs) ++ xs.drop (posS r xs + 1), 0⟩ := by unfold unbindR; rw [if_neg h, if_neg (by rw [h2]; decide), if_neg (by rw [h3]; decide)]
set_option maxRecDepth 100000 in
set_option maxHeartbeats 4000000 in
theorem spec_unbind (xs : List SeL) (r : ByteArray) (p : Option Addr) (c B0 : Nat) (w : World) (hn : xs.length ≤ 1048576) (hr : r.size ≤ 1048576) (hw : ∀ x ∈ xs, x.r.size ≤ 1048576 ∧ x.s.size ≤ 1048576) (hO : OwnC seC w B0 84 4 (.slice p xs.length c) xs) :
    Calls Try.prog 21 #[.slice p xs.length c, .string r] w fun e w' => SoIs w.heap.size (unbindR xs r) e w' ∧ Below w.heap.size w w' := by
  have HA0 : Hid (Arr (w.alloc (.cells #[.slice none 0 0, .int .i64 0] 27)) w.heap.size 27 [.slice none 0 0, .int .i64 0]) := Lib.hid (Arr.fresh w _ [.slice none 0 0, .int .i64 0])
  have HB0 : Hid (Below w.heap.size w (w.alloc (.cells #[.slice none 0 0, .int .i64 0] 27))) := Lib.hid ((Below.refl _ _).alloc (Nat.le_refl _) _)
  have HO := Lib.hid (fun W (h : Below w.heap.size w W) => hO.on h)
  have i0 := fun code W => spec_ill9 code W
  have i1 := fun W h => spec_seright xs p c W hn (fun x hx => by have := (hw x hx).1; unfold maxLen; omega) h
  have i2 := fun W (hk : okB xs = true) h => spec_at9 xs r p c W hn (okB_iff.1 hk).2.1 h
  obtain ⟨n, hxn⟩ : ∃ n, xs.length = n := ⟨_, rfl⟩
  have HN := Lib.hid hxn
  by_cases h1 : 400 < xs.length ∨ 20000 < r.size
  · rw [unb_size h1]
    rw [hxn] at h1 hn ⊢
    clear hO hw i1 i2 hxn
    by_cases h2 : 400 < n
    · clear h1
      go_enter Try.func21, Try.ntmps21
      go_wp2_with (first
        | (go_at_call 71; go_fit (i0 _ _); rintro e0 w9 ⟨rfl, hb⟩; have HA9 := Lib.hid (arr9_on HA0.out hb); have HB9 := Lib.hid (HB0.out.trans (hb.mono HB0.out.size)); clear hb; obtain ⟨⟨c0, c1⟩, k0, k1⟩ := arr9_two HA9.out))
      have hE : Arr _ w.heap.size 27 [.slice none 0 0, .int .i64 2] := ((HA9.out.put 0 (.slice none 0 0)).put 1 (.int .i64 2))
      exact bodyPost_ret (v := .agg #[.slice none 0 0, .int .i64 2]) (results_cell_row (P := Try.prog) Try.results21 _ _ w.heap.size 27 _ (0, 0) _ rfl hE Try.underlying27 rfl (by kernel_rfl)) rfl
        ⟨so_ill _ _ _, (HB9.out.setCell (p := ⟨w.heap.size, 0, none⟩) (Nat.le_refl _) _).setCell (p := ⟨w.heap.size, 1, none⟩) (Nat.le_refl _) _⟩
    · have h3 : 20000 < r.size := by omega
      clear h1
      go_enter Try.func21, Try.ntmps21
      go_wp2_with (first
        | (go_at_call 71; go_fit (i0 _ _); rintro e0 w9 ⟨rfl, hb⟩; have HA9 := Lib.hid (arr9_on HA0.out hb); have HB9 := Lib.hid (HB0.out.trans (hb.mono HB0.out.size)); clear hb; obtain ⟨⟨c0, c1⟩, k0, k1⟩ := arr9_two HA9.out))
      have hE : Arr _ w.heap.size 27 [.slice none 0 0, .int .i64 2] := ((HA9.out.put 0 (.slice none 0 0)).put 1 (.int .i64 2))
      exact bodyPost_ret (v := .agg #[.slice none 0 0, .int .i64 2]) (results_cell_row (P := Try.prog) Try.results21 _ _ w.heap.size 27 _ (0, 0) _ rfl hE Try.underlying27 rfl (by kernel_rfl)) rfl
        ⟨so_ill _ _ _, (HB9.out.setCell (p := ⟨w.heap.size, 0, none⟩) (Nat.le_refl _) _).setCell (p := ⟨w.heap.size, 1, none⟩) (Nat.le_refl _) _⟩
  have g1 : ¬ 400 < n := by omega
  have g2 : ¬ 20000 < r.size := by omega
  by_cases h2 : okB xs = true
  · replace i2 := fun W h => i2 W h2 h
    rw [h2] at i1
    unfold whereI at i2
    by_cases h3 : hereB r xs = true
    · rw [if_pos h3] at i2
      rw [unb_ok h1 h2 h3]
      have hlt := here_lt h3
      have h5 := (okB_iff.1 h2).1
      obtain ⟨P, hP⟩ : ∃ P, posS r xs = P := ⟨_, rfl⟩
      rw [hP] at i2 hlt ⊢
      have HLT := Lib.hid hlt
      rw [hxn] at hn i1 i2 HO hlt h5 ⊢
      obtain ⟨g, cap, e⟩ := Joins.ownsRow_form hO (by rw [hxn]; omega)
      rw [hxn] at e
      injection e with e1 _ e3
      subst e1 e3
      have hcap : n ≤ c := by
        rcases hO.2 with ⟨h0, _⟩ | ⟨g', cap', cur, q1, _, _, q4, _⟩
        · cases h0
        · injection q1 with _ _ q3
          subst q3
          rw [hxn] at q4
          exact q4
      have q1 : ¬ ((P : Int) < 0) := by omega
      have q2 : (P : Int) ≤ (n : Int) := by omega
      have q3 : (P : Int) + 1 ≤ (n : Int) := by omega
      have q4 : (0 : Int) ≤ (P : Int) := by omega
      have q5 : (0 : Int) ≤ (P : Int) + 1 := by omega
      have q6 : (n : Int) ≤ (c : Int) := by omega
      have q7 : (P : Int) ≤ (c : Int) := by omega
      have hw1 : IntKind.i64.wrap ((P : Int) + 1) = (P : Int) + 1 := IntWalk.i64_in _ (by omega)
      clear hO hw hxn h1 h2 h3 hP
      go_enter Try.func21, Try.ntmps21
      go_wp2_with (first
        | (go_at_call 31; go_fit (i1 _ (row_own9 (HO.out _ HB0.out))); rintro e0 w1 ⟨rfl, hb⟩; have HA1 := Lib.hid (arr9_on HA0.out hb); have HB1 := Lib.hid (HB0.out.trans (hb.mono HB0.out.size)); clear hb)
        | (go_at_call 73; go_fit (i2 _ (row_own9 (HO.out _ HB1.out))); rintro e0 w2 ⟨rfl, hb⟩; have HA2 := Lib.hid (arr9_on HA1.out hb); have HB2 := Lib.hid (HB1.out.trans (hb.mono HB1.out.size)); clear hb))
      refine wp_region_held_drew (S := fun _ => True) (by kernel_rfl) trivial (fun hHeld => ?_)
      have HAd := Lib.hid (arr9_on HA2.out (Below.refl _ _).drew)
      have HBd := Lib.hid HB2.out.drew
      generalize w2.drew = Wd at hHeld HAd HBd ⊢
      clear HA1 HA2 HB1 HB2 HA0 HB0
      by_cases hc : c = P + 1
      · have HNP : Hid (n = P + 1) := Lib.hid (by omega)
        have HC := Lib.hid hc
        clear hc
        refine takeQ (i := 1) (k := 26) (v := .slice (some ⟨g, 0, none⟩) n c) rfl (by rfl) (by kernel_rfl) (by kernel_rfl) (by kernel_rfl) (fun _ _ _ h => h) (by rfl) ?_ hHeld ?_
        · intro w1 hSw; go_simp
        (try simp only [Act.put, List.setIfInBounds_toArray, List.set_cons_zero, List.set_cons_succ])
        refine takeQ (i := 2) (k := 27) (v := .int .i64 (P : Int)) rfl (by rfl) (by kernel_rfl) (by kernel_rfl) (by kernel_rfl) (fun _ _ _ h => h) (by rfl) ?_ hHeld ?_
        · intro w1 hSw; go_simp
        (try simp only [Act.put, List.setIfInBounds_toArray, List.set_cons_zero, List.set_cons_succ])
        refine takeQ (i := 3) (k := 28) (v := .slice (some ⟨g, 0, none⟩) P c) rfl (by rfl) (by kernel_rfl) (by kernel_rfl) (by kernel_rfl) (fun _ _ _ h => h) (by rfl) ?_ hHeld ?_
        · intro w1 hSw; go_simp
        (try simp only [Act.put, List.setIfInBounds_toArray, List.set_cons_zero, List.set_cons_succ])
        refine takeQ (i := 5) (k := 30) (v := .slice (some ⟨g, 0, none⟩) n c) rfl (by rfl) (by kernel_rfl) (by kernel_rfl) (by kernel_rfl) (fun _ _ _ h => h) (by rfl) ?_ hHeld ?_
        · intro w1 hSw; go_simp
        (try simp only [Act.put, List.setIfInBounds_toArray, List.set_cons_zero, List.set_cons_succ])
        refine takeQ (i := 6) (k := 31) (v := .int .i64 (P : Int)) rfl (by rfl) (by kernel_rfl) (by kernel_rfl) (by kernel_rfl) (fun _ _ _ h => h) (by rfl) ?_ hHeld ?_
        · intro w1 hSw; go_simp
        (try simp only [Act.put, List.setIfInBounds_toArray, List.set_cons_zero, List.set_cons_succ])
        refine takeQ (i := 7) (k := 32) (v := .int .i64 ((P : Int) + 1)) rfl (by rfl) (by kernel_rfl) (by kernel_rfl) (by kernel_rfl) (fun _ _ _ h => h) (by rfl) ?_ hHeld ?_
        · intro w1 hSw; go_simp; (try (first | exact hw1 | omega))
        (try simp only [Act.put, List.setIfInBounds_toArray, List.set_cons_zero, List.set_cons_succ])
        refine takeQ (i := 8) (k := 33) (v := .slice (some ⟨g, 0, none⟩) 0 0) rfl (by rfl) (by kernel_rfl) (by kernel_rfl) (by kernel_rfl) (fun _ _ _ h => h) (by rfl) ?_ hHeld ?_
        · intro w1 hSw; go_simp; exact ⟨HC.out, by have := HNP.out; omega, by have := HC.out; omega⟩
        (try simp only [Act.put, List.setIfInBounds_toArray, List.set_cons_zero, List.set_cons_succ])
        refine wpAnyH_ready (rs := [0]) (by kernel_rfl) (by simp) ?_
        refine AllReadyH.cons rfl (fun K hK => ?_) AllReadyH.nil
        rw [if_pos (by rfl)]
        go_simp
        have HA3 := Lib.hid (arr9_on HAd.out ((Below.refl _ _).alloc (Nat.le_refl _) (.cells #[] 84)))
        have HB3 := Lib.hid (HBd.out.alloc HBd.out.size (.cells #[] 84))
        have hzd : w.heap.size < Wd.heap.size := arr9_lt HAd.out
        refine hK.out _ _ trivial (fun hHeld => ?_)
        clear hK K
        (try simp only [Act.put, List.setIfInBounds_toArray, List.set_cons_zero, List.set_cons_succ])
        refine wpAnyH_ready (rs := [4]) (by kernel_rfl) (by simp) ?_
        refine AllReadyH.cons rfl (fun K hK => ?_) AllReadyH.nil
        rw [if_pos (by rfl)]
        refine wp_app_sub9 _ _ rfl Wd.heap.size _ [] rfl (empty_row9 Wd) g 0 P c (xs.take P) rfl (by rw [List.length_take, HN.out]; omega) (fun i hi j hj => ?_) (by rw [List.length_take, HN.out]; simp; omega) (by simp) ?_
        · have hi' : i < P := by rw [List.length_take] at hi; omega
          rw [Nat.zero_add, OwnC.cell seC_len (HO.out _ HB3.out) i j (by have := HLT.out; omega) hj, List.getElem_take]
        intro v4 w4 hv4 hg4
        rw [List.nil_append] at hv4
        have HA4 : Hid (Arr w4 w.heap.size 27 [.slice none 0 0, .int .i64 0]) := Lib.hid ((hg4.block _ (by simp; omega) (fun e => by injection e with e; have e' : Wd.heap.size = w.heap.size := e.symm; omega)).trans HA3.out)
        have HB4 : Hid (Below w.heap.size w w4) := Lib.hid (HB3.out.grown hg4 HB3.out.size (fun k hk => by injection hk with hk; have hk' : Wd.heap.size = k := hk; omega))
        have hb4 := own_base hv4
        refine hK.out _ _ trivial (fun hHeld => ?_)
        clear hK K
        (try simp only [Act.put, List.setIfInBounds_toArray, List.set_cons_zero, List.set_cons_succ])
        refine wpAnyH_ready (rs := [9]) (by kernel_rfl) (by simp) ?_
        refine AllReadyH.cons rfl (fun K hK => ?_) AllReadyH.nil
        rw [if_pos (by rfl)]
        refine wp_app_sub9 _ _ rfl Wd.heap.size _ (xs.take P) rfl hv4 g 0 0 0 (xs.drop (P + 1)) rfl (by rw [List.length_drop, HN.out]; have := HNP.out; omega) (fun i hi j hj => absurd hi (by rw [List.length_drop, HN.out]; have := HNP.out; omega)) (by rw [List.length_take, List.length_drop, HN.out]; omega) (by have := hg4.size; simp at this; omega) ?_
        intro v5 w5 hv5 hg5
        have HA5 : Hid (Arr w5 w.heap.size 27 [.slice none 0 0, .int .i64 0]) := Lib.hid ((hg5.block _ (arr9_lt HA4.out) (fun e => by have := hb4 _ e.symm; omega)).trans HA4.out)
        have HB5 : Hid (Below w.heap.size w w5) := Lib.hid (HB4.out.grown hg5 HB4.out.size (fun k hk => by have := hb4 k hk; omega))
        obtain ⟨q5, k5, e5, -⟩ := hv5.row seC_len
        obtain ⟨m5, hm5⟩ : ∃ m, (xs.take P ++ (xs.drop (P + 1))).length = m := ⟨_, rfl⟩
        rw [hm5] at e5
        subst e5
        have HM5 := Lib.hid hm5
        clear hm5
        refine hK.out _ _ trivial (fun hHeld => ?_)
        clear hK K
        (try simp only [Act.put, List.setIfInBounds_toArray, List.set_cons_zero, List.set_cons_succ])
        refine takeQ (i := 10) (k := 35) (v := .agg #[.slice q5 m5 k5, .int .i64 0]) rfl (by rfl) (by kernel_rfl) (by kernel_rfl) (by kernel_rfl) (fun _ _ _ h => h) (by rfl) ?_ hHeld ?_
        · intro w1 hSw; go_simp
        (try simp only [Act.put, List.setIfInBounds_toArray, List.set_cons_zero, List.set_cons_succ])
        obtain ⟨⟨c0, c1⟩, k0, k1⟩ := arr9_two HA5.out
        refine wpAnyH_ready (rs := [11]) (by kernel_rfl) (by simp) ?_
        refine AllReadyH.cons rfl (fun K hK => ?_) AllReadyH.nil
        rw [if_pos (by rfl)]
        go_simp
        refine hK.out _ _ trivial (fun hHeld => ?_)
        clear hK K
        (try simp only [Act.put, List.setIfInBounds_toArray, List.set_cons_zero, List.set_cons_succ])
        refine wpAnyH_done (by kernel_rfl) ?_ _
        go_wp2
        obtain rfl := HM5.out
        obtain ⟨hE, hO2, hBl⟩ := pass9 (W2 := w) (R := ⟨xs.take P ++ (xs.drop (P + 1)), 0⟩) HA5.out HB5.out (Nat.le_refl _) hzd hv5
        exact bodyPost_ret (v := .agg #[.slice q5 (xs.take P ++ (xs.drop (P + 1))).length k5, .int .i64 0]) (results_cell_row (P := Try.prog) Try.results21 _ _ w.heap.size 27 _ (0, 0) _ rfl hE Try.underlying27 rfl (by kernel_rfl)) rfl
          ⟨⟨q5, k5, rfl, hO2⟩, hBl⟩
      · have q8 : ¬ ((c : Int) = (P : Int) + 1) := by omega
        refine takeQ (i := 1) (k := 26) (v := .slice (some ⟨g, 0, none⟩) n c) rfl (by rfl) (by kernel_rfl) (by kernel_rfl) (by kernel_rfl) (fun _ _ _ h => h) (by rfl) ?_ hHeld ?_
        · intro w1 hSw; go_simp
        (try simp only [Act.put, List.setIfInBounds_toArray, List.set_cons_zero, List.set_cons_succ])
        refine takeQ (i := 2) (k := 27) (v := .int .i64 (P : Int)) rfl (by rfl) (by kernel_rfl) (by kernel_rfl) (by kernel_rfl) (fun _ _ _ h => h) (by rfl) ?_ hHeld ?_
        · intro w1 hSw; go_simp
        (try simp only [Act.put, List.setIfInBounds_toArray, List.set_cons_zero, List.set_cons_succ])
        refine takeQ (i := 3) (k := 28) (v := .slice (some ⟨g, 0, none⟩) P c) rfl (by rfl) (by kernel_rfl) (by kernel_rfl) (by kernel_rfl) (fun _ _ _ h => h) (by rfl) ?_ hHeld ?_
        · intro w1 hSw; go_simp
        (try simp only [Act.put, List.setIfInBounds_toArray, List.set_cons_zero, List.set_cons_succ])
        refine takeQ (i := 5) (k := 30) (v := .slice (some ⟨g, 0, none⟩) n c) rfl (by rfl) (by kernel_rfl) (by kernel_rfl) (by kernel_rfl) (fun _ _ _ h => h) (by rfl) ?_ hHeld ?_
        · intro w1 hSw; go_simp
        (try simp only [Act.put, List.setIfInBounds_toArray, List.set_cons_zero, List.set_cons_succ])
        refine takeQ (i := 6) (k := 31) (v := .int .i64 (P : Int)) rfl (by rfl) (by kernel_rfl) (by kernel_rfl) (by kernel_rfl) (fun _ _ _ h => h) (by rfl) ?_ hHeld ?_
        · intro w1 hSw; go_simp
        (try simp only [Act.put, List.setIfInBounds_toArray, List.set_cons_zero, List.set_cons_succ])
        refine takeQ (i := 7) (k := 32) (v := .int .i64 ((P : Int) + 1)) rfl (by rfl) (by kernel_rfl) (by kernel_rfl) (by kernel_rfl) (fun _ _ _ h => h) (by rfl) ?_ hHeld ?_
        · intro w1 hSw; go_simp; (try (first | exact hw1 | omega))
        (try simp only [Act.put, List.setIfInBounds_toArray, List.set_cons_zero, List.set_cons_succ])
        refine takeQ (i := 8) (k := 33) (v := .slice (some ⟨g, (P + 1) * 4, none⟩) (n - (P + 1)) (c - (P + 1))) rfl (by rfl) (by kernel_rfl) (by kernel_rfl) (by kernel_rfl) (fun _ _ _ h => h) (by rfl) ?_ hHeld ?_
        · intro w1 hSw; go_simp; (try simp)
        (try simp only [Act.put, List.setIfInBounds_toArray, List.set_cons_zero, List.set_cons_succ])
        refine wpAnyH_ready (rs := [0]) (by kernel_rfl) (by simp) ?_
        refine AllReadyH.cons rfl (fun K hK => ?_) AllReadyH.nil
        rw [if_pos (by rfl)]
        go_simp
        have HA3 := Lib.hid (arr9_on HAd.out ((Below.refl _ _).alloc (Nat.le_refl _) (.cells #[] 84)))
        have HB3 := Lib.hid (HBd.out.alloc HBd.out.size (.cells #[] 84))
        have hzd : w.heap.size < Wd.heap.size := arr9_lt HAd.out
        refine hK.out _ _ trivial (fun hHeld => ?_)
        clear hK K
        (try simp only [Act.put, List.setIfInBounds_toArray, List.set_cons_zero, List.set_cons_succ])
        refine wpAnyH_ready (rs := [4]) (by kernel_rfl) (by simp) ?_
        refine AllReadyH.cons rfl (fun K hK => ?_) AllReadyH.nil
        rw [if_pos (by rfl)]
        refine wp_app_sub9 _ _ rfl Wd.heap.size _ [] rfl (empty_row9 Wd) g 0 P c (xs.take P) rfl (by rw [List.length_take, HN.out]; omega) (fun i hi j hj => ?_) (by rw [List.length_take, HN.out]; simp; omega) (by simp) ?_
        · have hi' : i < P := by rw [List.length_take] at hi; omega
          rw [Nat.zero_add, OwnC.cell seC_len (HO.out _ HB3.out) i j (by have := HLT.out; omega) hj, List.getElem_take]
        intro v4 w4 hv4 hg4
        rw [List.nil_append] at hv4
        have HA4 : Hid (Arr w4 w.heap.size 27 [.slice none 0 0, .int .i64 0]) := Lib.hid ((hg4.block _ (by simp; omega) (fun e => by injection e with e; have e' : Wd.heap.size = w.heap.size := e.symm; omega)).trans HA3.out)
        have HB4 : Hid (Below w.heap.size w w4) := Lib.hid (HB3.out.grown hg4 HB3.out.size (fun k hk => by injection hk with hk; have hk' : Wd.heap.size = k := hk; omega))
        have hb4 := own_base hv4
        refine hK.out _ _ trivial (fun hHeld => ?_)
        clear hK K
        (try simp only [Act.put, List.setIfInBounds_toArray, List.set_cons_zero, List.set_cons_succ])
        refine wpAnyH_ready (rs := [9]) (by kernel_rfl) (by simp) ?_
        refine AllReadyH.cons rfl (fun K hK => ?_) AllReadyH.nil
        rw [if_pos (by rfl)]
        refine wp_app_sub9 _ _ rfl Wd.heap.size _ (xs.take P) rfl hv4 g ((P + 1) * 4) (n - (P + 1)) (c - (P + 1)) (xs.drop (P + 1)) rfl (by rw [List.length_drop, HN.out]) (fun i hi j hj => ?_) (by rw [List.length_take, List.length_drop, HN.out]; omega) (by have := hg4.size; simp at this; omega) ?_
        · rw [List.length_drop, HN.out] at hi
          rw [show (P + 1) * 4 + (i * 4 + j) = (P + 1 + i) * 4 + j by omega, OwnC.cell seC_len (HO.out _ HB4.out) (P + 1 + i) j (by rw [HN.out]; omega) hj, List.getElem_drop]
        intro v5 w5 hv5 hg5
        have HA5 : Hid (Arr w5 w.heap.size 27 [.slice none 0 0, .int .i64 0]) := Lib.hid ((hg5.block _ (arr9_lt HA4.out) (fun e => by have := hb4 _ e.symm; omega)).trans HA4.out)
        have HB5 : Hid (Below w.heap.size w w5) := Lib.hid (HB4.out.grown hg5 HB4.out.size (fun k hk => by have := hb4 k hk; omega))
        obtain ⟨q5, k5, e5, -⟩ := hv5.row seC_len
        obtain ⟨m5, hm5⟩ : ∃ m, (xs.take P ++ (xs.drop (P + 1))).length = m := ⟨_, rfl⟩
        rw [hm5] at e5
        subst e5
        have HM5 := Lib.hid hm5
        clear hm5
        refine hK.out _ _ trivial (fun hHeld => ?_)
        clear hK K
        (try simp only [Act.put, List.setIfInBounds_toArray, List.set_cons_zero, List.set_cons_succ])
        refine takeQ (i := 10) (k := 35) (v := .agg #[.slice q5 m5 k5, .int .i64 0]) rfl (by rfl) (by kernel_rfl) (by kernel_rfl) (by kernel_rfl) (fun _ _ _ h => h) (by rfl) ?_ hHeld ?_
        · intro w1 hSw; go_simp
        (try simp only [Act.put, List.setIfInBounds_toArray, List.set_cons_zero, List.set_cons_succ])
        obtain ⟨⟨c0, c1⟩, k0, k1⟩ := arr9_two HA5.out
        refine wpAnyH_ready (rs := [11]) (by kernel_rfl) (by simp) ?_
        refine AllReadyH.cons rfl (fun K hK => ?_) AllReadyH.nil
        rw [if_pos (by rfl)]
        go_simp
        refine hK.out _ _ trivial (fun hHeld => ?_)
        clear hK K
        (try simp only [Act.put, List.setIfInBounds_toArray, List.set_cons_zero, List.set_cons_succ])
        refine wpAnyH_done (by kernel_rfl) ?_ _
        go_wp2
        obtain rfl := HM5.out
        obtain ⟨hE, hO2, hBl⟩ := pass9 (W2 := w) (R := ⟨xs.take P ++ (xs.drop (P + 1)), 0⟩) HA5.out HB5.out (Nat.le_refl _) hzd hv5
        exact bodyPost_ret (v := .agg #[.slice q5 (xs.take P ++ (xs.drop (P + 1))).length k5, .int .i64 0]) (results_cell_row (P := Try.prog) Try.results21 _ _ w.heap.size 27 _ (0, 0) _ rfl hE Try.underlying27 rfl (by kernel_rfl)) rfl
          ⟨⟨q5, k5, rfl, hO2⟩, hBl⟩
    · rw [if_neg h3] at i2
      rw [unb_none h1 h2 (by simpa using h3)]
      rw [hxn] at hn i1 i2 HO ⊢
      clear hO hw hxn h1 h2 h3
      go_enter Try.func21, Try.ntmps21
      go_wp2_with (first
        | (go_at_call 31; go_fit (i1 _ (row_own9 (HO.out _ HB0.out))); rintro e0 w1 ⟨rfl, hb⟩; have HA1 := Lib.hid (arr9_on HA0.out hb); have HB1 := Lib.hid (HB0.out.trans (hb.mono HB0.out.size)); clear hb)
        | (go_at_call 73; go_fit (i2 _ (row_own9 (HO.out _ HB1.out))); rintro e0 w2 ⟨rfl, hb⟩; have HA2 := Lib.hid (arr9_on HA1.out hb); have HB2 := Lib.hid (HB1.out.trans (hb.mono HB1.out.size)); clear hb)
        | (go_at_call 71; go_fit (i0 _ _); rintro e0 w9 ⟨rfl, hb⟩; have HA9 := Lib.hid (arr9_on HA2.out hb); have HB9 := Lib.hid (HB2.out.trans (hb.mono HB2.out.size)); clear hb; obtain ⟨⟨c0, c1⟩, k0, k1⟩ := arr9_two HA9.out))
      have hE : Arr _ w.heap.size 27 [.slice none 0 0, .int .i64 6] := ((HA9.out.put 0 (.slice none 0 0)).put 1 (.int .i64 6))
      exact bodyPost_ret (v := .agg #[.slice none 0 0, .int .i64 6]) (results_cell_row (P := Try.prog) Try.results21 _ _ w.heap.size 27 _ (0, 0) _ rfl hE Try.underlying27 rfl (by kernel_rfl)) rfl
        ⟨so_ill _ _ _, (HB9.out.setCell (p := ⟨w.heap.size, 0, none⟩) (Nat.le_refl _) _).setCell (p := ⟨w.heap.size, 1, none⟩) (Nat.le_refl _) _⟩
  · rw [unb_form h1 (by simpa using h2)]
    rw [show okB xs = false by simpa using h2] at i1
    rw [hxn] at hn i1 HO ⊢
    clear hO hw i2 hxn h1 h2
    go_enter Try.func21, Try.ntmps21
    go_wp2_with (first
      | (go_at_call 31; go_fit (i1 _ (row_own9 (HO.out _ HB0.out))); rintro e0 w1 ⟨rfl, hb⟩; have HA1 := Lib.hid (arr9_on HA0.out hb); have HB1 := Lib.hid (HB0.out.trans (hb.mono HB0.out.size)); clear hb)
      | (go_at_call 71; go_fit (i0 _ _); rintro e0 w9 ⟨rfl, hb⟩; have HA9 := Lib.hid (arr9_on HA1.out hb); have HB9 := Lib.hid (HB1.out.trans (hb.mono HB1.out.size)); clear hb; obtain ⟨⟨c0, c1⟩, k0, k1⟩ := arr9_two HA9.out))
    have hE : Arr _ w.heap.size 27 [.slice none 0 0, .int .i64 1] := ((HA9.out.put 0 (.slice none 0 0)).put 1 (.int .i64 1))
    exact bodyPost_ret (v := .agg #[.slice none 0 0, .int .i64 1]) (results_cell_row (P := Try.prog) Try.results21 _ _ w.heap.size 27 _ (0, 0) _ rfl hE Try.underlying27 rfl (by kernel_rfl)) rfl
      ⟨so_ill _ _ _, (HB9.out.setCell (p := ⟨w.heap.size, 0, none⟩) (Nat.le_refl _) _).setCell (p := ⟨w.heap.size, 1, none⟩) (Nat.le_refl _) _⟩
end Go.Proofs.Ytafdjjdmcnlddaa

namespace Go.Proofs.Ytafdjjdmcnlddaa
set_option linter.unusedSimpArgs false
set_option linter.unusedVariables false
open Go.RowKit Go.Joins

/-- A row of strings of the call's own. -/
def OwnT (w : World) (B : Nat) (v : Value) (ps : List ByteArray) : Prop := w.ownsRow B 9 1 v ps.length (ps.map Value.string)
theorem own_on9 {w w' : World} {B : Nat} {v : Value} {ps : List ByteArray} (h : OwnT w B v ps) (hb : Below w.heap.size w w') : OwnT w' B v ps := ownsRow_on h hb
theorem info_str9 : (Try.prog.info? 9).map (fun i => (i.zero, i.size, i.bytes)) = some (some (.string ⟨#[]⟩), 1, 16) := by kernel_rfl
theorem wp_app_str9 {o : Oper} {a : Act} {w : World} {K : Act → World → Prop} {Q : Exit → Act → World → Prop} (s x : Operand)
    (ho : o.op = Op.call { callee := Callee.builtin Builtin.append, args := #[s, x], argTypes := #[77, 77] })
    (B : Nat) (v : Value) (ps : List ByteArray) (hs : a.eval s = v) (hown : OwnT w B v ps) (g : Nat) (y : ByteArray) (hx : a.eval x = .slice (some ⟨g, 0, none⟩) 1 1)
    (hc : w.cell? ⟨g, 0, none⟩ = some (.string y)) (hmax : ps.length ≤ 2000000) (hB : B ≤ w.heap.size)
    (h : ∀ v' w', OwnT w' B v' (ps ++ [y]) → w.grownBy w' v.ownBlock → (∀ k, v.ownBlock = some k → B ≤ k ∧ k < w.heap.size) → K (a.put o.dst v') w') : o.wp Try.prog a w K Q := by
  obtain ⟨i0, hi, hz0, hz1, hz2⟩ := info_parts info_str9
  obtain ⟨v', w', hr, h1, h2, _⟩ := run_append_own (P := Try.prog) w B 77 o.type 9 i0 (.string ⟨#[]⟩) 1 16 Try.underlying77 hi hz0 hz1 hz2 rfl (by decide) v ps.length (ps.map Value.string) hown ⟨g, 0, none⟩ 1 1 [.string y]
    rfl (fun j u hj => by
      have hj' : j = 0 := by have := (List.getElem?_eq_some_iff.1 hj).1; simp at this; omega
      subst hj'
      rw [show (⟨g, 0, none⟩ : Addr).add 0 = ⟨g, 0, none⟩ by unfold Addr.add; split <;> simp_all, hc, ← hj]
      rfl) (fun u hu => by simp at hu; subst hu; rfl) (by unfold maxLen; omega) (by omega) hB
  unfold Oper.wp execOp
  simp only [ho, resolve, invoke, builtin, Sem.run_bind, Sem.run_pure, Result.andThen_ok, List.map_toArray, List.map_cons, List.map_nil, hs, hx, hr]
  refine h v' w' ?_ h2 (fun k hk => World.ownsRow.lt hown k hk)
  unfold OwnT
  rw [List.length_append, List.map_append]
  exact h1
end Go.Proofs.Ytafdjjdmcnlddaa

namespace Go.Proofs.Ytafdjjdmcnlddaa
set_option linter.unusedSimpArgs false
set_option linter.unusedVariables false
open Go.RowKit Go.Joins

/-- What one session shows. -/
def pieceS (x : SeL) : ByteArray := x.r ++ ⟨#[58]⟩ ++ x.s
def pcsS (xs : List SeL) : List ByteArray := (xs.filter (fun x => x.o)).map pieceS
def sepS (t : ByteArray) : ByteArray := if t.toList = [] then t else t ++ ⟨#[32]⟩
def seenT (t : ByteArray) : List SeL → ByteArray
  | [] => t
  | x :: l => if x.o then seenT (sepS t ++ x.r ++ ⟨#[58]⟩ ++ x.s) l else seenT t l
noncomputable def seenR (xs : List SeL) : ByteArray := if okB xs = true then seenT ⟨#[]⟩ xs else ⟨#[]⟩
theorem app_data (a b : ByteArray) : (a ++ b).data.toList = a.data.toList ++ b.data.toList := by simp [ByteArray.data_append]
theorem piece_data (x : SeL) : (pieceS x).data.toList = x.r.data.toList ++ [58] ++ x.s.data.toList := by
  unfold pieceS
  rw [app_data, app_data]
theorem seen_list : ∀ (xs : List SeL) (t : ByteArray), (seenT t xs).data.toList = if t.data.toList = [] then Lib.join ((pcsS xs).map (·.data.toList)) [32] else t.data.toList ++ Lib.joinTail [32] ((pcsS xs).map (·.data.toList))
  | [], t => by
    show t.data.toList = _
    split
    · rename_i h; rw [h]; rfl
    · show _ = t.data.toList ++ []
      rw [List.append_nil]
  | x :: l, t => by
    cases ho : x.o
    · have e1 : seenT t (x :: l) = seenT t l := by show (if x.o = true then _ else _) = _; rw [ho]; rfl
      have e2 : pcsS (x :: l) = pcsS l := by unfold pcsS; rw [List.filter_cons, ho]; rfl
      rw [e1, e2]
      exact seen_list l t
    · have e1 : seenT t (x :: l) = seenT (sepS t ++ x.r ++ ⟨#[58]⟩ ++ x.s) l := by show (if x.o = true then _ else _) = _; rw [ho]; rfl
      have e2 : pcsS (x :: l) = pieceS x :: pcsS l := by unfold pcsS; rw [List.filter_cons, ho]; rfl
      have hd : (sepS t ++ x.r ++ ⟨#[58]⟩ ++ x.s).data.toList = (sepS t).data.toList ++ (pieceS x).data.toList := by
        rw [piece_data, app_data, app_data, app_data]
        simp [List.append_assoc]
      have hne : (sepS t ++ x.r ++ ⟨#[58]⟩ ++ x.s).data.toList ≠ [] := by rw [hd, piece_data]; simp
      rw [e1, seen_list l, if_neg hne, e2, List.map_cons, hd]
      unfold sepS
      rw [ByteArray.toList_eq]
      by_cases ht : t.data.toList = []
      · rw [if_pos ht, if_pos ht, ht, Lib.join_cons]
        rfl
      · rw [if_neg ht, if_neg ht, app_data]
        unfold Lib.joinTail
        rw [List.map_cons, List.flatten_cons]
        simp [List.append_assoc]
theorem data_inj {a b : ByteArray} (h : a.data.toList = b.data.toList) : a = b := by
  obtain ⟨⟨a⟩⟩ := a
  obtain ⟨⟨b⟩⟩ := b
  have h' : a = b := h
  rw [h']
theorem seen_join (xs : List SeL) : seenT ⟨#[]⟩ xs = ⟨(Lib.join ((pcsS xs).map (·.data.toList)) [32]).toArray⟩ := data_inj (by rw [seen_list, if_pos rfl])
theorem bnd9 {z a b k K t A : Nat} (h1 : z ≤ t + 1) (ha : a ≤ A) (hb : b ≤ A) (hK : A + A + 2 ≤ K) (ht : t ≤ k * K) : z + a + 1 + b ≤ (k + 1) * K := by
  rw [Nat.add_mul, Nat.one_mul]
  omega
theorem bnd9b {z a b l K t A : Nat} (h1 : z ≤ t + 1) (ha : a ≤ A) (hb : b ≤ A) (hK : A + A + 2 ≤ K) : z + a + 1 + b + l * K ≤ t + (l + 1) * K := by
  rw [Nat.add_mul, Nat.one_mul]
  omega
set_option maxRecDepth 100000 in
theorem seen_size : ∀ (xs : List SeL) (t : ByteArray), (∀ x ∈ xs, x.r.size ≤ 1048576 ∧ x.s.size ≤ 1048576) → (seenT t xs).size ≤ t.size + xs.length * 2097154
  | [], t, _ => by show t.size ≤ _; omega
  | x :: l, t, h => by
    have hx := h x (List.mem_cons_self ..)
    have hl := fun y hy => h y (List.mem_cons_of_mem x hy)
    show (if x.o = true then seenT (sepS t ++ x.r ++ ⟨#[58]⟩ ++ x.s) l else seenT t l).size ≤ _
    rw [List.length_cons]
    split
    · refine Nat.le_trans (seen_size l _ hl) ?_
      have hs : (sepS t).size ≤ t.size + 1 := by
        unfold sepS
        split
        · omega
        · rw [ByteArray.size_append]; exact Nat.le_refl _
      simp only [ByteArray.size_append]
      have h58 : (⟨#[58]⟩ : ByteArray).size = 1 := rfl
      rw [h58]
      exact bnd9b hs hx.1 hx.2 (by decide)
    · exact Nat.le_trans (seen_size l t hl) (Nat.add_le_add_left (Nat.mul_le_mul_right _ (Nat.le_succ _)) _)
theorem pcs_len (xs : List SeL) : (pcsS xs).length ≤ xs.length := by unfold pcsS; rw [List.length_map]; exact List.length_filter_le _ _
theorem pcs_succ {xs : List SeL} {k : Nat} (hk : k < xs.length) : pcsS (xs.take (k + 1)) = if xs[k].o then pcsS (xs.take k) ++ [pieceS xs[k]] else pcsS (xs.take k) := by
  rw [List.take_succ_eq_append_getElem hk]
  unfold pcsS
  rw [List.filter_append, List.map_append]
  cases ho : xs[k].o
  · simp [ho]
  · simp [ho]
theorem joined_three9 (r s : ByteArray) (w : World) (hr : r.size ≤ 1048576) (hs : s.size ≤ 1048576) {p : Int} :
    Calls Try.prog 68 #[.slice (some ⟨w.heap.size, 0, none⟩) 3 3] (w.alloc (.cells #[.string r, .string ⟨#[58]⟩, .string s] 9)) fun e w' => e = .returned (.string (pieceS ⟨r, true, p, s⟩)) ∧ Below w.heap.size w w' := by
  have hA := Arr.fresh w 9 [.string r, .string ⟨#[58]⟩, .string s]
  have h := impl_joined w.heap.size 3 [r, ⟨#[58]⟩, s] (w.alloc (.cells #[.string r, .string ⟨#[58]⟩, .string s] 9)) (by simp) (fun j hj => by
    match j, hj with
    | 0, _ => exact hA.cell 0
    | 1, _ => exact hA.cell 1
    | 2, _ => exact hA.cell 2) (by simp) (by unfold flat; simp only [List.flatMap_cons, List.flatMap_nil, List.length_append, size_data, List.length_nil]; show r.size + (1 + (s.size + 0)) ≤ _; omega)
  have e : strOf (flat [r, ⟨#[58]⟩, s]) = pieceS ⟨r, true, p, s⟩ := data_inj (by
    rw [piece_data]
    show flat [r, ⟨#[58]⟩, s] = _
    unfold flat
    simp)
  rw [e] at h
  exact h.mono fun e w' ⟨he, hb⟩ => ⟨he, below_one hb⟩
theorem join_own9 {w : World} {B : Nat} {v : Value} {ps : List ByteArray} (hown : OwnT w B v ps) (hl : ps.length ≤ 1000000) (hj : (Lib.join (ps.map (·.data.toList)) [32]).length ≤ 140737488355328) :
    Calls Try.prog 80 #[v, .string ⟨#[32]⟩] w fun e w' => e = .returned (.string ⟨(Lib.join (ps.map (·.data.toList)) [32]).toArray⟩) ∧ Below w.heap.size w w' := by
  rcases hown.2 with ⟨h0, h1⟩ | ⟨g, cap, cur, h1, h2, h3, h4, h5, h6, h7⟩
  · have hn := List.eq_nil_of_length_eq_zero h1
    subst hn
    rw [h0]
    refine (Try.strings_Join_none none 0 ⟨#[32]⟩ w).mono ?_
    rintro e w' ⟨rfl, rfl⟩
    exact ⟨rfl, Below.refl _ _⟩
  · have hcells : ∀ (j : Nat) x, ps[j]? = some x → w.cell? ⟨g, 0 + j, none⟩ = some (.string x) := by
      intro j x hj
      have hlt : j < ps.length := (List.getElem?_eq_some_iff.1 hj).1
      have := World.ownsRow.cells (show w.ownsRow B 9 1 v ps.length (ps.map Value.string) from hown) (g := g) (by rw [h1]; rfl) j (.string x) (by rw [List.getElem?_map, hj]; rfl)
      rw [show (⟨g, 0, none⟩ : Addr).add j = ⟨g, 0 + j, none⟩ by unfold Addr.add; split <;> simp_all] at this
      exact this
    rw [h1]
    exact Try.strings_Join g 0 cap ps ⟨#[32]⟩ w hcells (Array.getElem?_eq_some_iff.1 h3).1 (by omega) h4 hj
set_option maxRecDepth 100000 in
set_option maxHeartbeats 4000000 in
theorem impl_seen (xs : List SeL) (p0 : Option Addr) (c : Nat) (w : World) (hn : xs.length ≤ 1048576) (hw : ∀ x ∈ xs, x.r.size ≤ maxLen) (hw2 : ∀ x ∈ xs, x.r.size ≤ 1048576 ∧ x.s.size ≤ 1048576) (hR : RowC seC 4 w p0 xs) :
    Calls Try.prog 26 #[.slice p0 xs.length c] w fun e w' => e = .returned (.string (seenR xs)) ∧ Below w.heap.size w w' := by
  have i1 := impl_seright xs p0 c w hn hw hR
  unfold seenR
  by_cases hk : okB xs = true
  rotate_left
  · rw [if_neg hk]
    rw [show okB xs = false by simpa using hk] at i1
    clear hk hw hw2 hR
    go_enter Try.func26, Try.ntmps26
    go_wp2_with (go_at_call 30; go_fit i1; rintro e w1 ⟨rfl, hb⟩)
    go_ret
    exact ⟨rfl, hb⟩
  rw [if_pos hk]
  rw [hk] at i1
  have h5 := (okB_iff.1 hk).1
  have HJ : Hid ((Lib.join ((pcsS xs).map (·.data.toList)) [32]).length ≤ 140737488355328) := Lib.hid (by
    have h1 := seen_size xs ⟨#[]⟩ hw2
    rw [seen_join] at h1
    have h2 : (⟨(Lib.join ((pcsS xs).map (·.data.toList)) [32]).toArray⟩ : ByteArray).size = (Lib.join ((pcsS xs).map (·.data.toList)) [32]).length := by show Array.size _ = _; simp
    rw [h2] at h1
    have h3 : (⟨#[]⟩ : ByteArray).size = 0 := rfl
    omega)
  rw [seen_join]
  obtain ⟨Z, hZ⟩ : ∃ Z : ByteArray, ⟨(Lib.join ((pcsS xs).map (·.data.toList)) [32]).toArray⟩ = Z := ⟨_, rfl⟩
  have HZ := Lib.hid hZ
  rw [hZ]
  clear hZ hk
  obtain ⟨n, hxn⟩ : ∃ n, xs.length = n := ⟨_, rfl⟩
  have HP := Lib.hid (fun W (h : Below w.heap.size w W) => hR.on h)
  have HW := Lib.hid hw2
  have HN := Lib.hid hxn
  rw [hxn] at hn i1 h5 ⊢
  clear hR hw hw2 hxn
  go_enter Try.func26, Try.ntmps26
  go_wp2_with (go_at_call 30; go_fit i1; rintro e w1 ⟨rfl, hb⟩; have HB1 := Lib.hid hb; clear hb)
  go_loopw [3, 10] (fun v iq wr => ∃ k : Nat, k ≤ n ∧ iq = .int .i64 k ∧ OwnT wr w.heap.size v (pcsS (xs.take k)) ∧ Below w.heap.size w wr) (fun _ i _ => n - (intOf i).toNat)
  case atStart => exact ⟨0, Nat.zero_le _, rfl, World.ownsRow_nil _ _ _ _, HB1.out⟩
  case round =>
    obtain ⟨v, hvu⟩ : ∃ v, v = u3 := ⟨_, rfl⟩
    subst hvu
    obtain ⟨k, hk, rfl, hv, hb⟩ := hrel
    have HV := Lib.hid hv
    have HB := Lib.hid hb
    clear hv
    by_cases hlt : k < n
    · have hlt1 : k < xs.length := by rw [HN.out]; exact hlt
      obtain ⟨g, rfl, hg, a0, a1, a2, a3⟩ := row_se4 (HP.out _ hb) hlt1
      have hxw := HW.out _ (List.getElem_mem hlt1)
      have hps := pcs_succ hlt1
      obtain ⟨x, hx⟩ : ∃ x, xs[k] = x := ⟨_, rfl⟩
      rw [hx] at a0 a1 a2 a3 hxw hps
      obtain ⟨r, o, p, s⟩ := x
      have i3 := fun W => impl_ison ⟨r, o, p, s⟩ W
      unfold seV at i3
      dsimp only at a0 a1 a2 a3 i3 hxw hps
      have HPS := Lib.hid hps
      have HX := Lib.hid hx
      have q1 : (0 : Int) ≤ (k : Int) := by omega
      have q2 : (k : Int) < (n : Int) := by omega
      clear hb hx hps
      cases o
      · rw [if_neg (by decide)] at HPS
        go_wp2_with (go_at_call 79; go_fit (i3 _); rintro e w2 ⟨rfl, hb2⟩)
        go_roundw
        case rel => exact ⟨k + 1, by omega, by go_num, by rw [HPS.out]; exact own_on9 HV.out hb2, HB.out.trans (hb2.mono HB.out.size)⟩
        case measure => simp [intOf]; omega
      · rw [if_pos rfl] at HPS
        go_wp2_with (go_at_call 79; go_fit (i3 _); rintro e w2 ⟨rfl, hb2⟩; have HV2 := Lib.hid (own_on9 HV.out hb2); have HB2 := Lib.hid (HB.out.trans (hb2.mono HB.out.size)); clear hb2)
        clear a0 a1 a2 a3
        refine wp_region_held_drew (S := fun W => (RowC seC 4 W (some ⟨g, 0, none⟩) xs ∧ Below w.heap.size w W)) (by kernel_rfl) ⟨HP.out _ HB2.out.drew, HB2.out.drew⟩ (fun hHeld => ?_)
        have HVd : Hid (OwnT w2.drew w.heap.size v (pcsS (xs.take k))) := Lib.hid (own_on9 HV2.out (Below.refl _ _).drew)
        have HRd := Lib.hid (HP.out _ HB2.out.drew)
        have HBd := Lib.hid HB2.out.drew
        generalize w2.drew = Wd at hHeld HVd HRd HBd ⊢
        refine takeQ (i := 0) (k := 18) (v := v) rfl (by rfl) (by kernel_rfl) (by kernel_rfl) (by kernel_rfl) (fun _ _ _ h => h) (by rfl) ?_ hHeld ?_
        · intro w1 hSw; go_simp
        (try simp only [Act.put, List.setIfInBounds_toArray, List.set_cons_zero, List.set_cons_succ])
        refine takeQ (i := 1) (k := 19) (v := .slice (some ⟨g, 0, none⟩) n c) rfl (by rfl) (by kernel_rfl) (by kernel_rfl) (by kernel_rfl) (fun _ _ _ h => h) (by rfl) ?_ hHeld ?_
        · intro w1 hSw; go_simp
        (try simp only [Act.put, List.setIfInBounds_toArray, List.set_cons_zero, List.set_cons_succ])
        refine takeQ (i := 2) (k := 20) (v := .int .i64 (k : Int)) rfl (by rfl) (by kernel_rfl) (by kernel_rfl) (by kernel_rfl) (fun _ _ _ h => h) (by rfl) ?_ hHeld ?_
        · intro w1 hSw; go_simp
        (try simp only [Act.put, List.setIfInBounds_toArray, List.set_cons_zero, List.set_cons_succ])
        refine takeQ (i := 3) (k := 21) (v := .pointer (some ⟨g, k * 4, none⟩)) rfl (by rfl) (by kernel_rfl) (by kernel_rfl) (by kernel_rfl) (fun _ _ _ h => h) (by rfl) ?_ hHeld ?_
        · intro w1 hSw; go_simp
        (try simp only [Act.put, List.setIfInBounds_toArray, List.set_cons_zero, List.set_cons_succ])
        refine takeQ (i := 4) (k := 22) (v := .pointer (some ⟨g, k * 4, none⟩)) rfl (by rfl) (by kernel_rfl) (by kernel_rfl) (by kernel_rfl) (fun _ _ _ h => h) (by rfl) ?_ hHeld ?_
        · intro w1 hSw; go_simp
        (try simp only [Act.put, List.setIfInBounds_toArray, List.set_cons_zero, List.set_cons_succ])
        refine takeQ (i := 5) (k := 23) (v := .string r) rfl (by rfl) (by kernel_rfl) (by kernel_rfl) (by kernel_rfl) (fun _ _ _ h => h) (by rfl) ?_ hHeld ?_
        · intro w1 hSw; (obtain ⟨g2, hgg, _, y0, y1, y2, y3⟩ := row_se4 hSw.1 hlt1); (injection hgg with hgg); (injection hgg with hgg); subst hgg; rw [HX.out] at y0 y1 y2 y3; dsimp only at y0 y1 y2 y3; go_simp
        (try simp only [Act.put, List.setIfInBounds_toArray, List.set_cons_zero, List.set_cons_succ])
        refine takeQ (i := 6) (k := 24) (v := .slice (some ⟨g, 0, none⟩) n c) rfl (by rfl) (by kernel_rfl) (by kernel_rfl) (by kernel_rfl) (fun _ _ _ h => h) (by rfl) ?_ hHeld ?_
        · intro w1 hSw; go_simp
        (try simp only [Act.put, List.setIfInBounds_toArray, List.set_cons_zero, List.set_cons_succ])
        refine takeQ (i := 7) (k := 25) (v := .int .i64 (k : Int)) rfl (by rfl) (by kernel_rfl) (by kernel_rfl) (by kernel_rfl) (fun _ _ _ h => h) (by rfl) ?_ hHeld ?_
        · intro w1 hSw; go_simp
        (try simp only [Act.put, List.setIfInBounds_toArray, List.set_cons_zero, List.set_cons_succ])
        refine takeQ (i := 8) (k := 26) (v := .pointer (some ⟨g, k * 4, none⟩)) rfl (by rfl) (by kernel_rfl) (by kernel_rfl) (by kernel_rfl) (fun _ _ _ h => h) (by rfl) ?_ hHeld ?_
        · intro w1 hSw; go_simp
        (try simp only [Act.put, List.setIfInBounds_toArray, List.set_cons_zero, List.set_cons_succ])
        refine takeQ (i := 9) (k := 27) (v := .pointer (some ⟨g, k * 4 + 3, none⟩)) rfl (by rfl) (by kernel_rfl) (by kernel_rfl) (by kernel_rfl) (fun _ _ _ h => h) (by rfl) ?_ hHeld ?_
        · intro w1 hSw; go_simp
        (try simp only [Act.put, List.setIfInBounds_toArray, List.set_cons_zero, List.set_cons_succ])
        refine takeQ (i := 10) (k := 28) (v := .string s) rfl (by rfl) (by kernel_rfl) (by kernel_rfl) (by kernel_rfl) (fun _ _ _ h => h) (by rfl) ?_ hHeld ?_
        · intro w1 hSw; (obtain ⟨g2, hgg, _, y0, y1, y2, y3⟩ := row_se4 hSw.1 hlt1); (injection hgg with hgg); (injection hgg with hgg); subst hgg; rw [HX.out] at y0 y1 y2 y3; dsimp only at y0 y1 y2 y3; go_simp
        (try simp only [Act.put, List.setIfInBounds_toArray, List.set_cons_zero, List.set_cons_succ])
        refine wpAnyH_ready (rs := [11]) (by kernel_rfl) (by simp) ?_
        refine AllReadyH.cons rfl (fun K hK => ?_) AllReadyH.nil
        rw [if_pos (by rfl)]
        go_simp
        have hbA : Below Wd.heap.size Wd (Wd.alloc (.cells #[.string r, .string ⟨#[58]⟩, .string s] 9)) := (Below.refl _ _).alloc (Nat.le_refl _) _
        have HVA := Lib.hid (own_on9 HVd.out hbA)
        have hHA : (RowC seC 4 (Wd.alloc (.cells #[.string r, .string ⟨#[58]⟩, .string s] 9)) (some ⟨g, 0, none⟩) xs ∧ Below w.heap.size w (Wd.alloc (.cells #[.string r, .string ⟨#[58]⟩, .string s] 9))) := ⟨hHeld.1.on hbA, hHeld.2.trans (hbA.mono hHeld.2.size)⟩
        refine hK.out _ _ hHA (fun hHeld => ?_)
        clear hK K
        (try simp only [Act.put, List.setIfInBounds_toArray, List.set_cons_zero, List.set_cons_succ])
        refine wpAnyH_ready (rs := [12]) (by kernel_rfl) (by simp) ?_
        refine AllReadyH.cons rfl (fun K hK => ?_) AllReadyH.nil
        rw [if_pos (by rfl)]
        go_simp
        go_fit (joined_three9 r s Wd hxw.1 hxw.2 (p := p))
        rintro e0 w4 ⟨rfl, hb4⟩
        have HV4 := Lib.hid (own_on9 HVd.out hb4)
        have hH4 : (RowC seC 4 w4 (some ⟨g, 0, none⟩) xs ∧ Below w.heap.size w w4) := ⟨HRd.out.on hb4, HBd.out.trans (hb4.mono HBd.out.size)⟩
        refine hK.out _ _ hH4 (fun hHeld => ?_)
        clear hK K
        (try simp only [Act.put, List.setIfInBounds_toArray, List.set_cons_zero, List.set_cons_succ])
        refine wpAnyH_ready (rs := [13]) (by kernel_rfl) (by simp) ?_
        refine AllReadyH.cons rfl (fun K hK => ?_) AllReadyH.nil
        rw [if_pos (by rfl)]
        go_simp
        have hbB : Below w4.heap.size w4 (w4.alloc (.cells #[.string (pieceS ⟨r, true, p, s⟩)] 9)) := (Below.refl _ _).alloc (Nat.le_refl _) _
        have HVB := Lib.hid (own_on9 HV4.out hbB)
        have hHB : (RowC seC 4 (w4.alloc (.cells #[.string (pieceS ⟨r, true, p, s⟩)] 9)) (some ⟨g, 0, none⟩) xs ∧ Below w.heap.size w (w4.alloc (.cells #[.string (pieceS ⟨r, true, p, s⟩)] 9))) := ⟨hH4.1.on hbB, hH4.2.trans (hbB.mono hH4.2.size)⟩
        refine hK.out _ _ hHB (fun hHeld => ?_)
        clear hK K
        (try simp only [Act.put, List.setIfInBounds_toArray, List.set_cons_zero, List.set_cons_succ])
        refine wpAnyH_ready (rs := [14]) (by kernel_rfl) (by simp) ?_
        refine AllReadyH.cons rfl (fun K hK => ?_) AllReadyH.nil
        rw [if_pos (by rfl)]
        refine wp_app_str9 _ _ rfl w.heap.size v (pcsS (xs.take k)) rfl HVB.out w4.heap.size (pieceS ⟨r, true, p, s⟩) rfl ((Arr.fresh w4 9 [.string (pieceS ⟨r, true, p, s⟩)]).cell 0) (by have := pcs_len (xs.take k); rw [List.length_take] at this; omega) (by have := hHB.2.size; omega) ?_
        intro v5 w5 hv5 hg5 hin5
        have hH5 : (RowC seC 4 w5 (some ⟨g, 0, none⟩) xs ∧ Below w.heap.size w w5) := ⟨HP.out w5 (hHB.2.grown hg5 hHB.2.size (fun k hk => (hin5 k hk).1)), hHB.2.grown hg5 hHB.2.size (fun k hk => (hin5 k hk).1)⟩
        refine hK.out _ _ hH5 (fun hHeld => ?_)
        clear hK K
        (try simp only [Act.put, List.setIfInBounds_toArray, List.set_cons_zero, List.set_cons_succ])
        refine takeQ (i := 15) (k := 3) (v := v5) rfl (by rfl) (by kernel_rfl) (by kernel_rfl) (by kernel_rfl) (fun _ _ _ h => h) (by rfl) ?_ hHeld ?_
        · intro w1 hSw; go_simp
        (try simp only [Act.put, List.setIfInBounds_toArray, List.set_cons_zero, List.set_cons_succ])
        refine wpAnyH_done (by kernel_rfl) ?_ _
        go_wp2
        go_roundw
        case rel => exact ⟨k + 1, by omega, by go_num, by rw [HPS.out]; exact hv5, hHeld.2⟩
        case measure => simp [intOf]; omega
    · have HT : Hid (pcsS (xs.take k) = pcsS xs) := Lib.hid (by rw [List.take_of_length_le (by rw [HN.out]; omega)])
      have HVE := HV.out
      rw [HT.out] at HVE
      have i9 := fun W hO => join_own9 (w := W) (B := w.heap.size) (v := v) (ps := pcsS xs) hO (by have := pcs_len xs; rw [HN.out] at this; omega) HJ.out
      rw [HZ.out] at i9
      have HVE2 := Lib.hid HVE
      clear hb HVE HV
      go_wp2_with (go_at_call 80; go_fit (i9 _ HVE2.out); rintro e w3 ⟨rfl, hb3⟩)
      go_ret
      exact ⟨rfl, HB.out.trans (hb3.mono HB.out.size)⟩
set_option maxRecDepth 100000 in
set_option maxHeartbeats 4000000 in
theorem spec_seen (xs : List SeL) (p0 : Option Addr) (c B0 : Nat) (w : World) (hn : xs.length ≤ 1048576) (hw : ∀ x ∈ xs, x.r.size ≤ maxLen) (hw2 : ∀ x ∈ xs, x.r.size ≤ 1048576 ∧ x.s.size ≤ 1048576) (hR : RowC seC 4 w p0 xs) :
    Calls Try.prog 28 #[.slice p0 xs.length c] w fun e w' => e = .returned (.string (seenR xs)) ∧ Below w.heap.size w w' := by
  have i1 := spec_seright xs p0 c w hn hw hR
  unfold seenR
  by_cases hk : okB xs = true
  rotate_left
  · rw [if_neg hk]
    rw [show okB xs = false by simpa using hk] at i1
    clear hk hw hw2 hR
    go_enter Try.func28, Try.ntmps28
    go_wp2_with (go_at_call 31; go_fit i1; rintro e w1 ⟨rfl, hb⟩)
    go_ret
    exact ⟨rfl, hb⟩
  rw [if_pos hk]
  rw [hk] at i1
  have h5 := (okB_iff.1 hk).1
  obtain ⟨Z, hZ⟩ : ∃ Z : ByteArray, seenT ⟨#[]⟩ xs = Z := ⟨_, rfl⟩
  have HZ := Lib.hid hZ
  rw [hZ]
  clear hZ hk
  obtain ⟨n, hxn⟩ : ∃ n, xs.length = n := ⟨_, rfl⟩
  have HP := Lib.hid (fun W (h : Below w.heap.size w W) => hR.on h)
  have HW := Lib.hid hw2
  have HN := Lib.hid hxn
  rw [hxn] at hn i1 h5 ⊢
  clear hR hw hw2 hxn
  go_enter Try.func28, Try.ntmps28
  go_wp2_with (go_at_call 31; go_fit i1; rintro e w1 ⟨rfl, hb⟩; have HB1 := Lib.hid hb; clear hb)
  go_loopw [3, 4] (fun tq iq wr => ∃ (k : Nat) (t : ByteArray), k ≤ n ∧ iq = .int .i64 k ∧ tq = .string t ∧ seenT t (xs.drop k) = Z ∧ t.size ≤ k * 2097154 ∧ Below w.heap.size w wr) (fun _ i _ => n - (intOf i).toNat)
  case atStart => exact ⟨0, ⟨#[]⟩, Nat.zero_le _, rfl, rfl, HZ.out, Nat.zero_le _, HB1.out⟩
  case round =>
    obtain ⟨k, t, hk, rfl, rfl, ht, hts, hb⟩ := hrel
    have HT := Lib.hid ht
    have HB := Lib.hid hb
    clear ht
    by_cases hlt : k < n
    · have hlt1 : k < xs.length := by rw [HN.out]; exact hlt
      obtain ⟨g, rfl, hg, a0, a1, a2, a3⟩ := row_se4 (HP.out _ hb) hlt1
      have hxw := HW.out _ (List.getElem_mem hlt1)
      have hdr : xs.drop k = xs[k] :: xs.drop (k + 1) := List.drop_eq_getElem_cons hlt1
      obtain ⟨x, hx⟩ : ∃ x, xs[k] = x := ⟨_, rfl⟩
      rw [hx] at a0 a1 a2 a3 hxw hdr
      obtain ⟨r, o, p, s⟩ := x
      dsimp only at a0 a1 a2 a3 hxw
      have HD := Lib.hid hdr
      have HX2 := Lib.hid hx
      have q1 : (0 : Int) ≤ (k : Int) := by omega
      have q2 : (k : Int) < (n : Int) := by omega
      obtain ⟨hx1, hx2⟩ := hxw
      clear hx hdr
      cases o
      · have HS : Hid (seenT t (xs.drop (k + 1)) = Z) := Lib.hid (by have := HT.out; rw [HD.out] at this; exact this)
        clear hb
        go_wp2
        go_roundw
        case rel => exact ⟨k + 1, t, by omega, by go_num, rfl, HS.out, Nat.le_trans hts (Nat.mul_le_mul_right _ (Nat.le_succ _)), HB.out⟩
        case measure => simp [intOf]; omega
      · have HS : Hid (seenT (sepS t ++ r ++ ⟨#[58]⟩ ++ s) (xs.drop (k + 1)) = Z) := Lib.hid (by have := HT.out; rw [HD.out] at this; exact this)
        have hss : (sepS t).size ≤ t.size + 1 := by
          unfold sepS
          split
          · omega
          · rw [ByteArray.size_append]; exact Nat.le_refl _
        obtain ⟨ZS, hZS⟩ : ∃ m, (sepS t).size = m := ⟨_, rfl⟩
        have hf1 : (sepS t ++ r).size = ZS + r.size := by rw [ByteArray.size_append, hZS]
        have hf2 : (sepS t ++ r ++ ⟨#[58]⟩).size = ZS + r.size + 1 := by rw [ByteArray.size_append, hf1]; rfl
        have hf3 : (sepS t ++ r ++ ⟨#[58]⟩ ++ s).size = ZS + r.size + 1 + s.size := by rw [ByteArray.size_append, hf2]
        rw [hZS] at hss
        have HBD : Hid ((sepS t ++ r ++ ⟨#[58]⟩ ++ s).size ≤ (k + 1) * 2097154) := Lib.hid (by rw [hf3]; exact bnd9 hss hx1 hx2 (by decide) hts)
        have HG1 : Hid (¬ (9223372036854775807 < (sepS t).size + r.size)) := Lib.hid (by rw [hZS]; clear hf1 hf2 hf3; omega)
        have HG2 : Hid (¬ (9223372036854775807 < (sepS t ++ r).size + (⟨#[58]⟩ : ByteArray).size)) := Lib.hid (by rw [hf1, show (⟨#[58]⟩ : ByteArray).size = 1 from rfl]; clear hf1 hf2 hf3; omega)
        have HG3 : Hid (¬ (9223372036854775807 < (sepS t ++ r ++ ⟨#[58]⟩).size + s.size)) := Lib.hid (by rw [hf2]; clear hf1 hf2 hf3; omega)
        clear hb hf1 hf2 hf3 hss hZS
        by_cases he : t.toList = []
        · have HE : Hid (sepS t = t) := Lib.hid (if_pos he)
          obtain rfl := ba_ext he
          have he2 : (⟨[].toArray⟩ : ByteArray) = ⟨#[]⟩ := rfl
          rw [he2] at HE HG1 HG2 HG3 HBD HS hts ⊢
          rw [HE.out] at HG1 HG2 HG3 HBD HS
          clear he
          go_wp2
          refine wp_region_held_drew (S := fun W => (RowC seC 4 W (some ⟨g, 0, none⟩) xs ∧ Below w.heap.size w W)) (by kernel_rfl) ⟨HP.out _ HB.out.drew, HB.out.drew⟩ (fun hHeld => ?_)
          generalize wr.drew = Wd at hHeld ⊢
          have g1 := HG1.out
          have g2 := HG2.out
          have g3 := HG3.out
          refine takeQ (i := 0) (k := 25) (v := .string ⟨#[]⟩) rfl (by rfl) (by kernel_rfl) (by kernel_rfl) (by kernel_rfl) (fun _ _ _ h => h) (by rfl) ?_ hHeld ?_
          · intro w1 hSw; go_simp
          (try simp only [Act.put, List.setIfInBounds_toArray, List.set_cons_zero, List.set_cons_succ])
          refine takeQ (i := 1) (k := 26) (v := .slice (some ⟨g, 0, none⟩) n c) rfl (by rfl) (by kernel_rfl) (by kernel_rfl) (by kernel_rfl) (fun _ _ _ h => h) (by rfl) ?_ hHeld ?_
          · intro w1 hSw; go_simp
          (try simp only [Act.put, List.setIfInBounds_toArray, List.set_cons_zero, List.set_cons_succ])
          refine takeQ (i := 2) (k := 27) (v := .int .i64 (k : Int)) rfl (by rfl) (by kernel_rfl) (by kernel_rfl) (by kernel_rfl) (fun _ _ _ h => h) (by rfl) ?_ hHeld ?_
          · intro w1 hSw; go_simp
          (try simp only [Act.put, List.setIfInBounds_toArray, List.set_cons_zero, List.set_cons_succ])
          refine takeQ (i := 3) (k := 28) (v := .pointer (some ⟨g, k * 4, none⟩)) rfl (by rfl) (by kernel_rfl) (by kernel_rfl) (by kernel_rfl) (fun _ _ _ h => h) (by rfl) ?_ hHeld ?_
          · intro w1 hSw; go_simp
          (try simp only [Act.put, List.setIfInBounds_toArray, List.set_cons_zero, List.set_cons_succ])
          refine takeQ (i := 4) (k := 29) (v := .pointer (some ⟨g, k * 4, none⟩)) rfl (by rfl) (by kernel_rfl) (by kernel_rfl) (by kernel_rfl) (fun _ _ _ h => h) (by rfl) ?_ hHeld ?_
          · intro w1 hSw; go_simp
          (try simp only [Act.put, List.setIfInBounds_toArray, List.set_cons_zero, List.set_cons_succ])
          refine takeQ (i := 5) (k := 30) (v := .string r) rfl (by rfl) (by kernel_rfl) (by kernel_rfl) (by kernel_rfl) (fun _ _ _ h => h) (by rfl) ?_ hHeld ?_
          · intro w1 hSw; (obtain ⟨g2, hgg, _, y0, y1, y2, y3⟩ := row_se4 hSw.1 hlt1); (injection hgg with hgg); (injection hgg with hgg); subst hgg; rw [HX2.out] at y0 y1 y2 y3; dsimp only at y0 y1 y2 y3; go_simp
          (try simp only [Act.put, List.setIfInBounds_toArray, List.set_cons_zero, List.set_cons_succ])
          refine takeQ (i := 6) (k := 31) (v := .string (⟨#[]⟩ ++ r)) rfl (by rfl) (by kernel_rfl) (by kernel_rfl) (by kernel_rfl) (fun _ _ _ h => h) (by rfl) ?_ hHeld ?_
          · intro w1 hSw; go_simp; (try (first | exact g1 | omega))
          (try simp only [Act.put, List.setIfInBounds_toArray, List.set_cons_zero, List.set_cons_succ])
          refine takeQ (i := 7) (k := 32) (v := .string (⟨#[]⟩ ++ r ++ ⟨#[58]⟩)) rfl (by rfl) (by kernel_rfl) (by kernel_rfl) (by kernel_rfl) (fun _ _ _ h => h) (by rfl) ?_ hHeld ?_
          · intro w1 hSw; go_simp; (try (first | exact g2 | omega))
          (try simp only [Act.put, List.setIfInBounds_toArray, List.set_cons_zero, List.set_cons_succ])
          refine takeQ (i := 8) (k := 33) (v := .slice (some ⟨g, 0, none⟩) n c) rfl (by rfl) (by kernel_rfl) (by kernel_rfl) (by kernel_rfl) (fun _ _ _ h => h) (by rfl) ?_ hHeld ?_
          · intro w1 hSw; go_simp
          (try simp only [Act.put, List.setIfInBounds_toArray, List.set_cons_zero, List.set_cons_succ])
          refine takeQ (i := 9) (k := 34) (v := .int .i64 (k : Int)) rfl (by rfl) (by kernel_rfl) (by kernel_rfl) (by kernel_rfl) (fun _ _ _ h => h) (by rfl) ?_ hHeld ?_
          · intro w1 hSw; go_simp
          (try simp only [Act.put, List.setIfInBounds_toArray, List.set_cons_zero, List.set_cons_succ])
          refine takeQ (i := 10) (k := 35) (v := .pointer (some ⟨g, k * 4, none⟩)) rfl (by rfl) (by kernel_rfl) (by kernel_rfl) (by kernel_rfl) (fun _ _ _ h => h) (by rfl) ?_ hHeld ?_
          · intro w1 hSw; go_simp
          (try simp only [Act.put, List.setIfInBounds_toArray, List.set_cons_zero, List.set_cons_succ])
          refine takeQ (i := 11) (k := 36) (v := .pointer (some ⟨g, k * 4 + 3, none⟩)) rfl (by rfl) (by kernel_rfl) (by kernel_rfl) (by kernel_rfl) (fun _ _ _ h => h) (by rfl) ?_ hHeld ?_
          · intro w1 hSw; go_simp
          (try simp only [Act.put, List.setIfInBounds_toArray, List.set_cons_zero, List.set_cons_succ])
          refine takeQ (i := 12) (k := 37) (v := .string s) rfl (by rfl) (by kernel_rfl) (by kernel_rfl) (by kernel_rfl) (fun _ _ _ h => h) (by rfl) ?_ hHeld ?_
          · intro w1 hSw; (obtain ⟨g2, hgg, _, y0, y1, y2, y3⟩ := row_se4 hSw.1 hlt1); (injection hgg with hgg); (injection hgg with hgg); subst hgg; rw [HX2.out] at y0 y1 y2 y3; dsimp only at y0 y1 y2 y3; go_simp
          (try simp only [Act.put, List.setIfInBounds_toArray, List.set_cons_zero, List.set_cons_succ])
          refine takeQ (i := 13) (k := 38) (v := .string (⟨#[]⟩ ++ r ++ ⟨#[58]⟩ ++ s)) rfl (by rfl) (by kernel_rfl) (by kernel_rfl) (by kernel_rfl) (fun _ _ _ h => h) (by rfl) ?_ hHeld ?_
          · intro w1 hSw; go_simp; (try (first | exact g3 | omega))
          (try simp only [Act.put, List.setIfInBounds_toArray, List.set_cons_zero, List.set_cons_succ])
          refine takeQ (i := 14) (k := 3) (v := .string (⟨#[]⟩ ++ r ++ ⟨#[58]⟩ ++ s)) rfl (by rfl) (by kernel_rfl) (by kernel_rfl) (by kernel_rfl) (fun _ _ _ h => h) (by rfl) ?_ hHeld ?_
          · intro w1 hSw; go_simp
          (try simp only [Act.put, List.setIfInBounds_toArray, List.set_cons_zero, List.set_cons_succ])
          refine wpAnyH_done (by kernel_rfl) ?_ _
          go_wp2
          go_roundw
          case rel => exact ⟨k + 1, _, by omega, by go_num, rfl, HS.out, HBD.out, hHeld.2⟩
          case measure => simp [intOf]; omega
        · have HE : Hid (sepS t = t ++ ⟨#[32]⟩) := Lib.hid (if_neg he)
          rw [HE.out] at HG1 HG2 HG3 HBD HS
          have he3 : t.toList.isEmpty = false := by cases h : t.toList with | nil => exact absurd h he | cons a l => rfl
          go_wp2
          refine wp_region_held_drew (S := fun W => (RowC seC 4 W (some ⟨g, 0, none⟩) xs ∧ Below w.heap.size w W)) (by kernel_rfl) ⟨HP.out _ HB.out.drew, HB.out.drew⟩ (fun hHeld => ?_)
          generalize wr.drew = Wd at hHeld ⊢
          have g1 := HG1.out
          have g2 := HG2.out
          have g3 := HG3.out
          refine takeQ (i := 0) (k := 25) (v := .string (t ++ ⟨#[32]⟩)) rfl (by rfl) (by kernel_rfl) (by kernel_rfl) (by kernel_rfl) (fun _ _ _ h => h) (by rfl) ?_ hHeld ?_
          · intro w1 hSw; go_simp
          (try simp only [Act.put, List.setIfInBounds_toArray, List.set_cons_zero, List.set_cons_succ])
          refine takeQ (i := 1) (k := 26) (v := .slice (some ⟨g, 0, none⟩) n c) rfl (by rfl) (by kernel_rfl) (by kernel_rfl) (by kernel_rfl) (fun _ _ _ h => h) (by rfl) ?_ hHeld ?_
          · intro w1 hSw; go_simp
          (try simp only [Act.put, List.setIfInBounds_toArray, List.set_cons_zero, List.set_cons_succ])
          refine takeQ (i := 2) (k := 27) (v := .int .i64 (k : Int)) rfl (by rfl) (by kernel_rfl) (by kernel_rfl) (by kernel_rfl) (fun _ _ _ h => h) (by rfl) ?_ hHeld ?_
          · intro w1 hSw; go_simp
          (try simp only [Act.put, List.setIfInBounds_toArray, List.set_cons_zero, List.set_cons_succ])
          refine takeQ (i := 3) (k := 28) (v := .pointer (some ⟨g, k * 4, none⟩)) rfl (by rfl) (by kernel_rfl) (by kernel_rfl) (by kernel_rfl) (fun _ _ _ h => h) (by rfl) ?_ hHeld ?_
          · intro w1 hSw; go_simp
          (try simp only [Act.put, List.setIfInBounds_toArray, List.set_cons_zero, List.set_cons_succ])
          refine takeQ (i := 4) (k := 29) (v := .pointer (some ⟨g, k * 4, none⟩)) rfl (by rfl) (by kernel_rfl) (by kernel_rfl) (by kernel_rfl) (fun _ _ _ h => h) (by rfl) ?_ hHeld ?_
          · intro w1 hSw; go_simp
          (try simp only [Act.put, List.setIfInBounds_toArray, List.set_cons_zero, List.set_cons_succ])
          refine takeQ (i := 5) (k := 30) (v := .string r) rfl (by rfl) (by kernel_rfl) (by kernel_rfl) (by kernel_rfl) (fun _ _ _ h => h) (by rfl) ?_ hHeld ?_
          · intro w1 hSw; (obtain ⟨g2, hgg, _, y0, y1, y2, y3⟩ := row_se4 hSw.1 hlt1); (injection hgg with hgg); (injection hgg with hgg); subst hgg; rw [HX2.out] at y0 y1 y2 y3; dsimp only at y0 y1 y2 y3; go_simp
          (try simp only [Act.put, List.setIfInBounds_toArray, List.set_cons_zero, List.set_cons_succ])
          refine takeQ (i := 6) (k := 31) (v := .string ((t ++ ⟨#[32]⟩) ++ r)) rfl (by rfl) (by kernel_rfl) (by kernel_rfl) (by kernel_rfl) (fun _ _ _ h => h) (by rfl) ?_ hHeld ?_
          · intro w1 hSw; go_simp; (try (first | exact g1 | omega))
          (try simp only [Act.put, List.setIfInBounds_toArray, List.set_cons_zero, List.set_cons_succ])
          refine takeQ (i := 7) (k := 32) (v := .string ((t ++ ⟨#[32]⟩) ++ r ++ ⟨#[58]⟩)) rfl (by rfl) (by kernel_rfl) (by kernel_rfl) (by kernel_rfl) (fun _ _ _ h => h) (by rfl) ?_ hHeld ?_
          · intro w1 hSw; go_simp; (try (first | exact g2 | omega))
          (try simp only [Act.put, List.setIfInBounds_toArray, List.set_cons_zero, List.set_cons_succ])
          refine takeQ (i := 8) (k := 33) (v := .slice (some ⟨g, 0, none⟩) n c) rfl (by rfl) (by kernel_rfl) (by kernel_rfl) (by kernel_rfl) (fun _ _ _ h => h) (by rfl) ?_ hHeld ?_
          · intro w1 hSw; go_simp
          (try simp only [Act.put, List.setIfInBounds_toArray, List.set_cons_zero, List.set_cons_succ])
          refine takeQ (i := 9) (k := 34) (v := .int .i64 (k : Int)) rfl (by rfl) (by kernel_rfl) (by kernel_rfl) (by kernel_rfl) (fun _ _ _ h => h) (by rfl) ?_ hHeld ?_
          · intro w1 hSw; go_simp
          (try simp only [Act.put, List.setIfInBounds_toArray, List.set_cons_zero, List.set_cons_succ])
          refine takeQ (i := 10) (k := 35) (v := .pointer (some ⟨g, k * 4, none⟩)) rfl (by rfl) (by kernel_rfl) (by kernel_rfl) (by kernel_rfl) (fun _ _ _ h => h) (by rfl) ?_ hHeld ?_
          · intro w1 hSw; go_simp
          (try simp only [Act.put, List.setIfInBounds_toArray, List.set_cons_zero, List.set_cons_succ])
          refine takeQ (i := 11) (k := 36) (v := .pointer (some ⟨g, k * 4 + 3, none⟩)) rfl (by rfl) (by kernel_rfl) (by kernel_rfl) (by kernel_rfl) (fun _ _ _ h => h) (by rfl) ?_ hHeld ?_
          · intro w1 hSw; go_simp
          (try simp only [Act.put, List.setIfInBounds_toArray, List.set_cons_zero, List.set_cons_succ])
          refine takeQ (i := 12) (k := 37) (v := .string s) rfl (by rfl) (by kernel_rfl) (by kernel_rfl) (by kernel_rfl) (fun _ _ _ h => h) (by rfl) ?_ hHeld ?_
          · intro w1 hSw; (obtain ⟨g2, hgg, _, y0, y1, y2, y3⟩ := row_se4 hSw.1 hlt1); (injection hgg with hgg); (injection hgg with hgg); subst hgg; rw [HX2.out] at y0 y1 y2 y3; dsimp only at y0 y1 y2 y3; go_simp
          (try simp only [Act.put, List.setIfInBounds_toArray, List.set_cons_zero, List.set_cons_succ])
          refine takeQ (i := 13) (k := 38) (v := .string ((t ++ ⟨#[32]⟩) ++ r ++ ⟨#[58]⟩ ++ s)) rfl (by rfl) (by kernel_rfl) (by kernel_rfl) (by kernel_rfl) (fun _ _ _ h => h) (by rfl) ?_ hHeld ?_
          · intro w1 hSw; go_simp; (try (first | exact g3 | omega))
          (try simp only [Act.put, List.setIfInBounds_toArray, List.set_cons_zero, List.set_cons_succ])
          refine takeQ (i := 14) (k := 3) (v := .string ((t ++ ⟨#[32]⟩) ++ r ++ ⟨#[58]⟩ ++ s)) rfl (by rfl) (by kernel_rfl) (by kernel_rfl) (by kernel_rfl) (fun _ _ _ h => h) (by rfl) ?_ hHeld ?_
          · intro w1 hSw; go_simp
          (try simp only [Act.put, List.setIfInBounds_toArray, List.set_cons_zero, List.set_cons_succ])
          refine wpAnyH_done (by kernel_rfl) ?_ _
          go_wp2
          go_roundw
          case rel => exact ⟨k + 1, _, by omega, by go_num, rfl, HS.out, HBD.out, hHeld.2⟩
          case measure => simp [intOf]; omega
    · have HF : Hid (t = Z) := Lib.hid (by have := HT.out; rw [List.drop_eq_nil_of_le (by rw [HN.out]; omega)] at this; exact this)
      clear hb
      go_wp2
      go_ret
      exact ⟨congrArg (fun z : ByteArray => Ending.returned (.string z)) HF.out, HB.out⟩
end Go.Proofs.Ytafdjjdmcnlddaa

namespace Go.Proofs.Ytafdjjdmcnlddaa
set_option linter.unusedSimpArgs false
set_option linter.unusedVariables false
open Go.RowKit Go.Joins

theorem seenT_ne : ∀ (l : List SeL) (t : ByteArray), 0 < t.size → 0 < (seenT t l).size
  | [], _, h => h
  | x :: l, t, h => by
    unfold seenT
    split
    · refine seenT_ne l _ ?_
      simp only [ByteArray.size_append]
      show 0 < _ + 1 + _
      omega
    · exact seenT_ne l t h
theorem seenT_any : ∀ (l : List SeL), decide (0 < (seenT ⟨#[]⟩ l).size) = anyS l
  | [] => rfl
  | x :: l => by
    unfold seenT
    show _ = (x.o || anyS l)
    cases x.o
    · exact (seenT_any l).trans (Bool.false_or _).symm
    · rw [if_pos rfl, Bool.true_or]
      refine decide_eq_true (seenT_ne l _ ?_)
      simp only [ByteArray.size_append]
      show 0 < _ + 1 + _
      omega
theorem seen_any (xs : List SeL) : decide (0 < (seenR xs).size) = anyR xs := by
  unfold seenR anyR
  cases okB xs
  · rfl
  · rw [if_pos rfl, Bool.true_and]
    exact seenT_any xs
end Go.Proofs.Ytafdjjdmcnlddaa

namespace Go.Proofs.Ytafdjjdmcnlddaa
set_option linter.unusedSimpArgs false
set_option linter.unusedVariables false
open Go.RowKit

/-- So many elements have been copied. -/
def Cop_se (xs : List SeL) (g n i : Nat) (W : World) : Prop := ∃ L, Arr W g 84 L ∧ L.length = n * 4 ∧ ∀ i' (h : i' < xs.length), i' < i → ∀ j, j < 4 → L[i' * 4 + j]? = (seC xs[i'])[j]?
theorem Cop_se.on {xs : List SeL} {g n i : Nat} {W W2 : World} (h : Cop_se xs g n i W) (hb : Below W.heap.size W W2) : Cop_se xs g n i W2 := by
  obtain ⟨L, h1, h2⟩ := h
  exact ⟨L, (hb.block g (Array.getElem?_eq_some_iff.1 h1).1).trans h1, h2⟩
theorem Cop_se.there {xs : List SeL} {g n i q : Nat} {W : World} (h : Cop_se xs g n i W) (hq : q < n * 4) : (∃ u, W.cell? ⟨g, q, none⟩ = some u) ∧ W.frozen? ⟨g, q, none⟩ = false := by
  obtain ⟨L, h1, h2, _⟩ := h
  rw [h1.cell, h1.free]
  exact ⟨⟨L[q]'(by omega), List.getElem?_eq_getElem _⟩, rfl⟩
theorem Cop_se.step {xs : List SeL} {g n i : Nat} {W : World} (h : Cop_se xs g n i W) (hi : i < n) {x : SeL} (hx : xs[i]? = some x) : Cop_se xs g n (i + 1) ((((W.setCell ⟨g, i * 4, none⟩ (.string x.r)).setCell ⟨g, i * 4 + 1, none⟩ (.bool x.o)).setCell ⟨g, i * 4 + 2, none⟩ (.int .i64 x.p)).setCell ⟨g, i * 4 + 3, none⟩ (.string x.s)) := by
  obtain ⟨L, h1, h2, h3⟩ := h
  refine ⟨_, (((h1.put (i * 4) _).put (i * 4 + 1) _).put (i * 4 + 2) _).put (i * 4 + 3) _, by simpa using h2, fun i' hi' hlt j hj => ?_⟩
  by_cases e : i' = i
  · subst e
    have ex : xs[i'] = x := by rw [List.getElem?_eq_getElem hi'] at hx; exact Option.some.inj hx
    rw [ex]
    match j, hj with
    | 0, _ => rw [show i' * 4 + 0 = i' * 4 from rfl]; rw [List.getElem?_set_ne (by omega)]; rw [List.getElem?_set_ne (by omega)]; rw [List.getElem?_set_ne (by omega)]; rw [List.getElem?_set_self (by first | omega | (simp; omega))]; rfl
    | 1, _ => rw [List.getElem?_set_ne (by omega)]; rw [List.getElem?_set_ne (by omega)]; rw [List.getElem?_set_self (by first | omega | (simp; omega))]; rfl
    | 2, _ => rw [List.getElem?_set_ne (by omega)]; rw [List.getElem?_set_self (by first | omega | (simp; omega))]; rfl
    | 3, _ => rw [List.getElem?_set_self (by first | omega | (simp; omega))]; rfl
  · have := h3 i' hi' (by omega) j hj
    rw [List.getElem?_set_ne (by omega), List.getElem?_set_ne (by omega), List.getElem?_set_ne (by omega), List.getElem?_set_ne (by omega)]
    exact this
theorem Cop_se.own {xs : List SeL} {g n B : Nat} {W : World} (h : Cop_se xs g n n W) (hn : xs.length = n) (hB : B ≤ g) (hm : n ≤ 1048576) : OwnC seC W B 84 4 (.slice (some ⟨g, 0, none⟩) n n) xs := by
  obtain ⟨L, h1, h2, h3⟩ := h
  have e : L = xs.flatMap seC := by
    apply List.ext_getElem?
    intro q
    by_cases hq : q < n * 4
    · have h4 := h3 (q / 4) (by rw [hn]; omega) (by omega) (q % 4) (by omega)
      rw [show q / 4 * 4 + q % 4 = q by omega] at h4
      rw [h4]
      have h5 := flat_at (enc := seC) (size := 4) (fun _ => rfl) xs (q / 4) (q % 4) (by rw [hn]; omega) (by omega)
      rw [show q / 4 * 4 + q % 4 = q by omega] at h5
      exact h5.symm
    · rw [List.getElem?_eq_none (by omega), List.getElem?_eq_none]
      rw [flat_len (enc := seC) (size := 4) (fun _ => rfl), hn]
      omega
  refine ⟨by rw [flat_len (enc := seC) (size := 4) (fun _ => rfl)], .inr ⟨g, n, L.toArray, by rw [hn], hB, h1, by omega, by unfold maxLen; omega, by simpa using h2, ?_⟩⟩
  rw [← e, List.take_of_length_le (by simp; rw [h2, hn]; omega)]
end Go.Proofs.Ytafdjjdmcnlddaa

namespace Go.Proofs.Ytafdjjdmcnlddaa
set_option linter.unusedSimpArgs false
set_option linter.unusedVariables false
open Go.RowKit

end Go.Proofs.Ytafdjjdmcnlddaa
