/- spec.l09Ill, spec.l09At, spec.l09Set, spec.Absent, spec.Present. -/
import Derived.Test.YtkdljhmenejckaaSeWithI
import Derived.Lib.SliceRun
namespace Go.Proofs.Ytkdljhmenejckaa
set_option linter.unusedSimpArgs false
set_option linter.unusedVariables false
open Go.RowKit Go.Joins

theorem row_own9 {W : World} {B : Nat} {p : Option Addr} {k n : Nat} {xs : List SeL} (h : OwnC seC W B 42 4 (.slice p n k) xs) : RowC seC 4 W p xs := by
  obtain ⟨p', k', e, hR⟩ := h.row seC_len
  injection e with e1 e2 e3
  rw [e1]
  exact hR
theorem one_all9 (xs : List SeL) : ∀ u ∈ xs.flatMap seC, u.oneCell' = true := by
  intro u hu
  obtain ⟨x, _, hx⟩ := List.mem_flatMap.1 hu
  exact seC_one x u hx
theorem empty_row9 (W : World) : OwnC seC (W.alloc (.cells #[] 42)) W.heap.size 42 4 (.slice (some ⟨W.heap.size, 0, none⟩) 0 0) [] :=
  World.ownsRow_lit W #[] 0 (Nat.le_refl _) (Nat.zero_le _) rfl
/-- append(v, row...). -/
theorem wp_app_row9 {o : Oper} {a : Act} {w : World} {K : Act → World → Prop} {Q : Exit → Act → World → Prop} (s x : Operand)
    (ho : o.op = .call { callee := .builtin .append, args := #[s, x], argTypes := #[23, 23] })
    (B : Nat) (v : Value) (ys : List SeL) (hs : a.eval s = v) (hown : OwnC seC w B 42 4 v ys) (B2 : Nat) (p : Option Addr) (n c : Nat) (xs : List SeL) (hx : a.eval x = .slice p n c) (hrow : OwnC seC w B2 42 4 (.slice p n c) xs)
    (hlen : ys.length + xs.length ≤ 2000000) (hB : B ≤ w.heap.size) (h : ∀ v' w', OwnC seC w' B 42 4 v' (ys ++ xs) → w.grownBy w' v.ownBlock → K (a.put o.dst v') w') : o.wp Try.prog a w K Q := by
  obtain ⟨i0, hi, hz0, hz1, hz2⟩ := info_parts info_sec
  rcases hrow.2 with ⟨e, h0⟩ | ⟨g, cap, cur, e, h1, h2, h3, h4, h5, h6⟩
  · obtain rfl := List.eq_nil_of_length_eq_zero h0
    rw [e] at hx
    have hr := run_append_owned_none (P := Try.prog) (w := w) B 23 o.type 42 i0 4 Try.underlying23 hi v ys.length (ys.flatMap seC) hown
    rw [List.append_nil] at h
    unfold Oper.wp execOp
    simp only [ho, resolve, invoke, builtin, Sem.run_bind, Sem.run_pure, Result.andThen_ok, List.map_toArray, List.map_cons, List.map_nil, hs, hx, hr]
    exact h v w hown (World.grownBy.refl w _)
  · have hc := hrow
    rw [e] at hx hc
    refine wp_append_own w s x 23 ho B 42 i0 _ 4 48 Try.underlying23 hi hz0 hz1 hz2 rfl (by decide) v ys.length (ys.flatMap seC) hs hown ⟨g, 0, none⟩ xs.length cap (xs.flatMap seC) hx hc.1 (fun j u hj => ?_) (one_all9 xs) (by unfold maxLen; omega) (by omega) hB (fun v' w' h1 h2 _ => h v' w' ?_ h2)
    · have hlt : j < xs.length * 4 := by
        have := (List.getElem?_eq_some_iff.1 hj).1
        rw [hc.1] at this
        exact this
      have := World.ownsRow.cellAt hc j hlt
      rw [hj] at this
      rw [show (⟨g, 0, none⟩ : Addr).add j = ⟨g, j, none⟩ by unfold Addr.add; split <;> simp_all]
      exact this
    · show w'.ownsRow B _ 4 v' (ys ++ xs).length ((ys ++ xs).flatMap seC)
      rw [List.length_append, List.flatMap_append]
      exact h1
theorem wpList_app_row9 {ops : Array Oper} {rest : List Oper} {o : Oper} {a : Act} {w : World} {Q : Exit → Act → World → Prop} (hgd : o.guard = none) (s x : Operand)
    (ho : o.op = .call { callee := .builtin .append, args := #[s, x], argTypes := #[23, 23] })
    (B : Nat) (v : Value) (ys : List SeL) (hs : a.eval s = v) (hown : OwnC seC w B 42 4 v ys) (B2 : Nat) (p : Option Addr) (n c : Nat) (xs : List SeL) (hx : a.eval x = .slice p n c) (hrow : OwnC seC w B2 42 4 (.slice p n c) xs)
    (hlen : ys.length + xs.length ≤ 2000000) (hB : B ≤ w.heap.size) (h : ∀ v' w', OwnC seC w' B 42 4 v' (ys ++ xs) → w.grownBy w' v.ownBlock → wpList Try.prog ops Q rest (a.put o.dst v') w') : wpList Try.prog ops Q (o :: rest) a w :=
  wpList_plain hgd fun K hK => wp_app_row9 s x ho B v ys hs hown B2 p n c xs hx hrow hlen hB fun v' w' h1 h2 => hK _ _ (h v' w' h1 h2)
theorem Wt9.grow {w W W2 : World} {y : SeL} {r : Nat} (h : Wt9 w W y) (hg : W.grownBy W2 (some r)) (hr : w.heap.size + 2 ≤ r) : Wt9 w W2 y := by
  have h1 := arr9_lt h.1
  have h2 := arr9_lt h.2.1
  exact ⟨(hg.block _ h1 (fun e => by injection e; omega)).trans h.1, (hg.block _ h2 (fun e => by injection e; omega)).trans h.2.1, h.2.2.grown hg h.2.2.size (fun k hk => by injection hk; omega)⟩
theorem spec_ill9 (code : Int) (w : World) : Calls Try.prog 64 #[.int .i64 code] w fun e w' => e = .returned (.agg #[.slice none 0 0, .int .i64 code]) ∧ Below w.heap.size w w' := by
  go_enter Try.func64, Try.ntmps64
  go_wp2
  have hA := Arr.fresh w 27 [.slice none 0 0, .int .i64 code]
  exact bodyPost_ret (v := .agg #[.slice none 0 0, .int .i64 code]) (results_cell_row (P := Try.prog) Try.results64 _ _ w.heap.size 27 _ (0, 0) _ rfl hA Try.underlying27 rfl (by kernel_rfl)) rfl ⟨rfl, (Below.refl _ _).alloc (Nat.le_refl _) _⟩
def NotAt (xs : List SeL) (r : ByteArray) (k : Nat) : Prop := ∀ i (h : i < xs.length), i < k → (xs[i].r.toList == r.toList) = false
def whereI (r : ByteArray) (xs : List SeL) : Int := if hereB r xs = true then (posS r xs : Int) else -1
set_option maxRecDepth 100000 in
set_option maxHeartbeats 1000000 in
theorem spec_at9 (xs : List SeL) (r : ByteArray) (p : Option Addr) (c : Nat) (w : World) (hn : xs.length ≤ 1048576) (hI : IncR xs xs.length) (hR : RowC seC 4 w p xs) :
    Calls Try.prog 66 #[.slice p xs.length c, .string r] w fun e w' => e = .returned (.int .i64 (whereI r xs)) ∧ Below w.heap.size w w' := by
  obtain ⟨n, hxn⟩ : ∃ n, xs.length = n := ⟨_, rfl⟩
  have HP := Lib.hid (fun W (h : Below w.heap.size w W) => hR.on h)
  have HN := Lib.hid hxn
  have HI := Lib.hid hI
  obtain ⟨Z, hZ⟩ : ∃ Z, whereI r xs = Z := ⟨_, rfl⟩
  have HZ := Lib.hid hZ
  rw [hxn] at hn ⊢
  rw [hZ]
  clear hR hxn hI hZ
  go_enter Try.func66, Try.ntmps66
  go_wp2
  go_loopw [5] (fun iq wr => ∃ k : Nat, k ≤ n ∧ iq = .int .i64 k ∧ NotAt xs r k ∧ Below w.heap.size w wr) (fun i _ => n - (intOf i).toNat)
  case atStart => exact ⟨0, Nat.zero_le _, rfl, fun i _ h => absurd h (Nat.not_lt_zero _), Below.refl _ _⟩
  case round =>
    obtain ⟨k, hk, rfl, hA, hb⟩ := hrel
    have HA := Lib.hid hA
    have HB := Lib.hid hb
    clear hA
    by_cases hlt : k < n
    · have hlt1 : k < xs.length := by rw [HN.out]; exact hlt
      obtain ⟨g, rfl, hg, a0, a1, a2, a3⟩ := row_se4 (HP.out _ hb) hlt1
      obtain ⟨x, hx⟩ : ∃ x, xs[k] = x := ⟨_, rfl⟩
      rw [hx] at a0 a1 a2 a3
      obtain ⟨b1, h1⟩ : ∃ b, (x.r.toList == r.toList) = b := ⟨_, rfl⟩
      have HX : Hid ((xs[k].r.toList == r.toList) = b1) := Lib.hid (by rw [hx]; exact h1)
      clear hb hx
      cases b1
      · go_wp2
        go_roundw
        case rel =>
          refine ⟨k + 1, by omega, by go_num, fun i hi h => ?_, HB.out⟩
          by_cases e : i = k
          · subst e; exact HX.out
          · exact HA.out i hi (by omega)
        case measure => simp [intOf]; omega
      · have HL : Hid ((k : Int) = Z) := Lib.hid (by
          obtain ⟨h2, h3⟩ := here_only (r := r) HI.out hlt1 (by simpa using HX.out)
          rw [← HZ.out]
          unfold whereI
          rw [if_pos h3, ← h2])
        go_wp2
        go_ret
        exact ⟨congrArg (fun z : Int => Ending.returned (.int .i64 z)) HL.out, HB.out⟩
    · have HL : Hid (Z = -1) := Lib.hid (by
        rw [← HZ.out]
        unfold whereI
        refine if_neg (fun h => ?_)
        have hp := here_lt h
        rw [here_at hp] at h
        rw [HA.out _ hp (by rw [HN.out] at hp; omega)] at h
        cases h)
      clear hb
      go_wp2
      go_ret
      exact ⟨congrArg (fun z : Int => Ending.returned (.int .i64 z)) HL.out.symm, HB.out⟩
noncomputable def setR (xs : List SeL) (y : SeL) : SoL := if hereB y.r xs = true then ⟨xs.set (posS y.r xs) y, 0⟩ else illS 6
set_option maxRecDepth 100000 in
set_option maxHeartbeats 2000000 in
theorem spec_set9 (xs : List SeL) (y : SeL) (p : Option Addr) (c B0 : Nat) (w : World) (hn : xs.length ≤ 5) (hI : IncR xs xs.length) (hO : OwnC seC w B0 42 4 (.slice p xs.length c) xs) :
    Calls Try.prog 70 #[.slice p xs.length c, .string y.r, seV y] w fun e w' => SoIs w.heap.size (setR xs y) e w' ∧ Below w.heap.size w w' := by
  have HO := Lib.hid (fun W (h : Below w.heap.size w W) => hO.on h)
  have i1 := fun W h => spec_at9 xs y.r p c W (by omega) hI h
  have i2 := fun W => spec_ill9 6 W
  have HS := Lib.hid (wt9_start w y)
  unfold setR
  unfold whereI at i1
  obtain ⟨P, hP⟩ : ∃ P, posS y.r xs = P := ⟨_, rfl⟩
  obtain ⟨n, hxn⟩ : ∃ n, xs.length = n := ⟨_, rfl⟩
  have HN := Lib.hid hxn
  by_cases hz : hereB y.r xs = true
  · rw [if_pos hz] at i1 ⊢
    have hlt := here_lt hz
    rw [hP] at i1 hlt ⊢
    have HLT := Lib.hid hlt
    rw [hxn] at hn i1 hlt HO ⊢
    have q1 : (0 : Int) ≤ (P : Int) := by omega
    have q2 : (P : Int) < (n : Int) := by omega
    unfold seV
    clear hO hI hP hz hxn i2
    go_enter Try.func70, Try.ntmps70
    go_wp2_with (first
      | (go_at_call 66; go_fit (i1 _ (row_own9 (HO.out _ HS.out.2.2))); rintro e w1 ⟨rfl, hb⟩; have HS1 := Lib.hid (HS.out.on hb); clear hb)
      | (at_builtin; have _ := HS1; refine wpList_app_row9 rfl _ _ rfl w1.heap.size _ [] rfl (empty_row9 w1) B0 _ _ _ xs rfl ((HO.out _ HS1.out.2.2).alloc _) (by rw [HN.out]; simp; omega) (by simp) ?_; intro v' w2 ho hg; rw [List.nil_append] at ho; obtain ⟨q, k, hv, _⟩ := ho.row seC_len; rw [HN.out] at hv; subst hv; have hz9 := arr9_lt HS1.out.2.1; obtain ⟨gg, k9, e9⟩ := Joins.ownsRow_form ho (by rw [HN.out]; omega); rw [HN.out] at e9; rw [e9] at ho ⊢; have HV := Lib.hid ho; have HS2 := Lib.hid ((HS1.out.on ((Below.refl _ _).alloc (Nat.le_refl _) (.cells #[] 42))).grow (r := w1.heap.size) hg (by omega)); have hgg := own_base ho gg rfl; clear ho hg; obtain ⟨⟨a0, a1, a2, a3⟩, -⟩ := arr9_cells HS2.out.1; obtain ⟨⟨r0, r1, r2, r3⟩, f0, f1, f2, f3⟩ := own_free9 HV.out P HLT.out; obtain ⟨⟨c0, c1⟩, k0, k1⟩ := arr9_two HS2.out.2.1))
    have hP9 := HS2.out.put (show w.heap.size + 2 ≤ gg by omega) P y
    have hO9 := own_put9 HV.out P HLT.out y
    have hg2 : w.heap.size + 1 < gg := by omega
    have hE : Arr _ (w.heap.size + 1) 27 [.slice (some ⟨gg, 0, none⟩) n k, .int .i64 0] := ((hP9.2.1.put 0 (.slice (some ⟨gg, 0, none⟩) n k)).put 1 (.int .i64 0))
    have hL : (xs.set P y).length = n := by rw [List.length_set]; exact HN.out
    have hO : OwnC seC (((put9 w2 gg P y).setCell ⟨w.heap.size + 1, 0, none⟩ (.slice (some ⟨gg, 0, none⟩) n k)).setCell ⟨w.heap.size + 1, 1, none⟩ (.int .i64 0)) w1.heap.size 42 4 (.slice (some ⟨gg, 0, none⟩) n k) (xs.set P y) := (hO9.low (a := ⟨w.heap.size + 1, 0, none⟩) hz9 _).low (a := ⟨w.heap.size + 1, 1, none⟩) hz9 _
    exact bodyPost_ret (v := .agg #[.slice (some ⟨gg, 0, none⟩) n k, .int .i64 0]) (results_cell_row (P := Try.prog) Try.results70 _ _ (w.heap.size + 1) 27 _ (0, 0) _ rfl hE Try.underlying27 rfl (by kernel_rfl)) rfl
      ⟨⟨some ⟨gg, 0, none⟩, k, by show _ = Ending.returned (.agg #[.slice (some ⟨gg, 0, none⟩) (xs.set P y).length k, .int .i64 0]); rw [hL], by show OwnC _ _ _ _ _ (.slice _ (xs.set P y).length k) _; rw [hL]; exact hO.mono (by omega)⟩, (hP9.2.2.setCell (p := ⟨w.heap.size + 1, 0, none⟩) (Nat.le_succ _) _).setCell (p := ⟨w.heap.size + 1, 1, none⟩) (Nat.le_succ _) _⟩
  · rw [if_neg hz] at i1 ⊢
    rw [hxn] at hn i1 HO ⊢
    unfold seV
    clear hO hI hP hz hxn
    go_enter Try.func70, Try.ntmps70
    go_wp2_with (first
      | (go_at_call 66; go_fit (i1 _ (row_own9 (HO.out _ HS.out.2.2))); rintro e w1 ⟨rfl, hb⟩; have HS1 := Lib.hid (HS.out.on hb); clear hb)
      | (go_at_call 64; go_fit (i2 _); rintro e w2 ⟨rfl, hb⟩; have HS2 := Lib.hid (HS1.out.on hb); clear hb; obtain ⟨⟨c0, c1⟩, k0, k1⟩ := arr9_two HS2.out.2.1))
    have hE : Arr _ (w.heap.size + 1) 27 [.slice none 0 0, .int .i64 6] := ((HS2.out.2.1.put 0 (.slice none 0 0)).put 1 (.int .i64 6))
    exact bodyPost_ret (v := .agg #[.slice none 0 0, .int .i64 6]) (results_cell_row (P := Try.prog) Try.results70 _ _ (w.heap.size + 1) 27 _ (0, 0) _ rfl hE Try.underlying27 rfl (by kernel_rfl)) rfl
      ⟨so_ill _ _ _, (HS2.out.2.2.setCell (p := ⟨w.heap.size + 1, 0, none⟩) (Nat.le_succ _) _).setCell (p := ⟨w.heap.size + 1, 1, none⟩) (Nat.le_succ _) _⟩
theorem ba_eq {s t : ByteArray} (h : s.toList = t.toList) : s = t := by
  rw [ba_ext h, ByteArray.toList_eq]
theorem here_res {xs : List SeL} {r : ByteArray} (h1 : okB xs = true) (h2 : hereB r xs = true) : resB r = true := by
  have hlt := here_lt h2
  have h3 := (okB_iff.1 h1).2.2 _ hlt hlt
  rw [here_at hlt] at h2
  have e := ba_eq (show xs[posS r xs].r.toList = r.toList by simpa using h2)
  unfold seB at h3
  rw [e] at h3
  simp only [Bool.and_eq_true] at h3
  exact h3.1.1.2
theorem set_with {xs : List SeL} {y : SeL} (h1 : ¬ (400 < xs.length ∨ 20000 < y.r.size)) (h2 : okB xs = true) (h3 : hereB y.r xs = true → seB y = true) : withR xs y = setR xs y := by
  unfold withR setR
  rw [if_neg h1, if_neg (by rw [h2]; decide)]
  by_cases hz : hereB y.r xs = true
  · rw [if_neg (by rw [hz]; decide), if_neg (by rw [h3 hz]; decide), if_pos hz]
  · rw [if_pos (by simpa using hz), if_neg hz]
theorem se_new {r : ByteArray} (h : resB r = true) : seB (newS r) = true := by
  unfold seB newS
  dsimp only
  rw [h]
  have e : showB ⟨#[]⟩ = true := by unfold showB; rw [ByteArray.toList_eq]; decide
  rw [e]
  rfl
set_option maxRecDepth 100000 in
set_option maxHeartbeats 2000000 in
theorem spec_absent (xs : List SeL) (r : ByteArray) (p : Option Addr) (c B0 : Nat) (w : World) (hn : xs.length ≤ 1048576) (hr : r.size ≤ 1048576) (hw : ∀ x ∈ xs, x.r.size ≤ 1048576 ∧ x.s.size ≤ 1048576) (hO : OwnC seC w B0 42 4 (.slice p xs.length c) xs) :
    Calls Try.prog 20 #[.slice p xs.length c, .string r] w fun e w' => SoIs w.heap.size (absR xs r) e w' ∧ Below w.heap.size w w' := by
  have HA0 : Hid (Arr (w.alloc (.cells #[.slice none 0 0, .int .i64 0] 27)) w.heap.size 27 [.slice none 0 0, .int .i64 0] ∧ Below w.heap.size w (w.alloc (.cells #[.slice none 0 0, .int .i64 0] 27))) := Lib.hid ⟨Arr.fresh w _ [.slice none 0 0, .int .i64 0], (Below.refl _ _).alloc (Nat.le_refl _) _⟩
  have HO := Lib.hid (fun W (h : Below w.heap.size w W) => hO.on h)
  have i0 := fun code W => spec_ill9 code W
  have i1 := fun W h => spec_seright xs p c W hn (fun x hx => by have := (hw x hx).1; unfold maxLen; omega) h
  have i2 := fun W (hk : okB xs = true) h => spec_set9 xs (newS r) p c B0 W (okB_iff.1 hk).1 (okB_iff.1 hk).2.1 h
  obtain ⟨n, hxn⟩ : ∃ n, xs.length = n := ⟨_, rfl⟩
  by_cases h1 : 400 < xs.length ∨ 20000 < r.size
  · rw [show absR xs r = illS 2 by unfold absR withR; exact if_pos h1]
    rw [hxn] at h1 hn ⊢
    clear hO hw i1 i2 hxn
    by_cases h2 : 400 < n
    · go_enter Try.func20, Try.ntmps20
      go_wp2_with (go_at_call 64; go_fit (i0 _ _); rintro e w2 ⟨rfl, hb⟩; have HA1 := Lib.hid (arr9_on HA0.out.1 hb); have HB1 := Lib.hid (HA0.out.2.trans (hb.mono HA0.out.2.size)); clear hb; obtain ⟨⟨c0, c1⟩, k0, k1⟩ := arr9_two HA1.out)
      have hE : Arr _ w.heap.size 27 [.slice none 0 0, .int .i64 2] := ((HA1.out.put 0 (.slice none 0 0)).put 1 (.int .i64 2))
      exact bodyPost_ret (v := .agg #[.slice none 0 0, .int .i64 2]) (results_cell_row (P := Try.prog) Try.results20 _ _ w.heap.size 27 _ (0, 0) _ rfl hE Try.underlying27 rfl (by kernel_rfl)) rfl
        ⟨so_ill _ _ _, (HB1.out.setCell (p := ⟨w.heap.size, 0, none⟩) (Nat.le_refl _) _).setCell (p := ⟨w.heap.size, 1, none⟩) (Nat.le_refl _) _⟩
    · have h3 : 20000 < r.size := by omega
      go_enter Try.func20, Try.ntmps20
      go_wp2_with (go_at_call 64; go_fit (i0 _ _); rintro e w2 ⟨rfl, hb⟩; have HA1 := Lib.hid (arr9_on HA0.out.1 hb); have HB1 := Lib.hid (HA0.out.2.trans (hb.mono HA0.out.2.size)); clear hb; obtain ⟨⟨c0, c1⟩, k0, k1⟩ := arr9_two HA1.out)
      have hE : Arr _ w.heap.size 27 [.slice none 0 0, .int .i64 2] := ((HA1.out.put 0 (.slice none 0 0)).put 1 (.int .i64 2))
      exact bodyPost_ret (v := .agg #[.slice none 0 0, .int .i64 2]) (results_cell_row (P := Try.prog) Try.results20 _ _ w.heap.size 27 _ (0, 0) _ rfl hE Try.underlying27 rfl (by kernel_rfl)) rfl
        ⟨so_ill _ _ _, (HB1.out.setCell (p := ⟨w.heap.size, 0, none⟩) (Nat.le_refl _) _).setCell (p := ⟨w.heap.size, 1, none⟩) (Nat.le_refl _) _⟩
  by_cases h2 : okB xs = true
  · have e : absR xs r = setR xs (newS r) := set_with h1 h2 (fun h => se_new (here_res h2 h))
    rw [e]
    replace i2 := fun W h => i2 W h2 h
    rw [h2] at i1
    obtain ⟨R, hRR⟩ : ∃ R, setR xs (newS r) = R := ⟨_, rfl⟩
    rw [hRR] at i2 ⊢
    unfold seV newS at i2
    dsimp only at i2
    rw [hxn] at h1 hn i1 i2 HO ⊢
    have q1 : ¬ 400 < n := fun h => h1 (.inl h)
    have q2 : ¬ 20000 < r.size := fun h => h1 (.inr h)
    clear hO hw hxn hRR e h1 h2
    go_enter Try.func20, Try.ntmps20
    go_wp2_with (first
      | (go_at_call 28; go_fit (i1 _ (row_own9 (HO.out _ HA0.out.2))); rintro e w1 ⟨rfl, hb⟩; have HA1 := Lib.hid (arr9_on HA0.out.1 hb); have HB1 := Lib.hid (HA0.out.2.trans (hb.mono HA0.out.2.size)); clear hb)
      | (go_at_call 70; go_fit (i2 _ (HO.out _ HB1.out)); rintro e w2 ⟨⟨q, k, rfl, hv⟩, hb⟩; have HV := Lib.hid hv; have HA2 := Lib.hid (arr9_on HA1.out hb); have HB2 := Lib.hid (HB1.out.trans (hb.mono HB1.out.size)); have hlt := arr9_lt HA1.out; clear hb hv; obtain ⟨⟨c0, c1⟩, k0, k1⟩ := arr9_two HA2.out))
    obtain ⟨hE, hO2, hBl⟩ := pass9 (W2 := w) HA2.out HB2.out (Nat.le_refl _) hlt HV.out
    exact bodyPost_ret (v := .agg #[.slice q R.l.length k, .int .i64 R.c]) (results_cell_row (P := Try.prog) Try.results20 _ _ w.heap.size 27 _ (0, 0) _ rfl hE Try.underlying27 rfl (by kernel_rfl)) rfl
      ⟨⟨q, k, rfl, hO2⟩, hBl⟩
  · rw [show absR xs r = illS 1 by unfold absR withR; rw [if_neg (show ¬ (400 < xs.length ∨ 20000 < (newS r).r.size) from h1), if_pos (by simpa using h2)]]
    rw [show okB xs = false by simpa using h2] at i1
    rw [hxn] at h1 hn i1 HO ⊢
    have q1 : ¬ 400 < n := fun h => h1 (.inl h)
    have q2 : ¬ 20000 < r.size := fun h => h1 (.inr h)
    clear hO hw i2 hxn h1 h2
    go_enter Try.func20, Try.ntmps20
    go_wp2_with (first
      | (go_at_call 28; go_fit (i1 _ (row_own9 (HO.out _ HA0.out.2))); rintro e w1 ⟨rfl, hb⟩; have HA1 := Lib.hid (arr9_on HA0.out.1 hb); have HB1 := Lib.hid (HA0.out.2.trans (hb.mono HA0.out.2.size)); clear hb)
      | (go_at_call 64; go_fit (i0 _ _); rintro e w2 ⟨rfl, hb⟩; have HA2 := Lib.hid (arr9_on HA1.out hb); have HB2 := Lib.hid (HB1.out.trans (hb.mono HB1.out.size)); clear hb; obtain ⟨⟨c0, c1⟩, k0, k1⟩ := arr9_two HA2.out))
    have hE : Arr _ w.heap.size 27 [.slice none 0 0, .int .i64 1] := ((HA2.out.put 0 (.slice none 0 0)).put 1 (.int .i64 1))
    exact bodyPost_ret (v := .agg #[.slice none 0 0, .int .i64 1]) (results_cell_row (P := Try.prog) Try.results20 _ _ w.heap.size 27 _ (0, 0) _ rfl hE Try.underlying27 rfl (by kernel_rfl)) rfl
      ⟨so_ill _ _ _, (HB2.out.setCell (p := ⟨w.heap.size, 0, none⟩) (Nat.le_refl _) _).setCell (p := ⟨w.heap.size, 1, none⟩) (Nat.le_refl _) _⟩
end Go.Proofs.Ytkdljhmenejckaa
