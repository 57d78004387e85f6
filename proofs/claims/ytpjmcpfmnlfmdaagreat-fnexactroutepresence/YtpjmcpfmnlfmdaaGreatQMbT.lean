/- Several parts in one text: MbRouteP. -/
import Derived.Test.YtpjmcpfmnlfmdaaGreatQMbS
import Derived.Test.YtpjmcpfmnlfmdaaGreatQBase
namespace Go.Proofs.YtpjmcpfmnlfmdaaGreat
set_option linter.unusedSimpArgs false
set_option linter.unusedVariables false
open Go.RowKit Go.Joins

theorem ownC_T {w : World} {B : Nat} {v : Value} {ps : List ByteArray} (h : OwnC strC w B 9 1 v ps) : OwnT w B v ps := by
  unfold OwnC at h
  rw [str_flat] at h
  exact h
/-- Who receives a presence. -/
def preF (r : ByteArray) (x : SeL) : Bool := x.o && ((r.toList == []) || (x.r.toList == r.toList))
theorem pres_sel (r : ByteArray) (xs : List SeL) : presL r xs = selL (preF r) xs := by
  unfold presL
  cases hr : (r.toList == [])
  · have h0 : r.size ≠ 0 := fun e => by
      have h1 : r.toList = [] := List.eq_nil_of_length_eq_zero (by rw [ByteArray.toList_eq, size_data]; exact e)
      rw [h1] at hr
      simp at hr
    rw [if_neg h0]
    unfold namedL preF
    rw [hr]
    simp only [Bool.false_or]
  · rw [if_pos (r_size hr)]
    unfold onL preF
    rw [hr]
    simp only [Bool.true_or, Bool.and_true]
set_option maxRecDepth 100000 in
set_option maxHeartbeats 1000000 in
theorem spec_rpresF (xs : List SeL) (ys : List MsL) (p1 p2 : Option Addr) (n1 n2 c1 c2 : Nat) (s : MsL) (w : World) (hx : xs.length = n1) (hy : ys.length = n2) (hn1 : n1 ≤ 1048576) (hn2 : n2 ≤ 1048576) (hw : SzS xs) (hw2 : SzM ys) (hs : s.le 1048576) (B0 : Nat) (hO1 : OwnC seC w B0 70 4 (.slice p1 n1 c1) xs) (hO2 : OwnC msC w B0 35 6 (.slice p2 n2 c2) ys) (hno : routB kPres xs ys s = false) :
    Calls Tryz.prog 19 #[.agg #[.slice p1 n1 c1, .slice p2 n2 c2], .agg #[.string s.k, .string s.t, .string s.f, .string s.o, .int .i64 s.n, .string s.b]] w fun e w' => RoIs w.heap.size (illM 1) e w' ∧ Below w.heap.size w w' := by
  have hR1 := row_own9 hO1
  have hR2 := row_ownM hO2
  have HR := Lib.hid (rqb_start w p1 n1 c1 p2 n2 c2 s)
  have HP1 := Lib.hid (fun W (h : Below w.heap.size w W) => hR1.on h)
  have HP2 := Lib.hid (fun W (h : Below w.heap.size w W) => hR2.on h)
  have HO1 := Lib.hid (fun W (h : Below w.heap.size w W) => hO1.on h)
  have HO2 := Lib.hid (fun W (h : Below w.heap.size w W) => hO2.on h)
  have HX := Lib.hid hx
  have HY := Lib.hid hy
  have i1 := fun W h1 h2 => spec_beginF kPres xs ys p1 p2 n1 n2 c1 c2 s W hx hy hn1 hn2 hw hw2 hs h1 h2 hno
  unfold kPres at i1
  clear hx hy hw hw2 hR1 hR2 hO1 hO2 hno
  go_enter Tryz.func19, Tryz.ntmps19
  go_wp2_with (go_at_call 23; go_fit (i1 _ (HP1.out _ HR.out.2.2.2) (HP2.out _ HR.out.2.2.2)); rintro e w1 ⟨rfl, hb⟩; have HR1 := Lib.hid (HR.out.on hb); clear hb; obtain ⟨⟨m0, m1⟩, _⟩ := arr9_two HR1.out.1; obtain ⟨⟨s0, s1, s2, s3, s4, s5⟩, _⟩ := arr_six0 HR1.out.2.1; obtain ⟨⟨r0, r1, r2, r3, r4, r5, r6, r7, r8, r9⟩, u0, u1, u2, u3, u4, u5, u6, u7, u8, u9⟩ := ten_all HR1.out.2.2.1; have hzA := arr9_lt HR1.out.1; have hzB := arr9_lt HR1.out.2.1; have hzC := arr9_lt HR1.out.2.2.1)
  have hA := arr9_on (arr_put10 HR1.out.2.2.1 (.slice none 0 0) (.slice none 0 0) (.slice none 0 0) (.string ⟨#[]⟩) (.string ⟨#[]⟩) (.string ⟨#[]⟩) (.string ⟨#[]⟩) (.int .i64 0) (.string ⟨#[]⟩) (.int .i64 1)) ((Below.refl _ _).alloc (Nat.le_refl _) (.cells #[.slice none 0 0, .slice none 0 0, .slice none 0 0, .string ⟨#[]⟩, .string ⟨#[]⟩, .string ⟨#[]⟩, .string ⟨#[]⟩, .int .i64 0, .string ⟨#[]⟩, .int .i64 1] 37))
  have hBw := below_put10 HR1.out.2.2.2 (show w.heap.size ≤ w.heap.size + 1 + 1 by omega) (.slice none 0 0) (.slice none 0 0) (.slice none 0 0) (.string ⟨#[]⟩) (.string ⟨#[]⟩) (.string ⟨#[]⟩) (.string ⟨#[]⟩) (.int .i64 0) (.string ⟨#[]⟩) (.int .i64 1)
  exact bodyPost_ret (v := .agg #[.slice none 0 0, .slice none 0 0, .slice none 0 0, .string ⟨#[]⟩, .string ⟨#[]⟩, .string ⟨#[]⟩, .string ⟨#[]⟩, .int .i64 0, .string ⟨#[]⟩, .int .i64 1]) (results_cell_row (P := Tryz.prog) Tryz.results19 _ _ (w.heap.size + 1 + 1) 37 _ (0, 0) _ rfl hA Tryz.underlying37 rfl (by kernel_rfl)) rfl ⟨ro_ill _ _ _, hBw.alloc hBw.size (.cells #[.slice none 0 0, .slice none 0 0, .slice none 0 0, .string ⟨#[]⟩, .string ⟨#[]⟩, .string ⟨#[]⟩, .string ⟨#[]⟩, .int .i64 0, .string ⟨#[]⟩, .int .i64 1] 37)⟩
set_option maxRecDepth 100000 in
set_option maxHeartbeats 1000000 in
theorem spec_rpresT0 (xs : List SeL) (ys : List MsL) (p1 p2 : Option Addr) (n1 n2 c1 c2 : Nat) (s : MsL) (w : World) (hx : xs.length = n1) (hy : ys.length = n2) (hn1 : n1 ≤ 1048576) (hn2 : n2 ≤ 1048576) (hw : SzS xs) (hw2 : SzM ys) (hs : s.le 1048576) (B0 : Nat) (hO1 : OwnC seC w B0 70 4 (.slice p1 n1 c1) xs) (hO2 : OwnC msC w B0 35 6 (.slice p2 n2 c2) ys) (hyes : routB kPres xs ys s = true) (hr0 : (resA s.o).size = 0) :
    Calls Tryz.prog 19 #[.agg #[.slice p1 n1 c1, .slice p2 n2 c2], .agg #[.string s.k, .string s.t, .string s.f, .string s.o, .int .i64 s.n, .string s.b]] w fun e w' => RoIs w.heap.size ⟨xs, ys, selL (preF (resA s.o)) xs, zMs, 0⟩ e w' ∧ Below w.heap.size w w' := by
  have hR1 := row_own9 hO1
  have hR2 := row_ownM hO2
  have HR := Lib.hid (rqb_start w p1 n1 c1 p2 n2 c2 s)
  have HP1 := Lib.hid (fun W (h : Below w.heap.size w W) => hR1.on h)
  have HP2 := Lib.hid (fun W (h : Below w.heap.size w W) => hR2.on h)
  have HO1 := Lib.hid (fun W (h : Below w.heap.size w W) => hO1.on h)
  have HO2 := Lib.hid (fun W (h : Below w.heap.size w W) => hO2.on h)
  have HX := Lib.hid hx
  have HY := Lib.hid hy
  have hmb : mbB xs ys = true := by unfold routB at hyes; simp only [Bool.and_eq_true] at hyes; exact hyes.1.1.1
  obtain ⟨hok, hn5, _⟩ := mb_parts hmb
  have i1 := fun W h1 h2 => spec_beginT kPres xs ys p1 p2 n1 n2 c1 c2 s W hx hy hn1 hn2 hw hw2 hs B0 h1 h2 hyes
  unfold kPres at i1
  obtain ⟨r, hr⟩ : ∃ r, resA s.o = r := ⟨_, rfl⟩
  rw [hr] at i1 hr0 ⊢
  obtain rfl : r = ⟨#[]⟩ := ba_ext (List.eq_nil_of_length_eq_zero (by rw [ByteArray.toList_eq, size_data]; exact hr0))
  have h5 := (okB_iff.1 hok).1
  obtain ⟨f, hf⟩ : ∃ f, preF ⟨#[]⟩ = f := ⟨_, rfl⟩
  rw [hf]
  have HF := Lib.hid (fun y : SeL => show f y = (y.o && (((⟨#[]⟩ : ByteArray).toList == []) || (y.r.toList == (⟨#[]⟩ : ByteArray).toList))) by rw [← hf]; rfl)
  have hn5 : n1 ≤ 5 := by omega
  clear hx hy hw hw2 hR1 hR2 hO1 hO2 hyes hmb hok hr hf hr0
  go_enter Tryz.func19, Tryz.ntmps19
  go_wp2_with (go_at_call 23; go_fit (i1 _ (HO1.out _ HR.out.2.2.2) (HO2.out _ HR.out.2.2.2)); rintro e w1 ⟨⟨q1, l1, q2, l2, rfl, v1, v2⟩, hb⟩; have HR1 := Lib.hid (HR.out.on hb); have HR1a := Lib.hid (HR1.out.on ((Below.refl _ _).alloc (Nat.le_refl _) (.cells #[.slice q1 n1 l1, .slice q2 n2 l2, .slice none 0 0, .string ⟨#[]⟩, .string ⟨#[]⟩, .string ⟨#[]⟩, .string ⟨#[]⟩, .int .i64 0, .string ⟨#[]⟩, .int .i64 0] 37))); have HE1a := Lib.hid (Arr.fresh w1 37 [.slice q1 n1 l1, .slice q2 n2 l2, .slice none 0 0, .string ⟨#[]⟩, .string ⟨#[]⟩, .string ⟨#[]⟩, .string ⟨#[]⟩, .int .i64 0, .string ⟨#[]⟩, .int .i64 0]); have HV1 := Lib.hid (And.intro (v1.mono HR.out.big) (v2.mono HR.out.big)); have HV1a := Lib.hid (And.intro (HV1.out.1.alloc (.cells #[.slice q1 n1 l1, .slice q2 n2 l2, .slice none 0 0, .string ⟨#[]⟩, .string ⟨#[]⟩, .string ⟨#[]⟩, .string ⟨#[]⟩, .int .i64 0, .string ⟨#[]⟩, .int .i64 0] 37)) (HV1.out.2.alloc (.cells #[.slice q1 n1 l1, .slice q2 n2 l2, .slice none 0 0, .string ⟨#[]⟩, .string ⟨#[]⟩, .string ⟨#[]⟩, .string ⟨#[]⟩, .int .i64 0, .string ⟨#[]⟩, .int .i64 0] 37))); clear hb v1 v2; obtain ⟨⟨m0, m1⟩, _⟩ := arr9_two HR1.out.1; obtain ⟨⟨s0, s1, s2, s3, s4, s5⟩, _⟩ := arr_six0 HR1.out.2.1; obtain ⟨⟨r0, r1, r2, r3, r4, r5, r6, r7, r8, r9⟩, u0, u1, u2, u3, u4, u5, u6, u7, u8, u9⟩ := ten_all HR1.out.2.2.1; have hzA := arr9_lt HR1.out.1; have hzB := arr9_lt HR1.out.2.1; have hzC := arr9_lt HR1.out.2.2.1)
  have hb3 : w.heap.size + 3 ≤ w1.heap.size := HR1.out.big
  go_loopw [8] (fun iq wr => ∃ (k : Nat) (v : Value), k ≤ n1 ∧ iq = .int .i64 k ∧ RqB w wr p1 n1 c1 p2 n2 c2 s ∧ Arr wr w1.heap.size 37 [.slice q1 n1 l1, .slice q2 n2 l2, v, .string ⟨#[]⟩, .string ⟨#[]⟩, .string ⟨#[]⟩, .string ⟨#[]⟩, .int .i64 0, .string ⟨#[]⟩, .int .i64 0] ∧ (OwnC seC wr (w.heap.size + 3) 70 4 (.slice q1 n1 l1) xs ∧ OwnC msC wr (w.heap.size + 3) 35 6 (.slice q2 n2 l2) ys) ∧ OwnC strC wr (w.heap.size + 3) 9 1 v (selL f (xs.take k))) (fun i _ => n1 - (intOf i).toNat)
  case atStart => exact ⟨0, .slice none 0 0, Nat.zero_le _, rfl, HR1a.out, HE1a.out, HV1a.out, ownC_nil _ _ _ _ _⟩
  case round =>
    obtain ⟨k, v, hk, rfl, hR, hE, hV, hT⟩ := hrel
    have HRk := Lib.hid hR
    have HEk := Lib.hid hE
    have HVk := Lib.hid hV
    have HTk := Lib.hid hT
    clear hR hE hV hT
    obtain ⟨⟨m0, m1⟩, _⟩ := arr9_two HRk.out.1; obtain ⟨⟨s0, s1, s2, s3, s4, s5⟩, _⟩ := arr_six0 HRk.out.2.1; obtain ⟨⟨r0, r1, r2, r3, r4, r5, r6, r7, r8, r9⟩, u0, u1, u2, u3, u4, u5, u6, u7, u8, u9⟩ := ten_all HRk.out.2.2.1; have hzA := arr9_lt HRk.out.1; have hzB := arr9_lt HRk.out.2.1; have hzC := arr9_lt HRk.out.2.2.1
    obtain ⟨⟨e0, e1, e2, e3, e4, e5, e6, e7, e8, e9⟩, f0, f1, f2, f3, f4, f5, f6, f7, f8, f9⟩ := ten_all HEk.out; have hzE := arr9_lt HEk.out
    by_cases hlt : k < n1
    · have hlt1 : k < xs.length := by rw [HX.out]; exact hlt
      have HROW := Lib.hid (fun W (h : RowC seC 4 W p1 xs) => row_se4 h hlt1)
      have hss := sel_succ f hlt1
      have hL : Hid ((selL f (xs.take k)).length ≤ 1000000) := Lib.hid (by have := sel_len f (xs.take k); rw [List.length_take] at this; omega)
      obtain ⟨x, hx⟩ : ∃ x, xs[k] = x := ⟨_, rfl⟩
      rw [hx] at hss HROW
      have hfx := HF.out x
      obtain ⟨bo, hbo⟩ : ∃ b, x.o = b := ⟨_, rfl⟩
      rw [hbo] at hfx HROW
      obtain ⟨g, hgp, hg, a0, a1, a2, a3⟩ := HROW.out _ (HP1.out _ HRk.out.2.2.2)
      subst hgp
      have hk1 : (k : Int) < (n1 : Int) := by omega
      have hk0 : (0 : Int) ≤ (k : Int) := by omega
      clear hx hbo
      cases bo
      · have HS : Hid (selL f (xs.take (k + 1)) = selL f (xs.take k)) := Lib.hid (by rw [hss, hfx]; rfl)
        clear hss hfx
        go_wp2
        go_roundw
        case rel => exact ⟨k + 1, v, by omega, by go_num, HRk.out, HEk.out, HVk.out, by rw [HS.out]; exact HTk.out⟩
        case measure => simp [intOf]; omega
      · have HS : Hid (selL f (xs.take (k + 1)) = selL f (xs.take k) ++ [x.r]) := Lib.hid (by rw [hss, hfx]; simp)
        clear hss hfx
        go_wp2
        refine wp_region_held_drew (S := fun W => RqB w W (some ⟨g, 0, none⟩) n1 c1 p2 n2 c2 s) (by kernel_rfl) (HRk.out.on (Below.refl _ _).drew) (fun hHeld => ?_)
        have HR4 := Lib.hid (HRk.out.on (Below.refl _ _).drew)
        have HE4 := Lib.hid (arr9_on HEk.out (Below.refl _ _).drew)
        have HV4 := Lib.hid (And.intro (HVk.out.1.on (Below.refl _ _).drew) (HVk.out.2.on (Below.refl _ _).drew))
        have HT4 := Lib.hid (HTk.out.on (Below.refl _ _).drew)
        generalize World.drew _ = wd at HR4 HE4 HV4 HT4 hHeld ⊢
        refine takeQ (i := 0) (k := 46) (v := .pointer (some ⟨w1.heap.size, 2, none⟩)) rfl (by rfl) (by kernel_rfl) (by kernel_rfl) (by kernel_rfl) (fun _ _ _ h => h) (by rfl) ?_ hHeld ?_
        · intro wv hSv; go_simp
        (try simp only [Act.put, List.setIfInBounds_toArray, List.set_cons_zero, List.set_cons_succ])
        refine takeQ (i := 2) (k := 48) (v := .pointer (some ⟨w.heap.size, 0, none⟩)) rfl (by rfl) (by kernel_rfl) (by kernel_rfl) (by kernel_rfl) (fun _ _ _ h => h) (by rfl) ?_ hHeld ?_
        · intro wv hSv; obtain ⟨⟨m0, m1⟩, _⟩ := arr9_two hSv.1; go_simp
        (try simp only [Act.put, List.setIfInBounds_toArray, List.set_cons_zero, List.set_cons_succ])
        refine takeQ (i := 3) (k := 49) (v := .slice (some ⟨g, 0, none⟩) n1 c1) rfl (by rfl) (by kernel_rfl) (by kernel_rfl) (by kernel_rfl) (fun _ _ _ h => h) (by rfl) ?_ hHeld ?_
        · intro wv hSv; obtain ⟨⟨m0, m1⟩, _⟩ := arr9_two hSv.1; go_simp
        (try simp only [Act.put, List.setIfInBounds_toArray, List.set_cons_zero, List.set_cons_succ])
        refine takeQ (i := 4) (k := 50) (v := .int .i64 k) rfl (by rfl) (by kernel_rfl) (by kernel_rfl) (by kernel_rfl) (fun _ _ _ h => h) (by rfl) ?_ hHeld ?_
        · intro wv hSv; go_simp
        (try simp only [Act.put, List.setIfInBounds_toArray, List.set_cons_zero, List.set_cons_succ])
        refine takeQ (i := 5) (k := 51) (v := .pointer (some ⟨g, k * 4, none⟩)) rfl (by rfl) (by kernel_rfl) (by kernel_rfl) (by kernel_rfl) (fun _ _ _ h => h) (by rfl) ?_ hHeld ?_
        · intro wv hSv; obtain ⟨g2, hg2, _, a0, a1, a2, a3⟩ := HROW.out _ (HP1.out _ hSv.2.2.2); have hgg : g = g2 := (by simpa using hg2); subst hgg; go_simp
        (try simp only [Act.put, List.setIfInBounds_toArray, List.set_cons_zero, List.set_cons_succ])
        refine takeQ (i := 6) (k := 52) (v := .pointer (some ⟨g, k * 4, none⟩)) rfl (by rfl) (by kernel_rfl) (by kernel_rfl) (by kernel_rfl) (fun _ _ _ h => h) (by rfl) ?_ hHeld ?_
        · intro wv hSv; obtain ⟨g2, hg2, _, a0, a1, a2, a3⟩ := HROW.out _ (HP1.out _ hSv.2.2.2); have hgg : g = g2 := (by simpa using hg2); subst hgg; go_simp
        (try simp only [Act.put, List.setIfInBounds_toArray, List.set_cons_zero, List.set_cons_succ])
        refine takeQ (i := 7) (k := 53) (v := .string x.r) rfl (by rfl) (by kernel_rfl) (by kernel_rfl) (by kernel_rfl) (fun _ _ _ h => h) (by rfl) ?_ hHeld ?_
        · intro wv hSv; obtain ⟨g2, hg2, _, a0, a1, a2, a3⟩ := HROW.out _ (HP1.out _ hSv.2.2.2); have hgg : g = g2 := (by simpa using hg2); subst hgg; go_simp
        (try simp only [Act.put, List.setIfInBounds_toArray, List.set_cons_zero, List.set_cons_succ])
        refine wpAnyH_ready (rs := [1, 8]) (by kernel_rfl) (by simp) ?_
        refine AllReadyH.cons rfl (fun K hK => ?_) (AllReadyH.cons rfl (fun K hK => ?_) AllReadyH.nil)
        · skip
          rw [if_pos (by rfl)]
          obtain ⟨⟨x0, x1, x2, x3, x4, x5, x6, x7, x8, x9⟩, y0, y1, y2, y3, y4, y5, y6, y7, y8, y9⟩ := ten_all HE4.out
          go_simp
          clear x0 x1 x2 x3 x4 x5 x6 x7 x8 x9 y0 y1 y2 y3 y4 y5 y6 y7 y8 y9
          refine hK.out _ _ HR4.out (fun hHeld => ?_)
          clear hK K
          (try simp only [Act.put, List.setIfInBounds_toArray, List.set_cons_zero, List.set_cons_succ])
          refine wpAnyH_ready (rs := [8]) (by kernel_rfl) (by simp) ?_
          refine AllReadyH.cons rfl (fun K hK => ?_) AllReadyH.nil
          rw [if_pos (by rfl)]
          go_simp
          have HR5 := Lib.hid (HR4.out.on ((Below.refl _ _).alloc (Nat.le_refl _) (.cells #[.string x.r] 9)))
          have HE5 := Lib.hid (arr9_on HE4.out ((Below.refl _ _).alloc (Nat.le_refl _) (.cells #[.string x.r] 9)))
          have HV5 := Lib.hid (And.intro (HV4.out.1.alloc (.cells #[.string x.r] 9)) (HV4.out.2.alloc (.cells #[.string x.r] 9)))
          have HT5 := Lib.hid (HT4.out.alloc (.cells #[.string x.r] 9))
          have HN5 := Lib.hid ((Arr.fresh wd 9 [.string x.r]).cell 0)
          refine hK.out _ _ HR5.out (fun hHeld => ?_)
          clear hK K
          (try simp only [Act.put, List.setIfInBounds_toArray, List.set_cons_zero, List.set_cons_succ])
          refine wpAnyH_ready (rs := [9]) (by kernel_rfl) (by simp) ?_
          refine AllReadyH.cons rfl (fun K hK => ?_) AllReadyH.nil
          rw [if_pos (by rfl)]
          refine wp_app_str9 _ _ rfl (w.heap.size + 3) v (selL f (xs.take k)) rfl (ownC_T HT5.out) wd.heap.size x.r rfl HN5.out (by have := hL.out; omega) HR5.out.big ?_
          intro v7 w7 hv hg hin
          obtain ⟨q4, l4, rfl⟩ := ownT_shape hv
          have HV7 := Lib.hid (ownT_C hv)
          have HR7 := Lib.hid (HR5.out.grow hg (fun q hq => (hin q hq).1))
          have HE7 := Lib.hid (arr_beside10 HE5.out hg (own_ne10 HT5.out HE5.out (by decide)))
          have HW7 := Lib.hid (And.intro (own_beside HV5.out.1 hg (own_two HT5.out HV5.out.1 (by decide))) (own_beside HV5.out.2 hg (own_two HT5.out HV5.out.2 (by decide))))
          clear hv hg hin
          obtain ⟨M, hM⟩ : ∃ M, (selL f (xs.take k) ++ [x.r]).length = M := ⟨_, rfl⟩
          rw [hM] at HV7 ⊢
          clear hM
          refine hK.out _ _ HR7.out (fun hHeld => ?_)
          clear hK K
          (try simp only [Act.put, List.setIfInBounds_toArray, List.set_cons_zero, List.set_cons_succ])
          refine takeQ (i := 10) (k := 56) (v := .pointer (some ⟨w1.heap.size, 2, none⟩)) rfl (by rfl) (by kernel_rfl) (by kernel_rfl) (by kernel_rfl) (fun _ _ _ h => h) (by rfl) ?_ hHeld ?_
          · intro wv hSv; go_simp
          (try simp only [Act.put, List.setIfInBounds_toArray, List.set_cons_zero, List.set_cons_succ])
          obtain ⟨⟨x0, x1, x2, x3, x4, x5, x6, x7, x8, x9⟩, y0, y1, y2, y3, y4, y5, y6, y7, y8, y9⟩ := ten_all HE7.out
          refine wpAnyH_ready (rs := [11]) (by kernel_rfl) (by simp) ?_
          refine AllReadyH.cons rfl (fun K hK => ?_) AllReadyH.nil
          rw [if_pos (by rfl)]
          go_simp
          have HR8 := Lib.hid (RqB.put HR7.out (b := w1.heap.size) (i := 2) (.slice q4 M l4) hb3)
          have HE8 := Lib.hid (HE7.out.put 2 (.slice q4 M l4))
          have HV8 := Lib.hid (own_cell10 (i := 2) (u := .slice q4 M l4) HV7.out (own_ne10 HV7.out HE7.out (by decide)))
          have HW8 := Lib.hid (And.intro (own_cell10 (i := 2) (u := .slice q4 M l4) HW7.out.1 (own_ne10 HW7.out.1 HE7.out (by decide))) (own_cell10 (i := 2) (u := .slice q4 M l4) HW7.out.2 (own_ne10 HW7.out.2 HE7.out (by decide))))
          refine hK.out _ _ HR8.out (fun hHeld => ?_)
          clear hK K
          (try simp only [Act.put, List.setIfInBounds_toArray, List.set_cons_zero, List.set_cons_succ])
          refine wpAnyH_done (by kernel_rfl) ?_ _
          clear hHeld
          go_wp2
          go_roundw
          case rel => exact ⟨k + 1, .slice q4 M l4, by omega, by go_num, HR8.out, HE8.out, HW8.out, by rw [HS.out]; exact HV8.out⟩
          case measure => simp [intOf]; omega
        · skip
          rw [if_pos (by rfl)]
          go_simp
          have HR5 := Lib.hid (HR4.out.on ((Below.refl _ _).alloc (Nat.le_refl _) (.cells #[.string x.r] 9)))
          have HE5 := Lib.hid (arr9_on HE4.out ((Below.refl _ _).alloc (Nat.le_refl _) (.cells #[.string x.r] 9)))
          have HV5 := Lib.hid (And.intro (HV4.out.1.alloc (.cells #[.string x.r] 9)) (HV4.out.2.alloc (.cells #[.string x.r] 9)))
          have HT5 := Lib.hid (HT4.out.alloc (.cells #[.string x.r] 9))
          have HN5 := Lib.hid ((Arr.fresh wd 9 [.string x.r]).cell 0)
          refine hK.out _ _ HR5.out (fun hHeld => ?_)
          clear hK K
          (try simp only [Act.put, List.setIfInBounds_toArray, List.set_cons_zero, List.set_cons_succ])
          refine wpAnyH_ready (rs := [1]) (by kernel_rfl) (by simp) ?_
          refine AllReadyH.cons rfl (fun K hK => ?_) AllReadyH.nil
          rw [if_pos (by rfl)]
          obtain ⟨⟨x0, x1, x2, x3, x4, x5, x6, x7, x8, x9⟩, y0, y1, y2, y3, y4, y5, y6, y7, y8, y9⟩ := ten_all HE5.out
          go_simp
          clear x0 x1 x2 x3 x4 x5 x6 x7 x8 x9 y0 y1 y2 y3 y4 y5 y6 y7 y8 y9
          refine hK.out _ _ HR5.out (fun hHeld => ?_)
          clear hK K
          (try simp only [Act.put, List.setIfInBounds_toArray, List.set_cons_zero, List.set_cons_succ])
          refine wpAnyH_ready (rs := [9]) (by kernel_rfl) (by simp) ?_
          refine AllReadyH.cons rfl (fun K hK => ?_) AllReadyH.nil
          rw [if_pos (by rfl)]
          refine wp_app_str9 _ _ rfl (w.heap.size + 3) v (selL f (xs.take k)) rfl (ownC_T HT5.out) wd.heap.size x.r rfl HN5.out (by have := hL.out; omega) HR5.out.big ?_
          intro v7 w7 hv hg hin
          obtain ⟨q4, l4, rfl⟩ := ownT_shape hv
          have HV7 := Lib.hid (ownT_C hv)
          have HR7 := Lib.hid (HR5.out.grow hg (fun q hq => (hin q hq).1))
          have HE7 := Lib.hid (arr_beside10 HE5.out hg (own_ne10 HT5.out HE5.out (by decide)))
          have HW7 := Lib.hid (And.intro (own_beside HV5.out.1 hg (own_two HT5.out HV5.out.1 (by decide))) (own_beside HV5.out.2 hg (own_two HT5.out HV5.out.2 (by decide))))
          clear hv hg hin
          obtain ⟨M, hM⟩ : ∃ M, (selL f (xs.take k) ++ [x.r]).length = M := ⟨_, rfl⟩
          rw [hM] at HV7 ⊢
          clear hM
          refine hK.out _ _ HR7.out (fun hHeld => ?_)
          clear hK K
          (try simp only [Act.put, List.setIfInBounds_toArray, List.set_cons_zero, List.set_cons_succ])
          refine takeQ (i := 10) (k := 56) (v := .pointer (some ⟨w1.heap.size, 2, none⟩)) rfl (by rfl) (by kernel_rfl) (by kernel_rfl) (by kernel_rfl) (fun _ _ _ h => h) (by rfl) ?_ hHeld ?_
          · intro wv hSv; go_simp
          (try simp only [Act.put, List.setIfInBounds_toArray, List.set_cons_zero, List.set_cons_succ])
          obtain ⟨⟨x0, x1, x2, x3, x4, x5, x6, x7, x8, x9⟩, y0, y1, y2, y3, y4, y5, y6, y7, y8, y9⟩ := ten_all HE7.out
          refine wpAnyH_ready (rs := [11]) (by kernel_rfl) (by simp) ?_
          refine AllReadyH.cons rfl (fun K hK => ?_) AllReadyH.nil
          rw [if_pos (by rfl)]
          go_simp
          have HR8 := Lib.hid (RqB.put HR7.out (b := w1.heap.size) (i := 2) (.slice q4 M l4) hb3)
          have HE8 := Lib.hid (HE7.out.put 2 (.slice q4 M l4))
          have HV8 := Lib.hid (own_cell10 (i := 2) (u := .slice q4 M l4) HV7.out (own_ne10 HV7.out HE7.out (by decide)))
          have HW8 := Lib.hid (And.intro (own_cell10 (i := 2) (u := .slice q4 M l4) HW7.out.1 (own_ne10 HW7.out.1 HE7.out (by decide))) (own_cell10 (i := 2) (u := .slice q4 M l4) HW7.out.2 (own_ne10 HW7.out.2 HE7.out (by decide))))
          refine hK.out _ _ HR8.out (fun hHeld => ?_)
          clear hK K
          (try simp only [Act.put, List.setIfInBounds_toArray, List.set_cons_zero, List.set_cons_succ])
          refine wpAnyH_done (by kernel_rfl) ?_ _
          clear hHeld
          go_wp2
          go_roundw
          case rel => exact ⟨k + 1, .slice q4 M l4, by omega, by go_num, HR8.out, HE8.out, HW8.out, by rw [HS.out]; exact HV8.out⟩
          case measure => simp [intOf]; omega
    · obtain rfl : n1 = k := by omega
      have HT9 : Hid (OwnC strC wr (w.heap.size + 3) 9 1 v (selL f xs)) := Lib.hid (by have h := HTk.out; rw [List.take_of_length_le (by rw [HX.out]; omega)] at h; exact h)
      obtain ⟨q4, l4, e4⟩ := own_shape10 HT9.out rfl
      subst e4
      clear HTk
      go_wp2
      have hA := arr_put10 HRk.out.2.2.1 (.slice q1 n1 l1) (.slice q2 n2 l2) (.slice q4 (selL f xs).length l4) (.string ⟨#[]⟩) (.string ⟨#[]⟩) (.string ⟨#[]⟩) (.string ⟨#[]⟩) (.int .i64 0) (.string ⟨#[]⟩) (.int .i64 0)
      have hBw := below_put10 HRk.out.2.2.2 (show w.heap.size ≤ w.heap.size + 1 + 1 by omega) (.slice q1 n1 l1) (.slice q2 n2 l2) (.slice q4 (selL f xs).length l4) (.string ⟨#[]⟩) (.string ⟨#[]⟩) (.string ⟨#[]⟩) (.string ⟨#[]⟩) (.int .i64 0) (.string ⟨#[]⟩) (.int .i64 0)
      exact bodyPost_ret (v := .agg #[.slice q1 n1 l1, .slice q2 n2 l2, .slice q4 (selL f xs).length l4, .string ⟨#[]⟩, .string ⟨#[]⟩, .string ⟨#[]⟩, .string ⟨#[]⟩, .int .i64 0, .string ⟨#[]⟩, .int .i64 0]) (results_cell_row (P := Tryz.prog) Tryz.results19 _ _ (w.heap.size + 1 + 1) 37 _ (0, 0) _ rfl hA Tryz.underlying37 rfl (by kernel_rfl)) rfl ⟨⟨q1, l1, q2, l2, q4, l4, by unfold roV; rw [HX.out, HY.out]; rfl, by rw [HX.out]; exact (own_put10 HVk.out.1 (by omega) (.slice q1 n1 l1) (.slice q2 n2 l2) (.slice q4 (selL f xs).length l4) (.string ⟨#[]⟩) (.string ⟨#[]⟩) (.string ⟨#[]⟩) (.string ⟨#[]⟩) (.int .i64 0) (.string ⟨#[]⟩) (.int .i64 0)).mono (by omega), by rw [HY.out]; exact (own_put10 HVk.out.2 (by omega) (.slice q1 n1 l1) (.slice q2 n2 l2) (.slice q4 (selL f xs).length l4) (.string ⟨#[]⟩) (.string ⟨#[]⟩) (.string ⟨#[]⟩) (.string ⟨#[]⟩) (.int .i64 0) (.string ⟨#[]⟩) (.int .i64 0)).mono (by omega), (own_put10 HT9.out (by omega) (.slice q1 n1 l1) (.slice q2 n2 l2) (.slice q4 (selL f xs).length l4) (.string ⟨#[]⟩) (.string ⟨#[]⟩) (.string ⟨#[]⟩) (.string ⟨#[]⟩) (.int .i64 0) (.string ⟨#[]⟩) (.int .i64 0)).mono (by omega)⟩, hBw⟩
set_option maxRecDepth 100000 in
set_option maxHeartbeats 1000000 in
theorem spec_rpresT1 (xs : List SeL) (ys : List MsL) (p1 p2 : Option Addr) (n1 n2 c1 c2 : Nat) (s : MsL) (w : World) (hx : xs.length = n1) (hy : ys.length = n2) (hn1 : n1 ≤ 1048576) (hn2 : n2 ≤ 1048576) (hw : SzS xs) (hw2 : SzM ys) (hs : s.le 1048576) (B0 : Nat) (hO1 : OwnC seC w B0 70 4 (.slice p1 n1 c1) xs) (hO2 : OwnC msC w B0 35 6 (.slice p2 n2 c2) ys) (hyes : routB kPres xs ys s = true) (hr0 : ((resA s.o).toList == []) = false) :
    Calls Tryz.prog 19 #[.agg #[.slice p1 n1 c1, .slice p2 n2 c2], .agg #[.string s.k, .string s.t, .string s.f, .string s.o, .int .i64 s.n, .string s.b]] w fun e w' => RoIs w.heap.size ⟨xs, ys, selL (preF (resA s.o)) xs, zMs, 0⟩ e w' ∧ Below w.heap.size w w' := by
  have hR1 := row_own9 hO1
  have hR2 := row_ownM hO2
  have HR := Lib.hid (rqb_start w p1 n1 c1 p2 n2 c2 s)
  have HP1 := Lib.hid (fun W (h : Below w.heap.size w W) => hR1.on h)
  have HP2 := Lib.hid (fun W (h : Below w.heap.size w W) => hR2.on h)
  have HO1 := Lib.hid (fun W (h : Below w.heap.size w W) => hO1.on h)
  have HO2 := Lib.hid (fun W (h : Below w.heap.size w W) => hO2.on h)
  have HX := Lib.hid hx
  have HY := Lib.hid hy
  have hmb : mbB xs ys = true := by unfold routB at hyes; simp only [Bool.and_eq_true] at hyes; exact hyes.1.1.1
  obtain ⟨hok, hn5, _⟩ := mb_parts hmb
  have i1 := fun W h1 h2 => spec_beginT kPres xs ys p1 p2 n1 n2 c1 c2 s W hx hy hn1 hn2 hw hw2 hs B0 h1 h2 hyes
  unfold kPres at i1
  obtain ⟨r, hr⟩ : ∃ r, resA s.o = r := ⟨_, rfl⟩
  rw [hr] at i1 hr0 ⊢
  have hr1 : r.toList ≠ [] := by simpa using hr0
  have hr2 : r.toList.isEmpty = false := by simpa using hr1
  have h5 := (okB_iff.1 hok).1
  obtain ⟨f, hf⟩ : ∃ f, preF r = f := ⟨_, rfl⟩
  rw [hf]
  have HF := Lib.hid (fun y : SeL => show f y = (y.o && (((r : ByteArray).toList == []) || (y.r.toList == (r : ByteArray).toList))) by rw [← hf]; rfl)
  have hn5 : n1 ≤ 5 := by omega
  clear hx hy hw hw2 hR1 hR2 hO1 hO2 hyes hmb hok hr hf
  go_enter Tryz.func19, Tryz.ntmps19
  go_wp2_with (go_at_call 23; go_fit (i1 _ (HO1.out _ HR.out.2.2.2) (HO2.out _ HR.out.2.2.2)); rintro e w1 ⟨⟨q1, l1, q2, l2, rfl, v1, v2⟩, hb⟩; have HR1 := Lib.hid (HR.out.on hb); have HR1a := Lib.hid (HR1.out.on ((Below.refl _ _).alloc (Nat.le_refl _) (.cells #[.slice q1 n1 l1, .slice q2 n2 l2, .slice none 0 0, .string ⟨#[]⟩, .string ⟨#[]⟩, .string ⟨#[]⟩, .string ⟨#[]⟩, .int .i64 0, .string ⟨#[]⟩, .int .i64 0] 37))); have HE1a := Lib.hid (Arr.fresh w1 37 [.slice q1 n1 l1, .slice q2 n2 l2, .slice none 0 0, .string ⟨#[]⟩, .string ⟨#[]⟩, .string ⟨#[]⟩, .string ⟨#[]⟩, .int .i64 0, .string ⟨#[]⟩, .int .i64 0]); have HV1 := Lib.hid (And.intro (v1.mono HR.out.big) (v2.mono HR.out.big)); have HV1a := Lib.hid (And.intro (HV1.out.1.alloc (.cells #[.slice q1 n1 l1, .slice q2 n2 l2, .slice none 0 0, .string ⟨#[]⟩, .string ⟨#[]⟩, .string ⟨#[]⟩, .string ⟨#[]⟩, .int .i64 0, .string ⟨#[]⟩, .int .i64 0] 37)) (HV1.out.2.alloc (.cells #[.slice q1 n1 l1, .slice q2 n2 l2, .slice none 0 0, .string ⟨#[]⟩, .string ⟨#[]⟩, .string ⟨#[]⟩, .string ⟨#[]⟩, .int .i64 0, .string ⟨#[]⟩, .int .i64 0] 37))); clear hb v1 v2; obtain ⟨⟨m0, m1⟩, _⟩ := arr9_two HR1.out.1; obtain ⟨⟨s0, s1, s2, s3, s4, s5⟩, _⟩ := arr_six0 HR1.out.2.1; obtain ⟨⟨r0, r1, r2, r3, r4, r5, r6, r7, r8, r9⟩, u0, u1, u2, u3, u4, u5, u6, u7, u8, u9⟩ := ten_all HR1.out.2.2.1; have hzA := arr9_lt HR1.out.1; have hzB := arr9_lt HR1.out.2.1; have hzC := arr9_lt HR1.out.2.2.1)
  have hb3 : w.heap.size + 3 ≤ w1.heap.size := HR1.out.big
  go_loopw [8] (fun iq wr => ∃ (k : Nat) (v : Value), k ≤ n1 ∧ iq = .int .i64 k ∧ RqB w wr p1 n1 c1 p2 n2 c2 s ∧ Arr wr w1.heap.size 37 [.slice q1 n1 l1, .slice q2 n2 l2, v, .string ⟨#[]⟩, .string ⟨#[]⟩, .string ⟨#[]⟩, .string ⟨#[]⟩, .int .i64 0, .string ⟨#[]⟩, .int .i64 0] ∧ (OwnC seC wr (w.heap.size + 3) 70 4 (.slice q1 n1 l1) xs ∧ OwnC msC wr (w.heap.size + 3) 35 6 (.slice q2 n2 l2) ys) ∧ OwnC strC wr (w.heap.size + 3) 9 1 v (selL f (xs.take k))) (fun i _ => n1 - (intOf i).toNat)
  case atStart => exact ⟨0, .slice none 0 0, Nat.zero_le _, rfl, HR1a.out, HE1a.out, HV1a.out, ownC_nil _ _ _ _ _⟩
  case round =>
    obtain ⟨k, v, hk, rfl, hR, hE, hV, hT⟩ := hrel
    have HRk := Lib.hid hR
    have HEk := Lib.hid hE
    have HVk := Lib.hid hV
    have HTk := Lib.hid hT
    clear hR hE hV hT
    obtain ⟨⟨m0, m1⟩, _⟩ := arr9_two HRk.out.1; obtain ⟨⟨s0, s1, s2, s3, s4, s5⟩, _⟩ := arr_six0 HRk.out.2.1; obtain ⟨⟨r0, r1, r2, r3, r4, r5, r6, r7, r8, r9⟩, u0, u1, u2, u3, u4, u5, u6, u7, u8, u9⟩ := ten_all HRk.out.2.2.1; have hzA := arr9_lt HRk.out.1; have hzB := arr9_lt HRk.out.2.1; have hzC := arr9_lt HRk.out.2.2.1
    obtain ⟨⟨e0, e1, e2, e3, e4, e5, e6, e7, e8, e9⟩, f0, f1, f2, f3, f4, f5, f6, f7, f8, f9⟩ := ten_all HEk.out; have hzE := arr9_lt HEk.out
    by_cases hlt : k < n1
    · have hlt1 : k < xs.length := by rw [HX.out]; exact hlt
      have HROW := Lib.hid (fun W (h : RowC seC 4 W p1 xs) => row_se4 h hlt1)
      have hss := sel_succ f hlt1
      have hL : Hid ((selL f (xs.take k)).length ≤ 1000000) := Lib.hid (by have := sel_len f (xs.take k); rw [List.length_take] at this; omega)
      obtain ⟨x, hx⟩ : ∃ x, xs[k] = x := ⟨_, rfl⟩
      rw [hx] at hss HROW
      have hfx := HF.out x
      obtain ⟨bo, hbo⟩ : ∃ b, x.o = b := ⟨_, rfl⟩
      rw [hbo] at hfx HROW
      obtain ⟨g, hgp, hg, a0, a1, a2, a3⟩ := HROW.out _ (HP1.out _ HRk.out.2.2.2)
      subst hgp
      have hk1 : (k : Int) < (n1 : Int) := by omega
      have hk0 : (0 : Int) ≤ (k : Int) := by omega
      clear hx hbo
      cases bo
      · have HS : Hid (selL f (xs.take (k + 1)) = selL f (xs.take k)) := Lib.hid (by rw [hss, hfx]; rfl)
        clear hss hfx
        go_wp2
        go_roundw
        case rel => exact ⟨k + 1, v, by omega, by go_num, HRk.out, HEk.out, HVk.out, by rw [HS.out]; exact HTk.out⟩
        case measure => simp [intOf]; omega
      cases hc : (x.r.toList == r.toList)
      · have HS : Hid (selL f (xs.take (k + 1)) = selL f (xs.take k)) := Lib.hid (by rw [hss, hfx, hc, hr0]; rfl)
        clear hss hfx
        go_wp2
        go_roundw
        case rel => exact ⟨k + 1, v, by omega, by go_num, HRk.out, HEk.out, HVk.out, by rw [HS.out]; exact HTk.out⟩
        case measure => simp [intOf]; omega
      · have HS : Hid (selL f (xs.take (k + 1)) = selL f (xs.take k) ++ [x.r]) := Lib.hid (by rw [hss, hfx, hc]; simp)
        clear hss hfx
        go_wp2
        refine wp_region_held_drew (S := fun W => RqB w W (some ⟨g, 0, none⟩) n1 c1 p2 n2 c2 s) (by kernel_rfl) (HRk.out.on (Below.refl _ _).drew) (fun hHeld => ?_)
        have HR4 := Lib.hid (HRk.out.on (Below.refl _ _).drew)
        have HE4 := Lib.hid (arr9_on HEk.out (Below.refl _ _).drew)
        have HV4 := Lib.hid (And.intro (HVk.out.1.on (Below.refl _ _).drew) (HVk.out.2.on (Below.refl _ _).drew))
        have HT4 := Lib.hid (HTk.out.on (Below.refl _ _).drew)
        generalize World.drew _ = wd at HR4 HE4 HV4 HT4 hHeld ⊢
        refine takeQ (i := 0) (k := 46) (v := .pointer (some ⟨w1.heap.size, 2, none⟩)) rfl (by rfl) (by kernel_rfl) (by kernel_rfl) (by kernel_rfl) (fun _ _ _ h => h) (by rfl) ?_ hHeld ?_
        · intro wv hSv; go_simp
        (try simp only [Act.put, List.setIfInBounds_toArray, List.set_cons_zero, List.set_cons_succ])
        refine takeQ (i := 2) (k := 48) (v := .pointer (some ⟨w.heap.size, 0, none⟩)) rfl (by rfl) (by kernel_rfl) (by kernel_rfl) (by kernel_rfl) (fun _ _ _ h => h) (by rfl) ?_ hHeld ?_
        · intro wv hSv; obtain ⟨⟨m0, m1⟩, _⟩ := arr9_two hSv.1; go_simp
        (try simp only [Act.put, List.setIfInBounds_toArray, List.set_cons_zero, List.set_cons_succ])
        refine takeQ (i := 3) (k := 49) (v := .slice (some ⟨g, 0, none⟩) n1 c1) rfl (by rfl) (by kernel_rfl) (by kernel_rfl) (by kernel_rfl) (fun _ _ _ h => h) (by rfl) ?_ hHeld ?_
        · intro wv hSv; obtain ⟨⟨m0, m1⟩, _⟩ := arr9_two hSv.1; go_simp
        (try simp only [Act.put, List.setIfInBounds_toArray, List.set_cons_zero, List.set_cons_succ])
        refine takeQ (i := 4) (k := 50) (v := .int .i64 k) rfl (by rfl) (by kernel_rfl) (by kernel_rfl) (by kernel_rfl) (fun _ _ _ h => h) (by rfl) ?_ hHeld ?_
        · intro wv hSv; go_simp
        (try simp only [Act.put, List.setIfInBounds_toArray, List.set_cons_zero, List.set_cons_succ])
        refine takeQ (i := 5) (k := 51) (v := .pointer (some ⟨g, k * 4, none⟩)) rfl (by rfl) (by kernel_rfl) (by kernel_rfl) (by kernel_rfl) (fun _ _ _ h => h) (by rfl) ?_ hHeld ?_
        · intro wv hSv; obtain ⟨g2, hg2, _, a0, a1, a2, a3⟩ := HROW.out _ (HP1.out _ hSv.2.2.2); have hgg : g = g2 := (by simpa using hg2); subst hgg; go_simp
        (try simp only [Act.put, List.setIfInBounds_toArray, List.set_cons_zero, List.set_cons_succ])
        refine takeQ (i := 6) (k := 52) (v := .pointer (some ⟨g, k * 4, none⟩)) rfl (by rfl) (by kernel_rfl) (by kernel_rfl) (by kernel_rfl) (fun _ _ _ h => h) (by rfl) ?_ hHeld ?_
        · intro wv hSv; obtain ⟨g2, hg2, _, a0, a1, a2, a3⟩ := HROW.out _ (HP1.out _ hSv.2.2.2); have hgg : g = g2 := (by simpa using hg2); subst hgg; go_simp
        (try simp only [Act.put, List.setIfInBounds_toArray, List.set_cons_zero, List.set_cons_succ])
        refine takeQ (i := 7) (k := 53) (v := .string x.r) rfl (by rfl) (by kernel_rfl) (by kernel_rfl) (by kernel_rfl) (fun _ _ _ h => h) (by rfl) ?_ hHeld ?_
        · intro wv hSv; obtain ⟨g2, hg2, _, a0, a1, a2, a3⟩ := HROW.out _ (HP1.out _ hSv.2.2.2); have hgg : g = g2 := (by simpa using hg2); subst hgg; go_simp
        (try simp only [Act.put, List.setIfInBounds_toArray, List.set_cons_zero, List.set_cons_succ])
        refine wpAnyH_ready (rs := [1, 8]) (by kernel_rfl) (by simp) ?_
        refine AllReadyH.cons rfl (fun K hK => ?_) (AllReadyH.cons rfl (fun K hK => ?_) AllReadyH.nil)
        · skip
          rw [if_pos (by rfl)]
          obtain ⟨⟨x0, x1, x2, x3, x4, x5, x6, x7, x8, x9⟩, y0, y1, y2, y3, y4, y5, y6, y7, y8, y9⟩ := ten_all HE4.out
          go_simp
          clear x0 x1 x2 x3 x4 x5 x6 x7 x8 x9 y0 y1 y2 y3 y4 y5 y6 y7 y8 y9
          refine hK.out _ _ HR4.out (fun hHeld => ?_)
          clear hK K
          (try simp only [Act.put, List.setIfInBounds_toArray, List.set_cons_zero, List.set_cons_succ])
          refine wpAnyH_ready (rs := [8]) (by kernel_rfl) (by simp) ?_
          refine AllReadyH.cons rfl (fun K hK => ?_) AllReadyH.nil
          rw [if_pos (by rfl)]
          go_simp
          have HR5 := Lib.hid (HR4.out.on ((Below.refl _ _).alloc (Nat.le_refl _) (.cells #[.string x.r] 9)))
          have HE5 := Lib.hid (arr9_on HE4.out ((Below.refl _ _).alloc (Nat.le_refl _) (.cells #[.string x.r] 9)))
          have HV5 := Lib.hid (And.intro (HV4.out.1.alloc (.cells #[.string x.r] 9)) (HV4.out.2.alloc (.cells #[.string x.r] 9)))
          have HT5 := Lib.hid (HT4.out.alloc (.cells #[.string x.r] 9))
          have HN5 := Lib.hid ((Arr.fresh wd 9 [.string x.r]).cell 0)
          refine hK.out _ _ HR5.out (fun hHeld => ?_)
          clear hK K
          (try simp only [Act.put, List.setIfInBounds_toArray, List.set_cons_zero, List.set_cons_succ])
          refine wpAnyH_ready (rs := [9]) (by kernel_rfl) (by simp) ?_
          refine AllReadyH.cons rfl (fun K hK => ?_) AllReadyH.nil
          rw [if_pos (by rfl)]
          refine wp_app_str9 _ _ rfl (w.heap.size + 3) v (selL f (xs.take k)) rfl (ownC_T HT5.out) wd.heap.size x.r rfl HN5.out (by have := hL.out; omega) HR5.out.big ?_
          intro v7 w7 hv hg hin
          obtain ⟨q4, l4, rfl⟩ := ownT_shape hv
          have HV7 := Lib.hid (ownT_C hv)
          have HR7 := Lib.hid (HR5.out.grow hg (fun q hq => (hin q hq).1))
          have HE7 := Lib.hid (arr_beside10 HE5.out hg (own_ne10 HT5.out HE5.out (by decide)))
          have HW7 := Lib.hid (And.intro (own_beside HV5.out.1 hg (own_two HT5.out HV5.out.1 (by decide))) (own_beside HV5.out.2 hg (own_two HT5.out HV5.out.2 (by decide))))
          clear hv hg hin
          obtain ⟨M, hM⟩ : ∃ M, (selL f (xs.take k) ++ [x.r]).length = M := ⟨_, rfl⟩
          rw [hM] at HV7 ⊢
          clear hM
          refine hK.out _ _ HR7.out (fun hHeld => ?_)
          clear hK K
          (try simp only [Act.put, List.setIfInBounds_toArray, List.set_cons_zero, List.set_cons_succ])
          refine takeQ (i := 10) (k := 56) (v := .pointer (some ⟨w1.heap.size, 2, none⟩)) rfl (by rfl) (by kernel_rfl) (by kernel_rfl) (by kernel_rfl) (fun _ _ _ h => h) (by rfl) ?_ hHeld ?_
          · intro wv hSv; go_simp
          (try simp only [Act.put, List.setIfInBounds_toArray, List.set_cons_zero, List.set_cons_succ])
          obtain ⟨⟨x0, x1, x2, x3, x4, x5, x6, x7, x8, x9⟩, y0, y1, y2, y3, y4, y5, y6, y7, y8, y9⟩ := ten_all HE7.out
          refine wpAnyH_ready (rs := [11]) (by kernel_rfl) (by simp) ?_
          refine AllReadyH.cons rfl (fun K hK => ?_) AllReadyH.nil
          rw [if_pos (by rfl)]
          go_simp
          have HR8 := Lib.hid (RqB.put HR7.out (b := w1.heap.size) (i := 2) (.slice q4 M l4) hb3)
          have HE8 := Lib.hid (HE7.out.put 2 (.slice q4 M l4))
          have HV8 := Lib.hid (own_cell10 (i := 2) (u := .slice q4 M l4) HV7.out (own_ne10 HV7.out HE7.out (by decide)))
          have HW8 := Lib.hid (And.intro (own_cell10 (i := 2) (u := .slice q4 M l4) HW7.out.1 (own_ne10 HW7.out.1 HE7.out (by decide))) (own_cell10 (i := 2) (u := .slice q4 M l4) HW7.out.2 (own_ne10 HW7.out.2 HE7.out (by decide))))
          refine hK.out _ _ HR8.out (fun hHeld => ?_)
          clear hK K
          (try simp only [Act.put, List.setIfInBounds_toArray, List.set_cons_zero, List.set_cons_succ])
          refine wpAnyH_done (by kernel_rfl) ?_ _
          clear hHeld
          go_wp2
          go_roundw
          case rel => exact ⟨k + 1, .slice q4 M l4, by omega, by go_num, HR8.out, HE8.out, HW8.out, by rw [HS.out]; exact HV8.out⟩
          case measure => simp [intOf]; omega
        · skip
          rw [if_pos (by rfl)]
          go_simp
          have HR5 := Lib.hid (HR4.out.on ((Below.refl _ _).alloc (Nat.le_refl _) (.cells #[.string x.r] 9)))
          have HE5 := Lib.hid (arr9_on HE4.out ((Below.refl _ _).alloc (Nat.le_refl _) (.cells #[.string x.r] 9)))
          have HV5 := Lib.hid (And.intro (HV4.out.1.alloc (.cells #[.string x.r] 9)) (HV4.out.2.alloc (.cells #[.string x.r] 9)))
          have HT5 := Lib.hid (HT4.out.alloc (.cells #[.string x.r] 9))
          have HN5 := Lib.hid ((Arr.fresh wd 9 [.string x.r]).cell 0)
          refine hK.out _ _ HR5.out (fun hHeld => ?_)
          clear hK K
          (try simp only [Act.put, List.setIfInBounds_toArray, List.set_cons_zero, List.set_cons_succ])
          refine wpAnyH_ready (rs := [1]) (by kernel_rfl) (by simp) ?_
          refine AllReadyH.cons rfl (fun K hK => ?_) AllReadyH.nil
          rw [if_pos (by rfl)]
          obtain ⟨⟨x0, x1, x2, x3, x4, x5, x6, x7, x8, x9⟩, y0, y1, y2, y3, y4, y5, y6, y7, y8, y9⟩ := ten_all HE5.out
          go_simp
          clear x0 x1 x2 x3 x4 x5 x6 x7 x8 x9 y0 y1 y2 y3 y4 y5 y6 y7 y8 y9
          refine hK.out _ _ HR5.out (fun hHeld => ?_)
          clear hK K
          (try simp only [Act.put, List.setIfInBounds_toArray, List.set_cons_zero, List.set_cons_succ])
          refine wpAnyH_ready (rs := [9]) (by kernel_rfl) (by simp) ?_
          refine AllReadyH.cons rfl (fun K hK => ?_) AllReadyH.nil
          rw [if_pos (by rfl)]
          refine wp_app_str9 _ _ rfl (w.heap.size + 3) v (selL f (xs.take k)) rfl (ownC_T HT5.out) wd.heap.size x.r rfl HN5.out (by have := hL.out; omega) HR5.out.big ?_
          intro v7 w7 hv hg hin
          obtain ⟨q4, l4, rfl⟩ := ownT_shape hv
          have HV7 := Lib.hid (ownT_C hv)
          have HR7 := Lib.hid (HR5.out.grow hg (fun q hq => (hin q hq).1))
          have HE7 := Lib.hid (arr_beside10 HE5.out hg (own_ne10 HT5.out HE5.out (by decide)))
          have HW7 := Lib.hid (And.intro (own_beside HV5.out.1 hg (own_two HT5.out HV5.out.1 (by decide))) (own_beside HV5.out.2 hg (own_two HT5.out HV5.out.2 (by decide))))
          clear hv hg hin
          obtain ⟨M, hM⟩ : ∃ M, (selL f (xs.take k) ++ [x.r]).length = M := ⟨_, rfl⟩
          rw [hM] at HV7 ⊢
          clear hM
          refine hK.out _ _ HR7.out (fun hHeld => ?_)
          clear hK K
          (try simp only [Act.put, List.setIfInBounds_toArray, List.set_cons_zero, List.set_cons_succ])
          refine takeQ (i := 10) (k := 56) (v := .pointer (some ⟨w1.heap.size, 2, none⟩)) rfl (by rfl) (by kernel_rfl) (by kernel_rfl) (by kernel_rfl) (fun _ _ _ h => h) (by rfl) ?_ hHeld ?_
          · intro wv hSv; go_simp
          (try simp only [Act.put, List.setIfInBounds_toArray, List.set_cons_zero, List.set_cons_succ])
          obtain ⟨⟨x0, x1, x2, x3, x4, x5, x6, x7, x8, x9⟩, y0, y1, y2, y3, y4, y5, y6, y7, y8, y9⟩ := ten_all HE7.out
          refine wpAnyH_ready (rs := [11]) (by kernel_rfl) (by simp) ?_
          refine AllReadyH.cons rfl (fun K hK => ?_) AllReadyH.nil
          rw [if_pos (by rfl)]
          go_simp
          have HR8 := Lib.hid (RqB.put HR7.out (b := w1.heap.size) (i := 2) (.slice q4 M l4) hb3)
          have HE8 := Lib.hid (HE7.out.put 2 (.slice q4 M l4))
          have HV8 := Lib.hid (own_cell10 (i := 2) (u := .slice q4 M l4) HV7.out (own_ne10 HV7.out HE7.out (by decide)))
          have HW8 := Lib.hid (And.intro (own_cell10 (i := 2) (u := .slice q4 M l4) HW7.out.1 (own_ne10 HW7.out.1 HE7.out (by decide))) (own_cell10 (i := 2) (u := .slice q4 M l4) HW7.out.2 (own_ne10 HW7.out.2 HE7.out (by decide))))
          refine hK.out _ _ HR8.out (fun hHeld => ?_)
          clear hK K
          (try simp only [Act.put, List.setIfInBounds_toArray, List.set_cons_zero, List.set_cons_succ])
          refine wpAnyH_done (by kernel_rfl) ?_ _
          clear hHeld
          go_wp2
          go_roundw
          case rel => exact ⟨k + 1, .slice q4 M l4, by omega, by go_num, HR8.out, HE8.out, HW8.out, by rw [HS.out]; exact HV8.out⟩
          case measure => simp [intOf]; omega
    · obtain rfl : n1 = k := by omega
      have HT9 : Hid (OwnC strC wr (w.heap.size + 3) 9 1 v (selL f xs)) := Lib.hid (by have h := HTk.out; rw [List.take_of_length_le (by rw [HX.out]; omega)] at h; exact h)
      obtain ⟨q4, l4, e4⟩ := own_shape10 HT9.out rfl
      subst e4
      clear HTk
      go_wp2
      have hA := arr_put10 HRk.out.2.2.1 (.slice q1 n1 l1) (.slice q2 n2 l2) (.slice q4 (selL f xs).length l4) (.string ⟨#[]⟩) (.string ⟨#[]⟩) (.string ⟨#[]⟩) (.string ⟨#[]⟩) (.int .i64 0) (.string ⟨#[]⟩) (.int .i64 0)
      have hBw := below_put10 HRk.out.2.2.2 (show w.heap.size ≤ w.heap.size + 1 + 1 by omega) (.slice q1 n1 l1) (.slice q2 n2 l2) (.slice q4 (selL f xs).length l4) (.string ⟨#[]⟩) (.string ⟨#[]⟩) (.string ⟨#[]⟩) (.string ⟨#[]⟩) (.int .i64 0) (.string ⟨#[]⟩) (.int .i64 0)
      exact bodyPost_ret (v := .agg #[.slice q1 n1 l1, .slice q2 n2 l2, .slice q4 (selL f xs).length l4, .string ⟨#[]⟩, .string ⟨#[]⟩, .string ⟨#[]⟩, .string ⟨#[]⟩, .int .i64 0, .string ⟨#[]⟩, .int .i64 0]) (results_cell_row (P := Tryz.prog) Tryz.results19 _ _ (w.heap.size + 1 + 1) 37 _ (0, 0) _ rfl hA Tryz.underlying37 rfl (by kernel_rfl)) rfl ⟨⟨q1, l1, q2, l2, q4, l4, by unfold roV; rw [HX.out, HY.out]; rfl, by rw [HX.out]; exact (own_put10 HVk.out.1 (by omega) (.slice q1 n1 l1) (.slice q2 n2 l2) (.slice q4 (selL f xs).length l4) (.string ⟨#[]⟩) (.string ⟨#[]⟩) (.string ⟨#[]⟩) (.string ⟨#[]⟩) (.int .i64 0) (.string ⟨#[]⟩) (.int .i64 0)).mono (by omega), by rw [HY.out]; exact (own_put10 HVk.out.2 (by omega) (.slice q1 n1 l1) (.slice q2 n2 l2) (.slice q4 (selL f xs).length l4) (.string ⟨#[]⟩) (.string ⟨#[]⟩) (.string ⟨#[]⟩) (.string ⟨#[]⟩) (.int .i64 0) (.string ⟨#[]⟩) (.int .i64 0)).mono (by omega), (own_put10 HT9.out (by omega) (.slice q1 n1 l1) (.slice q2 n2 l2) (.slice q4 (selL f xs).length l4) (.string ⟨#[]⟩) (.string ⟨#[]⟩) (.string ⟨#[]⟩) (.string ⟨#[]⟩) (.int .i64 0) (.string ⟨#[]⟩) (.int .i64 0)).mono (by omega)⟩, hBw⟩
theorem spec_rpres (xs : List SeL) (ys : List MsL) (p1 p2 : Option Addr) (n1 n2 c1 c2 : Nat) (s : MsL) (w : World) (hx : xs.length = n1) (hy : ys.length = n2) (hn1 : n1 ≤ 1048576) (hn2 : n2 ≤ 1048576) (hw : SzS xs) (hw2 : SzM ys) (hs : s.le 1048576) (B0 : Nat) (hO1 : OwnC seC w B0 70 4 (.slice p1 n1 c1) xs) (hO2 : OwnC msC w B0 35 6 (.slice p2 n2 c2) ys) :
    Calls Tryz.prog 19 #[.agg #[.slice p1 n1 c1, .slice p2 n2 c2], .agg #[.string s.k, .string s.t, .string s.f, .string s.o, .int .i64 s.n, .string s.b]] w fun e w' => RoIs w.heap.size (presR10 xs ys s) e w' ∧ Below w.heap.size w w' := by
  unfold presR10 routeR
  cases hyes : routB kPres xs ys s
  · rw [if_neg (by decide)]
    exact spec_rpresF xs ys p1 p2 n1 n2 c1 c2 s w hx hy hn1 hn2 hw hw2 hs B0 hO1 hO2 hyes
  rw [if_pos rfl]
  have hz := ne_z pres_ne hyes
  have e : Calls Tryz.prog 19 #[.agg #[.slice p1 n1 c1, .slice p2 n2 c2], .agg #[.string s.k, .string s.t, .string s.f, .string s.o, .int .i64 s.n, .string s.b]] w fun e w' => RoIs w.heap.size ⟨xs, ys, selL (preF (resA s.o)) xs, zMs, 0⟩ e w' ∧ Below w.heap.size w w' := by
    cases hr : ((resA s.o).toList == [])
    · exact spec_rpresT1 xs ys p1 p2 n1 n2 c1 c2 s w hx hy hn1 hn2 hw hw2 hs B0 hO1 hO2 hyes hr
    · exact spec_rpresT0 xs ys p1 p2 n1 n2 c1 c2 s w hx hy hn1 hn2 hw hw2 hs B0 hO1 hO2 hyes (r_size hr)
  have ht : presT.to (resA s.o) xs = selL (preF (resA s.o)) xs := pres_sel _ _
  by_cases h4 : (selL (preF (resA s.o)) xs).length = 0
  · have h5 := List.eq_nil_of_length_eq_zero h4
    rw [h5] at ht e
    rw [wt2 (T := presT) ht rfl hz]
    exact e
  · rw [wt1 (T := presT) ht h4]
    exact e
end Go.Proofs.YtpjmcpfmnlfmdaaGreat
