/- Several parts in one text: MbRouteS. -/
import Derived.Test.YtpjmcpfmnlfmdaaGreatQMbR
namespace Go.Proofs.YtpjmcpfmnlfmdaaGreat
set_option linter.unusedSimpArgs false
set_option linter.unusedVariables false
open Go.RowKit Go.Joins

theorem str_row10 (w : World) (r : ByteArray) : OwnC strC (w.alloc (.cells #[.string r] 9)) w.heap.size 9 1 (.slice (some ⟨w.heap.size, 0, none⟩) 1 1) [r] :=
  World.ownsRow_lit w #[.string r] 1 (Nat.le_refl _) (by decide) rfl
theorem RqB.put {w W : World} {p1 : Option Addr} {n1 c1 : Nat} {p2 : Option Addr} {n2 c2 : Nat} {s : MsL} (h : RqB w W p1 n1 c1 p2 n2 c2 s) {b i : Nat} (u : Value) (hb : w.heap.size + 3 ≤ b) : RqB w (W.setCell ⟨b, i, none⟩ u) p1 n1 c1 p2 n2 c2 s :=
  ⟨arr_other h.1 _ _ _ (by omega), arr_other h.2.1 _ _ _ (by omega), arr_other h.2.2.1 _ _ _ (by omega), h.2.2.2.setCell (p := ⟨b, i, none⟩) (by show w.heap.size ≤ b; omega) u⟩
theorem RqB.put6b {w W : World} {p1 : Option Addr} {n1 c1 : Nat} {p2 : Option Addr} {n2 c2 : Nat} {s : MsL} (h : RqB w W p1 n1 c1 p2 n2 c2 s) {b : Nat} (hb : w.heap.size + 3 ≤ b) (x0 x1 x2 x3 x4 x5 : Value) : RqB w (Go.Proofs.YtpjmcpfmnlfmdaaGreat.put6b W b x0 x1 x2 x3 x4 x5) p1 n1 c1 p2 n2 c2 s :=
  (((((h.put x0 hb).put x1 hb).put x2 hb).put x3 hb).put x4 hb).put x5 hb
theorem RqB.grow {w W W2 : World} {p1 : Option Addr} {n1 c1 : Nat} {p2 : Option Addr} {n2 c2 : Nat} {s : MsL} {r : Option Nat} (h : RqB w W p1 n1 c1 p2 n2 c2 s) (hg : W.grownBy W2 r) (hr : ∀ k, r = some k → w.heap.size + 3 ≤ k) : RqB w W2 p1 n1 c1 p2 n2 c2 s :=
  ⟨arr_beside10 h.1 hg (fun k hk => by have := hr k hk; omega), arr_beside10 h.2.1 hg (fun k hk => by have := hr k hk; omega), arr_beside10 h.2.2.1 hg (fun k hk => by have := hr k hk; omega), h.2.2.2.grown hg h.2.2.2.size (fun k hk => by have := hr k hk; omega)⟩
theorem size_put10 (w : World) (g : Nat) (b0 b1 b2 b3 b4 b5 b6 b7 b8 b9 : Value) : (put10 w g b0 b1 b2 b3 b4 b5 b6 b7 b8 b9).heap.size = w.heap.size := by simp [put10]
theorem wpList_app_oneM {ops : Array Oper} {rest : List Oper} {o : Oper} {a : Act} {w : World} {Q : Exit → Act → World → Prop} (hgd : o.guard = none) (s x : Operand)
    (ho : o.op = .call { callee := .builtin .append, args := #[s, x], argTypes := #[31, 31] })
    (B : Nat) (v : Value) (ys : List MsL) (hs : a.eval s = v) (hown : OwnC msC w B 35 6 v ys) (g : Nat) (z : MsL) (hx : a.eval x = .slice (some ⟨g, 0, none⟩) 1 1) (hA : Arr w g 35 (msC z))
    (hlen : ys.length ≤ 1000000) (hB : B ≤ w.heap.size) (h : ∀ v' w', OwnC msC w' B 35 6 v' (ys ++ [z]) → w.grownBy w' v.ownBlock → wpList Tryz.prog ops Q rest (a.put o.dst v') w') : wpList Tryz.prog ops Q (o :: rest) a w :=
  wpList_plain hgd fun K hK => wp_app_oneM s x ho B v ys hs hown g z hx hA hlen hB fun v' w' h1 h2 => hK _ _ (h v' w' h1 h2)
set_option maxRecDepth 100000 in
set_option maxHeartbeats 8000000 in
theorem spec_rmessF (xs : List SeL) (ys : List MsL) (p1 p2 : Option Addr) (n1 n2 c1 c2 : Nat) (s : MsL) (w : World) (hx : xs.length = n1) (hy : ys.length = n2) (hn1 : n1 ≤ 1048576) (hn2 : n2 ≤ 1048576) (hw : SzS xs) (hw2 : SzM ys) (hs : s.le 1048576) (B0 : Nat) (hO1 : OwnC seC w B0 70 4 (.slice p1 n1 c1) xs) (hO2 : OwnC msC w B0 35 6 (.slice p2 n2 c2) ys) (hno : routB kMess xs ys s = false) :
    Calls Tryz.prog 8 #[.agg #[.slice p1 n1 c1, .slice p2 n2 c2], .agg #[.string s.k, .string s.t, .string s.f, .string s.o, .int .i64 s.n, .string s.b]] w fun e w' => RoIs w.heap.size (illM 1) e w' ∧ Below w.heap.size w w' := by
  have hR1 := row_own9 hO1
  have hR2 := row_ownM hO2
  have HR := Lib.hid (rqb_start w p1 n1 c1 p2 n2 c2 s)
  have HP1 := Lib.hid (fun W (h : Below w.heap.size w W) => hR1.on h)
  have HP2 := Lib.hid (fun W (h : Below w.heap.size w W) => hR2.on h)
  have HO1 := Lib.hid (fun W (h : Below w.heap.size w W) => hO1.on h)
  have HO2 := Lib.hid (fun W (h : Below w.heap.size w W) => hO2.on h)
  have HX := Lib.hid hx
  have HY := Lib.hid hy
  have i1 := fun W h1 h2 => spec_beginF kMess xs ys p1 p2 n1 n2 c1 c2 s W hx hy hn1 hn2 hw hw2 hs h1 h2 hno
  unfold kMess at i1
  clear hx hy hw hw2 hR1 hR2 hO1 hO2 hno
  go_enter Tryz.func8, Tryz.ntmps8
  go_wp2_with (go_at_call 23; go_fit (i1 _ (HP1.out _ HR.out.2.2.2) (HP2.out _ HR.out.2.2.2)); rintro e w1 ⟨rfl, hb⟩; have HR1 := Lib.hid (HR.out.on hb); clear hb; obtain ⟨⟨m0, m1⟩, _⟩ := arr9_two HR1.out.1; obtain ⟨⟨s0, s1, s2, s3, s4, s5⟩, _⟩ := arr_six0 HR1.out.2.1; obtain ⟨⟨r0, r1, r2, r3, r4, r5, r6, r7, r8, r9⟩, u0, u1, u2, u3, u4, u5, u6, u7, u8, u9⟩ := ten_all HR1.out.2.2.1; have hzA := arr9_lt HR1.out.1; have hzB := arr9_lt HR1.out.2.1; have hzC := arr9_lt HR1.out.2.2.1)
  have hA := arr9_on (arr_put10 HR1.out.2.2.1 (.slice none 0 0) (.slice none 0 0) (.slice none 0 0) (.string ⟨#[]⟩) (.string ⟨#[]⟩) (.string ⟨#[]⟩) (.string ⟨#[]⟩) (.int .i64 0) (.string ⟨#[]⟩) (.int .i64 1)) ((Below.refl _ _).alloc (Nat.le_refl _) (.cells #[.slice none 0 0, .slice none 0 0, .slice none 0 0, .string ⟨#[]⟩, .string ⟨#[]⟩, .string ⟨#[]⟩, .string ⟨#[]⟩, .int .i64 0, .string ⟨#[]⟩, .int .i64 1] 37))
  have hBw := below_put10 HR1.out.2.2.2 (show w.heap.size ≤ w.heap.size + 1 + 1 by omega) (.slice none 0 0) (.slice none 0 0) (.slice none 0 0) (.string ⟨#[]⟩) (.string ⟨#[]⟩) (.string ⟨#[]⟩) (.string ⟨#[]⟩) (.int .i64 0) (.string ⟨#[]⟩) (.int .i64 1)
  exact bodyPost_ret (v := .agg #[.slice none 0 0, .slice none 0 0, .slice none 0 0, .string ⟨#[]⟩, .string ⟨#[]⟩, .string ⟨#[]⟩, .string ⟨#[]⟩, .int .i64 0, .string ⟨#[]⟩, .int .i64 1]) (results_cell_row (P := Tryz.prog) Tryz.results8 _ _ (w.heap.size + 1 + 1) 37 _ (0, 0) _ rfl hA Tryz.underlying37 rfl (by kernel_rfl)) rfl ⟨ro_ill _ _ _, hBw.alloc hBw.size (.cells #[.slice none 0 0, .slice none 0 0, .slice none 0 0, .string ⟨#[]⟩, .string ⟨#[]⟩, .string ⟨#[]⟩, .string ⟨#[]⟩, .int .i64 0, .string ⟨#[]⟩, .int .i64 1] 37)⟩
set_option maxRecDepth 100000 in
set_option maxHeartbeats 8000000 in
theorem spec_riqF (xs : List SeL) (ys : List MsL) (p1 p2 : Option Addr) (n1 n2 c1 c2 : Nat) (s : MsL) (w : World) (hx : xs.length = n1) (hy : ys.length = n2) (hn1 : n1 ≤ 1048576) (hn2 : n2 ≤ 1048576) (hw : SzS xs) (hw2 : SzM ys) (hs : s.le 1048576) (B0 : Nat) (hO1 : OwnC seC w B0 70 4 (.slice p1 n1 c1) xs) (hO2 : OwnC msC w B0 35 6 (.slice p2 n2 c2) ys) (hno : routB kIq xs ys s = false) :
    Calls Tryz.prog 17 #[.agg #[.slice p1 n1 c1, .slice p2 n2 c2], .agg #[.string s.k, .string s.t, .string s.f, .string s.o, .int .i64 s.n, .string s.b]] w fun e w' => RoIs w.heap.size (illM 1) e w' ∧ Below w.heap.size w w' := by
  have hR1 := row_own9 hO1
  have hR2 := row_ownM hO2
  have HR := Lib.hid (rqb_start w p1 n1 c1 p2 n2 c2 s)
  have HP1 := Lib.hid (fun W (h : Below w.heap.size w W) => hR1.on h)
  have HP2 := Lib.hid (fun W (h : Below w.heap.size w W) => hR2.on h)
  have HO1 := Lib.hid (fun W (h : Below w.heap.size w W) => hO1.on h)
  have HO2 := Lib.hid (fun W (h : Below w.heap.size w W) => hO2.on h)
  have HX := Lib.hid hx
  have HY := Lib.hid hy
  have i1 := fun W h1 h2 => spec_beginF kIq xs ys p1 p2 n1 n2 c1 c2 s W hx hy hn1 hn2 hw hw2 hs h1 h2 hno
  unfold kIq at i1
  clear hx hy hw hw2 hR1 hR2 hO1 hO2 hno
  go_enter Tryz.func17, Tryz.ntmps17
  go_wp2_with (go_at_call 23; go_fit (i1 _ (HP1.out _ HR.out.2.2.2) (HP2.out _ HR.out.2.2.2)); rintro e w1 ⟨rfl, hb⟩; have HR1 := Lib.hid (HR.out.on hb); clear hb; obtain ⟨⟨m0, m1⟩, _⟩ := arr9_two HR1.out.1; obtain ⟨⟨s0, s1, s2, s3, s4, s5⟩, _⟩ := arr_six0 HR1.out.2.1; obtain ⟨⟨r0, r1, r2, r3, r4, r5, r6, r7, r8, r9⟩, u0, u1, u2, u3, u4, u5, u6, u7, u8, u9⟩ := ten_all HR1.out.2.2.1; have hzA := arr9_lt HR1.out.1; have hzB := arr9_lt HR1.out.2.1; have hzC := arr9_lt HR1.out.2.2.1)
  have hA := arr9_on (arr_put10 HR1.out.2.2.1 (.slice none 0 0) (.slice none 0 0) (.slice none 0 0) (.string ⟨#[]⟩) (.string ⟨#[]⟩) (.string ⟨#[]⟩) (.string ⟨#[]⟩) (.int .i64 0) (.string ⟨#[]⟩) (.int .i64 1)) ((Below.refl _ _).alloc (Nat.le_refl _) (.cells #[.slice none 0 0, .slice none 0 0, .slice none 0 0, .string ⟨#[]⟩, .string ⟨#[]⟩, .string ⟨#[]⟩, .string ⟨#[]⟩, .int .i64 0, .string ⟨#[]⟩, .int .i64 1] 37))
  have hBw := below_put10 HR1.out.2.2.2 (show w.heap.size ≤ w.heap.size + 1 + 1 by omega) (.slice none 0 0) (.slice none 0 0) (.slice none 0 0) (.string ⟨#[]⟩) (.string ⟨#[]⟩) (.string ⟨#[]⟩) (.string ⟨#[]⟩) (.int .i64 0) (.string ⟨#[]⟩) (.int .i64 1)
  exact bodyPost_ret (v := .agg #[.slice none 0 0, .slice none 0 0, .slice none 0 0, .string ⟨#[]⟩, .string ⟨#[]⟩, .string ⟨#[]⟩, .string ⟨#[]⟩, .int .i64 0, .string ⟨#[]⟩, .int .i64 1]) (results_cell_row (P := Tryz.prog) Tryz.results17 _ _ (w.heap.size + 1 + 1) 37 _ (0, 0) _ rfl hA Tryz.underlying37 rfl (by kernel_rfl)) rfl ⟨ro_ill _ _ _, hBw.alloc hBw.size (.cells #[.slice none 0 0, .slice none 0 0, .slice none 0 0, .string ⟨#[]⟩, .string ⟨#[]⟩, .string ⟨#[]⟩, .string ⟨#[]⟩, .int .i64 0, .string ⟨#[]⟩, .int .i64 1] 37)⟩
set_option maxRecDepth 100000 in
set_option maxHeartbeats 8000000 in
theorem spec_rmessE (xs : List SeL) (ys : List MsL) (p1 p2 : Option Addr) (n1 n2 c1 c2 : Nat) (s : MsL) (w : World) (hx : xs.length = n1) (hy : ys.length = n2) (hn1 : n1 ≤ 1048576) (hn2 : n2 ≤ 1048576) (hw : SzS xs) (hw2 : SzM ys) (hs : s.le 1048576) (B0 : Nat) (hO1 : OwnC seC w B0 70 4 (.slice p1 n1 c1) xs) (hO2 : OwnC msC w B0 35 6 (.slice p2 n2 c2) ys) (hyes : routB kMess xs ys s = true) (hte : (s.t.toList == [101, 114, 114, 111, 114]) = true) :
    Calls Tryz.prog 8 #[.agg #[.slice p1 n1 c1, .slice p2 n2 c2], .agg #[.string s.k, .string s.t, .string s.f, .string s.o, .int .i64 s.n, .string s.b]] w fun e w' => RoIs w.heap.size ⟨xs, ys, [], zMs, 0⟩ e w' ∧ Below w.heap.size w w' := by
  have hR1 := row_own9 hO1
  have hR2 := row_ownM hO2
  have HR := Lib.hid (rqb_start w p1 n1 c1 p2 n2 c2 s)
  have HP1 := Lib.hid (fun W (h : Below w.heap.size w W) => hR1.on h)
  have HP2 := Lib.hid (fun W (h : Below w.heap.size w W) => hR2.on h)
  have HO1 := Lib.hid (fun W (h : Below w.heap.size w W) => hO1.on h)
  have HO2 := Lib.hid (fun W (h : Below w.heap.size w W) => hO2.on h)
  have HX := Lib.hid hx
  have HY := Lib.hid hy
  have hmb : mbB xs ys = true := by unfold routB at hyes; simp only [Bool.and_eq_true] at hyes; exact hyes.1.1.1
  obtain ⟨hok, hn5, _⟩ := mb_parts hmb
  have i1 := fun W h1 h2 => spec_beginT kMess xs ys p1 p2 n1 n2 c1 c2 s W hx hy hn1 hn2 hw hw2 hs B0 h1 h2 hyes
  unfold kMess at i1
  obtain ⟨r, hr⟩ : ∃ r, resA s.o = r := ⟨_, rfl⟩
  rw [hr] at i1
  clear hx hy hw hw2 hR1 hR2 hO1 hO2 hyes hmb hok hn5 hr
  go_enter Tryz.func8, Tryz.ntmps8
  go_wp2_with (go_at_call 23; go_fit (i1 _ (HO1.out _ HR.out.2.2.2) (HO2.out _ HR.out.2.2.2)); rintro e w1 ⟨⟨q1, l1, q2, l2, rfl, v1, v2⟩, hb⟩; have HR1 := Lib.hid (HR.out.on hb); have HR1a := Lib.hid (HR1.out.on ((Below.refl _ _).alloc (Nat.le_refl _) (.cells #[.slice q1 n1 l1, .slice q2 n2 l2, .slice none 0 0, .string ⟨#[]⟩, .string ⟨#[]⟩, .string ⟨#[]⟩, .string ⟨#[]⟩, .int .i64 0, .string ⟨#[]⟩, .int .i64 0] 37))); have HE1a := Lib.hid (Arr.fresh w1 37 [.slice q1 n1 l1, .slice q2 n2 l2, .slice none 0 0, .string ⟨#[]⟩, .string ⟨#[]⟩, .string ⟨#[]⟩, .string ⟨#[]⟩, .int .i64 0, .string ⟨#[]⟩, .int .i64 0]); have HV1 := Lib.hid (And.intro (v1.mono HR.out.big) (v2.mono HR.out.big)); have HV1a := Lib.hid (And.intro (HV1.out.1.alloc (.cells #[.slice q1 n1 l1, .slice q2 n2 l2, .slice none 0 0, .string ⟨#[]⟩, .string ⟨#[]⟩, .string ⟨#[]⟩, .string ⟨#[]⟩, .int .i64 0, .string ⟨#[]⟩, .int .i64 0] 37)) (HV1.out.2.alloc (.cells #[.slice q1 n1 l1, .slice q2 n2 l2, .slice none 0 0, .string ⟨#[]⟩, .string ⟨#[]⟩, .string ⟨#[]⟩, .string ⟨#[]⟩, .int .i64 0, .string ⟨#[]⟩, .int .i64 0] 37))); clear hb v1 v2; obtain ⟨⟨m0, m1⟩, _⟩ := arr9_two HR1.out.1; obtain ⟨⟨s0, s1, s2, s3, s4, s5⟩, _⟩ := arr_six0 HR1.out.2.1; obtain ⟨⟨r0, r1, r2, r3, r4, r5, r6, r7, r8, r9⟩, u0, u1, u2, u3, u4, u5, u6, u7, u8, u9⟩ := ten_all HR1.out.2.2.1; have hzA := arr9_lt HR1.out.1; have hzB := arr9_lt HR1.out.2.1; have hzC := arr9_lt HR1.out.2.2.1)
  have hA := arr9_on (arr_put10 HR1.out.2.2.1 (.slice q1 n1 l1) (.slice q2 n2 l2) (.slice none 0 0) (.string ⟨#[]⟩) (.string ⟨#[]⟩) (.string ⟨#[]⟩) (.string ⟨#[]⟩) (.int .i64 0) (.string ⟨#[]⟩) (.int .i64 0)) ((Below.refl _ _).alloc (Nat.le_refl _) (.cells #[.slice q1 n1 l1, .slice q2 n2 l2, .slice none 0 0, .string ⟨#[]⟩, .string ⟨#[]⟩, .string ⟨#[]⟩, .string ⟨#[]⟩, .int .i64 0, .string ⟨#[]⟩, .int .i64 0] 37))
  have hBw := below_put10 HR1.out.2.2.2 (show w.heap.size ≤ w.heap.size + 1 + 1 by omega) (.slice q1 n1 l1) (.slice q2 n2 l2) (.slice none 0 0) (.string ⟨#[]⟩) (.string ⟨#[]⟩) (.string ⟨#[]⟩) (.string ⟨#[]⟩) (.int .i64 0) (.string ⟨#[]⟩) (.int .i64 0)
  exact bodyPost_ret (v := .agg #[.slice q1 n1 l1, .slice q2 n2 l2, .slice none 0 0, .string ⟨#[]⟩, .string ⟨#[]⟩, .string ⟨#[]⟩, .string ⟨#[]⟩, .int .i64 0, .string ⟨#[]⟩, .int .i64 0]) (results_cell_row (P := Tryz.prog) Tryz.results8 _ _ (w.heap.size + 1 + 1) 37 _ (0, 0) _ rfl hA Tryz.underlying37 rfl (by kernel_rfl)) rfl ⟨⟨q1, l1, q2, l2, none, 0, by unfold roV; rw [HX.out, HY.out]; rfl, by rw [HX.out]; exact ((own_put10 HV1.out.1 (by omega) (.slice q1 n1 l1) (.slice q2 n2 l2) (.slice none 0 0) (.string ⟨#[]⟩) (.string ⟨#[]⟩) (.string ⟨#[]⟩) (.string ⟨#[]⟩) (.int .i64 0) (.string ⟨#[]⟩) (.int .i64 0)).alloc (.cells #[.slice q1 n1 l1, .slice q2 n2 l2, .slice none 0 0, .string ⟨#[]⟩, .string ⟨#[]⟩, .string ⟨#[]⟩, .string ⟨#[]⟩, .int .i64 0, .string ⟨#[]⟩, .int .i64 0] 37)).mono (by omega), by rw [HY.out]; exact ((own_put10 HV1.out.2 (by omega) (.slice q1 n1 l1) (.slice q2 n2 l2) (.slice none 0 0) (.string ⟨#[]⟩) (.string ⟨#[]⟩) (.string ⟨#[]⟩) (.string ⟨#[]⟩) (.int .i64 0) (.string ⟨#[]⟩) (.int .i64 0)).alloc (.cells #[.slice q1 n1 l1, .slice q2 n2 l2, .slice none 0 0, .string ⟨#[]⟩, .string ⟨#[]⟩, .string ⟨#[]⟩, .string ⟨#[]⟩, .int .i64 0, .string ⟨#[]⟩, .int .i64 0] 37)).mono (by omega), ownC_nil _ _ _ _ _⟩, hBw.alloc hBw.size (.cells #[.slice q1 n1 l1, .slice q2 n2 l2, .slice none 0 0, .string ⟨#[]⟩, .string ⟨#[]⟩, .string ⟨#[]⟩, .string ⟨#[]⟩, .int .i64 0, .string ⟨#[]⟩, .int .i64 0] 37)⟩
set_option maxRecDepth 100000 in
set_option maxHeartbeats 8000000 in
theorem spec_rmessO (xs : List SeL) (ys : List MsL) (p1 p2 : Option Addr) (n1 n2 c1 c2 : Nat) (s : MsL) (w : World) (hx : xs.length = n1) (hy : ys.length = n2) (hn1 : n1 ≤ 1048576) (hn2 : n2 ≤ 1048576) (hw : SzS xs) (hw2 : SzM ys) (hs : s.le 1048576) (B0 : Nat) (hO1 : OwnC seC w B0 70 4 (.slice p1 n1 c1) xs) (hO2 : OwnC msC w B0 35 6 (.slice p2 n2 c2) ys) (hyes : routB kMess xs ys s = true) (hte : (s.t.toList == [101, 114, 114, 111, 114]) = false) (hon : onB (resA s.o) xs = true) (hr0 : ((resA s.o).toList == []) = false) :
    Calls Tryz.prog 8 #[.agg #[.slice p1 n1 c1, .slice p2 n2 c2], .agg #[.string s.k, .string s.t, .string s.f, .string s.o, .int .i64 s.n, .string s.b]] w fun e w' => RoIs w.heap.size ⟨xs, ys, [resA s.o], zMs, 0⟩ e w' ∧ Below w.heap.size w w' := by
  have hR1 := row_own9 hO1
  have hR2 := row_ownM hO2
  have HR := Lib.hid (rqb_start w p1 n1 c1 p2 n2 c2 s)
  have HP1 := Lib.hid (fun W (h : Below w.heap.size w W) => hR1.on h)
  have HP2 := Lib.hid (fun W (h : Below w.heap.size w W) => hR2.on h)
  have HO1 := Lib.hid (fun W (h : Below w.heap.size w W) => hO1.on h)
  have HO2 := Lib.hid (fun W (h : Below w.heap.size w W) => hO2.on h)
  have HX := Lib.hid hx
  have HY := Lib.hid hy
  have hmb : mbB xs ys = true := by unfold routB at hyes; simp only [Bool.and_eq_true] at hyes; exact hyes.1.1.1
  obtain ⟨hok, hn5, _⟩ := mb_parts hmb
  have i1 := fun W h1 h2 => spec_beginT kMess xs ys p1 p2 n1 n2 c1 c2 s W hx hy hn1 hn2 hw hw2 hs B0 h1 h2 hyes
  unfold kMess at i1
  obtain ⟨r, hr⟩ : ∃ r, resA s.o = r := ⟨_, rfl⟩
  rw [hr] at i1 hon hr0 ⊢
  have i2 := fun W h => spec_on xs r p1 p2 n1 n2 c1 c2 W hx hok h
  rw [hon] at i2
  have hr1 : r.toList ≠ [] := by simpa using hr0
  have hr2 : r.toList.isEmpty = false := by simpa using hr1
  clear hx hy hw hw2 hR1 hR2 hO1 hO2 hyes hmb hok hn5 hr
  go_enter Tryz.func8, Tryz.ntmps8
  go_wp2_with (first
    | (go_at_call 23; go_fit (i1 _ (HO1.out _ HR.out.2.2.2) (HO2.out _ HR.out.2.2.2)); rintro e w1 ⟨⟨q1, l1, q2, l2, rfl, v1, v2⟩, hb⟩; have HR1 := Lib.hid (HR.out.on hb); have HR1a := Lib.hid (HR1.out.on ((Below.refl _ _).alloc (Nat.le_refl _) (.cells #[.slice q1 n1 l1, .slice q2 n2 l2, .slice none 0 0, .string ⟨#[]⟩, .string ⟨#[]⟩, .string ⟨#[]⟩, .string ⟨#[]⟩, .int .i64 0, .string ⟨#[]⟩, .int .i64 0] 37))); have HE1a := Lib.hid (Arr.fresh w1 37 [.slice q1 n1 l1, .slice q2 n2 l2, .slice none 0 0, .string ⟨#[]⟩, .string ⟨#[]⟩, .string ⟨#[]⟩, .string ⟨#[]⟩, .int .i64 0, .string ⟨#[]⟩, .int .i64 0]); have HV1 := Lib.hid (And.intro (v1.mono HR.out.big) (v2.mono HR.out.big)); have HV1a := Lib.hid (And.intro (HV1.out.1.alloc (.cells #[.slice q1 n1 l1, .slice q2 n2 l2, .slice none 0 0, .string ⟨#[]⟩, .string ⟨#[]⟩, .string ⟨#[]⟩, .string ⟨#[]⟩, .int .i64 0, .string ⟨#[]⟩, .int .i64 0] 37)) (HV1.out.2.alloc (.cells #[.slice q1 n1 l1, .slice q2 n2 l2, .slice none 0 0, .string ⟨#[]⟩, .string ⟨#[]⟩, .string ⟨#[]⟩, .string ⟨#[]⟩, .int .i64 0, .string ⟨#[]⟩, .int .i64 0] 37))); clear hb v1 v2; obtain ⟨⟨m0, m1⟩, _⟩ := arr9_two HR1.out.1; obtain ⟨⟨s0, s1, s2, s3, s4, s5⟩, _⟩ := arr_six0 HR1.out.2.1; obtain ⟨⟨r0, r1, r2, r3, r4, r5, r6, r7, r8, r9⟩, u0, u1, u2, u3, u4, u5, u6, u7, u8, u9⟩ := ten_all HR1.out.2.2.1; have hzA := arr9_lt HR1.out.1; have hzB := arr9_lt HR1.out.2.1; have hzC := arr9_lt HR1.out.2.2.1)
    | (go_at_call 24; go_fit (i2 _ (HP1.out _ HR1a.out.2.2.2)); rintro e w2 ⟨rfl, hb⟩; have HR2 := Lib.hid (HR1a.out.on hb); have HE2 := Lib.hid (arr9_on HE1a.out hb); have HV2 := Lib.hid (And.intro (HV1a.out.1.on hb) (HV1a.out.2.on hb)); clear hb; obtain ⟨⟨m0, m1⟩, _⟩ := arr9_two HR2.out.1; obtain ⟨⟨s0, s1, s2, s3, s4, s5⟩, _⟩ := arr_six0 HR2.out.2.1; obtain ⟨⟨r0, r1, r2, r3, r4, r5, r6, r7, r8, r9⟩, u0, u1, u2, u3, u4, u5, u6, u7, u8, u9⟩ := ten_all HR2.out.2.2.1; have hzA := arr9_lt HR2.out.1; have hzB := arr9_lt HR2.out.2.1; have hzC := arr9_lt HR2.out.2.2.1; obtain ⟨⟨e0, e1, e2, e3, e4, e5, e6, e7, e8, e9⟩, f0, f1, f2, f3, f4, f5, f6, f7, f8, f9⟩ := ten_all HE2.out; have hzE := arr9_lt HE2.out))
  have hb3 : w.heap.size + 3 ≤ w1.heap.size := HR1.out.big
  have HR9 := Lib.hid (RqB.put HR2.out (b := w1.heap.size) (i := 2) (.slice (some ⟨w2.heap.size, 0, none⟩) 1 1) hb3); have HE9 := Lib.hid (HE2.out.put 2 (.slice (some ⟨w2.heap.size, 0, none⟩) 1 1)); have HV9 := Lib.hid (And.intro (own_cell10 (i := 2) (u := .slice (some ⟨w2.heap.size, 0, none⟩) 1 1) HV2.out.1 (own_ne10 HV2.out.1 HE2.out (by decide))) (own_cell10 (i := 2) (u := .slice (some ⟨w2.heap.size, 0, none⟩) 1 1) HV2.out.2 (own_ne10 HV2.out.2 HE2.out (by decide))))
  have hT := str_row10 (put10 (w2.setCell ⟨w1.heap.size, 2, none⟩ (.slice (some ⟨w2.heap.size, 0, none⟩) 1 1)) (w.heap.size + 1 + 1) (.slice q1 n1 l1) (.slice q2 n2 l2) (.slice (some ⟨w2.heap.size, 0, none⟩) 1 1) (.string ⟨#[]⟩) (.string ⟨#[]⟩) (.string ⟨#[]⟩) (.string ⟨#[]⟩) (.int .i64 0) (.string ⟨#[]⟩) (.int .i64 0)) r
  rw [size_put10, World.size_setCell] at hT
  have hz2 := HR2.out.big
  have hA := arr_put10 HR9.out.2.2.1 (.slice q1 n1 l1) (.slice q2 n2 l2) (.slice (some ⟨w2.heap.size, 0, none⟩) 1 1) (.string ⟨#[]⟩) (.string ⟨#[]⟩) (.string ⟨#[]⟩) (.string ⟨#[]⟩) (.int .i64 0) (.string ⟨#[]⟩) (.int .i64 0)
  have hBw := below_put10 HR9.out.2.2.2 (show w.heap.size ≤ w.heap.size + 1 + 1 by omega) (.slice q1 n1 l1) (.slice q2 n2 l2) (.slice (some ⟨w2.heap.size, 0, none⟩) 1 1) (.string ⟨#[]⟩) (.string ⟨#[]⟩) (.string ⟨#[]⟩) (.string ⟨#[]⟩) (.int .i64 0) (.string ⟨#[]⟩) (.int .i64 0)
  have hA2 := arr9_on hA ((Below.refl _ _).alloc (Nat.le_refl _) (.cells #[.string r] 9))
  exact bodyPost_ret (v := .agg #[.slice q1 n1 l1, .slice q2 n2 l2, .slice (some ⟨w2.heap.size, 0, none⟩) 1 1, .string ⟨#[]⟩, .string ⟨#[]⟩, .string ⟨#[]⟩, .string ⟨#[]⟩, .int .i64 0, .string ⟨#[]⟩, .int .i64 0]) (results_cell_row (P := Tryz.prog) Tryz.results8 _ _ (w.heap.size + 1 + 1) 37 _ (0, 0) _ rfl hA2 Tryz.underlying37 rfl (by kernel_rfl)) rfl ⟨⟨q1, l1, q2, l2, _, 1, by unfold roV; rw [HX.out, HY.out]; rfl, by rw [HX.out]; exact ((own_put10 HV9.out.1 (by omega) (.slice q1 n1 l1) (.slice q2 n2 l2) (.slice (some ⟨w2.heap.size, 0, none⟩) 1 1) (.string ⟨#[]⟩) (.string ⟨#[]⟩) (.string ⟨#[]⟩) (.string ⟨#[]⟩) (.int .i64 0) (.string ⟨#[]⟩) (.int .i64 0)).alloc (.cells #[.string r] 9)).mono (by omega), by rw [HY.out]; exact ((own_put10 HV9.out.2 (by omega) (.slice q1 n1 l1) (.slice q2 n2 l2) (.slice (some ⟨w2.heap.size, 0, none⟩) 1 1) (.string ⟨#[]⟩) (.string ⟨#[]⟩) (.string ⟨#[]⟩) (.string ⟨#[]⟩) (.int .i64 0) (.string ⟨#[]⟩) (.int .i64 0)).alloc (.cells #[.string r] 9)).mono (by omega), hT.mono (by omega)⟩, hBw.alloc hBw.size (.cells #[.string r] 9)⟩
set_option maxRecDepth 100000 in
set_option maxHeartbeats 8000000 in
theorem spec_rmessH0 (xs : List SeL) (ys : List MsL) (p1 p2 : Option Addr) (n1 n2 c1 c2 : Nat) (s : MsL) (w : World) (hx : xs.length = n1) (hy : ys.length = n2) (hn1 : n1 ≤ 1048576) (hn2 : n2 ≤ 1048576) (hw : SzS xs) (hw2 : SzM ys) (hs : s.le 1048576) (B0 : Nat) (hO1 : OwnC seC w B0 70 4 (.slice p1 n1 c1) xs) (hO2 : OwnC msC w B0 35 6 (.slice p2 n2 c2) ys) (hyes : routB kMess xs ys s = true) (hte : (s.t.toList == [101, 114, 114, 111, 114]) = false) (hr0 : (resA s.o).size = 0) (h2 : (s.t.toList == [104, 101, 97, 100, 108, 105, 110, 101]) = true) :
    Calls Tryz.prog 8 #[.agg #[.slice p1 n1 c1, .slice p2 n2 c2], .agg #[.string s.k, .string s.t, .string s.f, .string s.o, .int .i64 s.n, .string s.b]] w fun e w' => RoIs w.heap.size ⟨xs, ys, bestR xs, zMs, 0⟩ e w' ∧ Below w.heap.size w w' := by
  have hR1 := row_own9 hO1
  have hR2 := row_ownM hO2
  have HR := Lib.hid (rqb_start w p1 n1 c1 p2 n2 c2 s)
  have HP1 := Lib.hid (fun W (h : Below w.heap.size w W) => hR1.on h)
  have HP2 := Lib.hid (fun W (h : Below w.heap.size w W) => hR2.on h)
  have HO1 := Lib.hid (fun W (h : Below w.heap.size w W) => hO1.on h)
  have HO2 := Lib.hid (fun W (h : Below w.heap.size w W) => hO2.on h)
  have HX := Lib.hid hx
  have HY := Lib.hid hy
  have hmb : mbB xs ys = true := by unfold routB at hyes; simp only [Bool.and_eq_true] at hyes; exact hyes.1.1.1
  obtain ⟨hok, hn5, _⟩ := mb_parts hmb
  have i1 := fun W h1 h2 => spec_beginT kMess xs ys p1 p2 n1 n2 c1 c2 s W hx hy hn1 hn2 hw hw2 hs B0 h1 h2 hyes
  unfold kMess at i1
  obtain ⟨r, hr⟩ : ∃ r, resA s.o = r := ⟨_, rfl⟩
  rw [hr] at i1 hr0
  obtain rfl : r = ⟨#[]⟩ := ba_ext (List.eq_nil_of_length_eq_zero (by rw [ByteArray.toList_eq, size_data]; exact hr0))
  have i3 := fun W h => spec_l09best xs p1 c1 W hok h
  rw [hx] at i3
  obtain ⟨L, hL⟩ : ∃ L, bestR xs = L := ⟨_, rfl⟩
  unfold StIs at i3
  rw [hL] at i3
  rw [hL]
  have HL := Lib.hid hL
  clear hx hy hw hw2 hR1 hR2 hO1 hO2 hyes hmb hok hn5 hr hs hL
  go_enter Tryz.func8, Tryz.ntmps8
  go_wp2_with (first
    | (go_at_call 25; have _ := HR1a; go_fit (i3 _ (HP1.out _ HR1a.out.2.2.2)); rintro e w3 ⟨⟨q3, l3, rfl, v3⟩, hb⟩; have HR3 := Lib.hid (HR1a.out.on hb); have HE3 := Lib.hid (arr9_on HE1a.out hb); have HV3 := Lib.hid (And.intro (HV1a.out.1.on hb) (HV1a.out.2.on hb)); have HT3 := Lib.hid (OwnC.mono v3 HR1a.out.big); clear v3; clear hb; obtain ⟨⟨m0, m1⟩, _⟩ := arr9_two HR3.out.1; obtain ⟨⟨s0, s1, s2, s3, s4, s5⟩, _⟩ := arr_six0 HR3.out.2.1; obtain ⟨⟨r0, r1, r2, r3, r4, r5, r6, r7, r8, r9⟩, u0, u1, u2, u3, u4, u5, u6, u7, u8, u9⟩ := ten_all HR3.out.2.2.1; have hzA := arr9_lt HR3.out.1; have hzB := arr9_lt HR3.out.2.1; have hzC := arr9_lt HR3.out.2.2.1; obtain ⟨⟨e0, e1, e2, e3, e4, e5, e6, e7, e8, e9⟩, f0, f1, f2, f3, f4, f5, f6, f7, f8, f9⟩ := ten_all HE3.out; have hzE := arr9_lt HE3.out; have hb3 : w.heap.size + 3 ≤ w1.heap.size := HR1.out.big; have HR4 := Lib.hid (RqB.put HR3.out (b := w1.heap.size) (i := 2) (.slice q3 L.length l3) hb3); have HE4 := Lib.hid (HE3.out.put 2 (.slice q3 L.length l3)); have HV4 := Lib.hid (And.intro (own_cell10 (i := 2) (u := .slice q3 L.length l3) HV3.out.1 (own_ne10 HV3.out.1 HE3.out (by decide))) (own_cell10 (i := 2) (u := .slice q3 L.length l3) HV3.out.2 (own_ne10 HV3.out.2 HE3.out (by decide)))); have HT4 := Lib.hid (own_cell10 (i := 2) (u := .slice q3 L.length l3) HT3.out (own_ne10 HT3.out HE3.out (by decide))))
    | (go_at_call 23; go_fit (i1 _ (HO1.out _ HR.out.2.2.2) (HO2.out _ HR.out.2.2.2)); rintro e w1 ⟨⟨q1, l1, q2, l2, rfl, v1, v2⟩, hb⟩; have HR1 := Lib.hid (HR.out.on hb); have HR1a := Lib.hid (HR1.out.on ((Below.refl _ _).alloc (Nat.le_refl _) (.cells #[.slice q1 n1 l1, .slice q2 n2 l2, .slice none 0 0, .string ⟨#[]⟩, .string ⟨#[]⟩, .string ⟨#[]⟩, .string ⟨#[]⟩, .int .i64 0, .string ⟨#[]⟩, .int .i64 0] 37))); have HE1a := Lib.hid (Arr.fresh w1 37 [.slice q1 n1 l1, .slice q2 n2 l2, .slice none 0 0, .string ⟨#[]⟩, .string ⟨#[]⟩, .string ⟨#[]⟩, .string ⟨#[]⟩, .int .i64 0, .string ⟨#[]⟩, .int .i64 0]); have HV1 := Lib.hid (And.intro (v1.mono HR.out.big) (v2.mono HR.out.big)); have HV1a := Lib.hid (And.intro (HV1.out.1.alloc (.cells #[.slice q1 n1 l1, .slice q2 n2 l2, .slice none 0 0, .string ⟨#[]⟩, .string ⟨#[]⟩, .string ⟨#[]⟩, .string ⟨#[]⟩, .int .i64 0, .string ⟨#[]⟩, .int .i64 0] 37)) (HV1.out.2.alloc (.cells #[.slice q1 n1 l1, .slice q2 n2 l2, .slice none 0 0, .string ⟨#[]⟩, .string ⟨#[]⟩, .string ⟨#[]⟩, .string ⟨#[]⟩, .int .i64 0, .string ⟨#[]⟩, .int .i64 0] 37))); clear hb v1 v2; obtain ⟨⟨m0, m1⟩, _⟩ := arr9_two HR1.out.1; obtain ⟨⟨s0, s1, s2, s3, s4, s5⟩, _⟩ := arr_six0 HR1.out.2.1; obtain ⟨⟨r0, r1, r2, r3, r4, r5, r6, r7, r8, r9⟩, u0, u1, u2, u3, u4, u5, u6, u7, u8, u9⟩ := ten_all HR1.out.2.2.1; have hzA := arr9_lt HR1.out.1; have hzB := arr9_lt HR1.out.2.1; have hzC := arr9_lt HR1.out.2.2.1))
  have hb3 : w.heap.size + 3 ≤ w1.heap.size := HR1.out.big
  have hA := arr_put10 HR4.out.2.2.1 (.slice q1 n1 l1) (.slice q2 n2 l2) (.slice q3 L.length l3) (.string ⟨#[]⟩) (.string ⟨#[]⟩) (.string ⟨#[]⟩) (.string ⟨#[]⟩) (.int .i64 0) (.string ⟨#[]⟩) (.int .i64 0)
  have hBw := below_put10 HR4.out.2.2.2 (show w.heap.size ≤ w.heap.size + 1 + 1 by omega) (.slice q1 n1 l1) (.slice q2 n2 l2) (.slice q3 L.length l3) (.string ⟨#[]⟩) (.string ⟨#[]⟩) (.string ⟨#[]⟩) (.string ⟨#[]⟩) (.int .i64 0) (.string ⟨#[]⟩) (.int .i64 0)
  exact bodyPost_ret (v := .agg #[.slice q1 n1 l1, .slice q2 n2 l2, .slice q3 L.length l3, .string ⟨#[]⟩, .string ⟨#[]⟩, .string ⟨#[]⟩, .string ⟨#[]⟩, .int .i64 0, .string ⟨#[]⟩, .int .i64 0]) (results_cell_row (P := Tryz.prog) Tryz.results8 _ _ (w.heap.size + 1 + 1) 37 _ (0, 0) _ rfl hA Tryz.underlying37 rfl (by kernel_rfl)) rfl ⟨⟨q1, l1, q2, l2, q3, l3, by unfold roV; rw [HX.out, HY.out]; rfl, by rw [HX.out]; exact (own_put10 HV4.out.1 (by omega) (.slice q1 n1 l1) (.slice q2 n2 l2) (.slice q3 L.length l3) (.string ⟨#[]⟩) (.string ⟨#[]⟩) (.string ⟨#[]⟩) (.string ⟨#[]⟩) (.int .i64 0) (.string ⟨#[]⟩) (.int .i64 0)).mono (by omega), by rw [HY.out]; exact (own_put10 HV4.out.2 (by omega) (.slice q1 n1 l1) (.slice q2 n2 l2) (.slice q3 L.length l3) (.string ⟨#[]⟩) (.string ⟨#[]⟩) (.string ⟨#[]⟩) (.string ⟨#[]⟩) (.int .i64 0) (.string ⟨#[]⟩) (.int .i64 0)).mono (by omega), (own_put10 HT4.out (by omega) (.slice q1 n1 l1) (.slice q2 n2 l2) (.slice q3 L.length l3) (.string ⟨#[]⟩) (.string ⟨#[]⟩) (.string ⟨#[]⟩) (.string ⟨#[]⟩) (.int .i64 0) (.string ⟨#[]⟩) (.int .i64 0)).mono (by omega)⟩, hBw⟩
set_option maxRecDepth 100000 in
set_option maxHeartbeats 8000000 in
theorem spec_rmessG0 (xs : List SeL) (ys : List MsL) (p1 p2 : Option Addr) (n1 n2 c1 c2 : Nat) (s : MsL) (w : World) (hx : xs.length = n1) (hy : ys.length = n2) (hn1 : n1 ≤ 1048576) (hn2 : n2 ≤ 1048576) (hw : SzS xs) (hw2 : SzM ys) (hs : s.le 1048576) (B0 : Nat) (hO1 : OwnC seC w B0 70 4 (.slice p1 n1 c1) xs) (hO2 : OwnC msC w B0 35 6 (.slice p2 n2 c2) ys) (hyes : routB kMess xs ys s = true) (hte : (s.t.toList == [101, 114, 114, 111, 114]) = false) (hr0 : (resA s.o).size = 0) (h2 : (s.t.toList == [104, 101, 97, 100, 108, 105, 110, 101]) = false) (h3 : (s.t.toList == [103, 114, 111, 117, 112, 99, 104, 97, 116]) = true) :
    Calls Tryz.prog 8 #[.agg #[.slice p1 n1 c1, .slice p2 n2 c2], .agg #[.string s.k, .string s.t, .string s.f, .string s.o, .int .i64 s.n, .string s.b]] w fun e w' => RoIs w.heap.size ⟨xs, ys, [], fltM s unavS, 0⟩ e w' ∧ Below w.heap.size w w' := by
  have hR1 := row_own9 hO1
  have hR2 := row_ownM hO2
  have HR := Lib.hid (rqb_start w p1 n1 c1 p2 n2 c2 s)
  have HP1 := Lib.hid (fun W (h : Below w.heap.size w W) => hR1.on h)
  have HP2 := Lib.hid (fun W (h : Below w.heap.size w W) => hR2.on h)
  have HO1 := Lib.hid (fun W (h : Below w.heap.size w W) => hO1.on h)
  have HO2 := Lib.hid (fun W (h : Below w.heap.size w W) => hO2.on h)
  have HX := Lib.hid hx
  have HY := Lib.hid hy
  have hmb : mbB xs ys = true := by unfold routB at hyes; simp only [Bool.and_eq_true] at hyes; exact hyes.1.1.1
  obtain ⟨hok, hn5, _⟩ := mb_parts hmb
  have i1 := fun W h1 h2 => spec_beginT kMess xs ys p1 p2 n1 n2 c1 c2 s W hx hy hn1 hn2 hw hw2 hs B0 h1 h2 hyes
  unfold kMess at i1
  obtain ⟨r, hr⟩ : ∃ r, resA s.o = r := ⟨_, rfl⟩
  rw [hr] at i1 hr0
  obtain rfl : r = ⟨#[]⟩ := ba_ext (List.eq_nil_of_length_eq_zero (by rw [ByteArray.toList_eq, size_data]; exact hr0))
  have i4 := fun W => spec_fault s.k s.t s.f s.o s.n s.b unavS W (by have := hs.2.1; unfold maxLen; omega) (by have := hs.2.2.1; omega) (by have := hs.2.2.2.1; omega) (by have := hs.2.2.2.2; unfold maxLen; omega) (by rw [show unavS.size = _ from rfl]; first | done | (unfold maxLen; decide))
  simp only [fltV_M] at i4
  obtain ⟨Y, hY⟩ : ∃ Y, fltM s unavS = Y := ⟨_, rfl⟩
  rw [hY] at i4
  unfold msV unavS at i4
  rw [hY]
  clear hx hy hw hw2 hR1 hR2 hO1 hO2 hyes hmb hok hn5 hr hs hY
  go_enter Tryz.func8, Tryz.ntmps8
  go_wp2_with (first
    | (go_at_call 26; have _ := HR1a; go_fit (i4 _); rintro e w5 ⟨rfl, hb⟩; have HR5 := Lib.hid (HR1a.out.on hb); have HE5 := Lib.hid (arr9_on HE1a.out hb); have HV5 := Lib.hid (And.intro (HV1a.out.1.on hb) (HV1a.out.2.on hb)); clear hb; obtain ⟨⟨m0, m1⟩, _⟩ := arr9_two HR5.out.1; obtain ⟨⟨s0, s1, s2, s3, s4, s5⟩, _⟩ := arr_six0 HR5.out.2.1; obtain ⟨⟨r0, r1, r2, r3, r4, r5, r6, r7, r8, r9⟩, u0, u1, u2, u3, u4, u5, u6, u7, u8, u9⟩ := ten_all HR5.out.2.2.1; have hzA := arr9_lt HR5.out.1; have hzB := arr9_lt HR5.out.2.1; have hzC := arr9_lt HR5.out.2.2.1; obtain ⟨⟨e0, e1, e2, e3, e4, e5, e6, e7, e8, e9⟩, f0, f1, f2, f3, f4, f5, f6, f7, f8, f9⟩ := ten_all HE5.out; have hzE := arr9_lt HE5.out)
    | (go_at_call 23; go_fit (i1 _ (HO1.out _ HR.out.2.2.2) (HO2.out _ HR.out.2.2.2)); rintro e w1 ⟨⟨q1, l1, q2, l2, rfl, v1, v2⟩, hb⟩; have HR1 := Lib.hid (HR.out.on hb); have HR1a := Lib.hid (HR1.out.on ((Below.refl _ _).alloc (Nat.le_refl _) (.cells #[.slice q1 n1 l1, .slice q2 n2 l2, .slice none 0 0, .string ⟨#[]⟩, .string ⟨#[]⟩, .string ⟨#[]⟩, .string ⟨#[]⟩, .int .i64 0, .string ⟨#[]⟩, .int .i64 0] 37))); have HE1a := Lib.hid (Arr.fresh w1 37 [.slice q1 n1 l1, .slice q2 n2 l2, .slice none 0 0, .string ⟨#[]⟩, .string ⟨#[]⟩, .string ⟨#[]⟩, .string ⟨#[]⟩, .int .i64 0, .string ⟨#[]⟩, .int .i64 0]); have HV1 := Lib.hid (And.intro (v1.mono HR.out.big) (v2.mono HR.out.big)); have HV1a := Lib.hid (And.intro (HV1.out.1.alloc (.cells #[.slice q1 n1 l1, .slice q2 n2 l2, .slice none 0 0, .string ⟨#[]⟩, .string ⟨#[]⟩, .string ⟨#[]⟩, .string ⟨#[]⟩, .int .i64 0, .string ⟨#[]⟩, .int .i64 0] 37)) (HV1.out.2.alloc (.cells #[.slice q1 n1 l1, .slice q2 n2 l2, .slice none 0 0, .string ⟨#[]⟩, .string ⟨#[]⟩, .string ⟨#[]⟩, .string ⟨#[]⟩, .int .i64 0, .string ⟨#[]⟩, .int .i64 0] 37))); clear hb v1 v2; obtain ⟨⟨m0, m1⟩, _⟩ := arr9_two HR1.out.1; obtain ⟨⟨s0, s1, s2, s3, s4, s5⟩, _⟩ := arr_six0 HR1.out.2.1; obtain ⟨⟨r0, r1, r2, r3, r4, r5, r6, r7, r8, r9⟩, u0, u1, u2, u3, u4, u5, u6, u7, u8, u9⟩ := ten_all HR1.out.2.2.1; have hzA := arr9_lt HR1.out.1; have hzB := arr9_lt HR1.out.2.1; have hzC := arr9_lt HR1.out.2.2.1))
  have hb3 : w.heap.size + 3 ≤ w1.heap.size := HR1.out.big
  have HR9 := Lib.hid (RqB.put6b HR5.out (b := w1.heap.size) hb3 (.string Y.k) (.string Y.t) (.string Y.f) (.string Y.o) (.int .i64 Y.n) (.string Y.b)); have HE9 := Lib.hid ((((((HE5.out.put 3 (.string Y.k)).put 4 (.string Y.t)).put 5 (.string Y.f)).put 6 (.string Y.o)).put 7 (.int .i64 Y.n)).put 8 (.string Y.b)); have HV9 := Lib.hid (And.intro (own_put6b HV5.out.1 (own_ne10 HV5.out.1 HE5.out (by decide)) (.string Y.k) (.string Y.t) (.string Y.f) (.string Y.o) (.int .i64 Y.n) (.string Y.b)) (own_put6b HV5.out.2 (own_ne10 HV5.out.2 HE5.out (by decide)) (.string Y.k) (.string Y.t) (.string Y.f) (.string Y.o) (.int .i64 Y.n) (.string Y.b)))
  have hA := arr_put10 HR9.out.2.2.1 (.slice q1 n1 l1) (.slice q2 n2 l2) (.slice none 0 0) (.string Y.k) (.string Y.t) (.string Y.f) (.string Y.o) (.int .i64 Y.n) (.string Y.b) (.int .i64 0)
  have hBw := below_put10 HR9.out.2.2.2 (show w.heap.size ≤ w.heap.size + 1 + 1 by omega) (.slice q1 n1 l1) (.slice q2 n2 l2) (.slice none 0 0) (.string Y.k) (.string Y.t) (.string Y.f) (.string Y.o) (.int .i64 Y.n) (.string Y.b) (.int .i64 0)
  exact bodyPost_ret (v := .agg #[.slice q1 n1 l1, .slice q2 n2 l2, .slice none 0 0, .string Y.k, .string Y.t, .string Y.f, .string Y.o, .int .i64 Y.n, .string Y.b, .int .i64 0]) (results_cell_row (P := Tryz.prog) Tryz.results8 _ _ (w.heap.size + 1 + 1) 37 _ (0, 0) _ rfl hA Tryz.underlying37 rfl (by kernel_rfl)) rfl ⟨⟨q1, l1, q2, l2, none, 0, by unfold roV; rw [HX.out, HY.out]; rfl, by rw [HX.out]; exact (own_put10 HV9.out.1 (by omega) (.slice q1 n1 l1) (.slice q2 n2 l2) (.slice none 0 0) (.string Y.k) (.string Y.t) (.string Y.f) (.string Y.o) (.int .i64 Y.n) (.string Y.b) (.int .i64 0)).mono (by omega), by rw [HY.out]; exact (own_put10 HV9.out.2 (by omega) (.slice q1 n1 l1) (.slice q2 n2 l2) (.slice none 0 0) (.string Y.k) (.string Y.t) (.string Y.f) (.string Y.o) (.int .i64 Y.n) (.string Y.b) (.int .i64 0)).mono (by omega), ownC_nil _ _ _ _ _⟩, hBw⟩
set_option maxRecDepth 100000 in
set_option maxHeartbeats 8000000 in
theorem spec_rmessB0 (xs : List SeL) (ys : List MsL) (p1 p2 : Option Addr) (n1 n2 c1 c2 : Nat) (s : MsL) (w : World) (hx : xs.length = n1) (hy : ys.length = n2) (hn1 : n1 ≤ 1048576) (hn2 : n2 ≤ 1048576) (hw : SzS xs) (hw2 : SzM ys) (hs : s.le 1048576) (B0 : Nat) (hO1 : OwnC seC w B0 70 4 (.slice p1 n1 c1) xs) (hO2 : OwnC msC w B0 35 6 (.slice p2 n2 c2) ys) (hyes : routB kMess xs ys s = true) (hte : (s.t.toList == [101, 114, 114, 111, 114]) = false) (hr0 : (resA s.o).size = 0) (h2 : (s.t.toList == [104, 101, 97, 100, 108, 105, 110, 101]) = false) (h3 : (s.t.toList == [103, 114, 111, 117, 112, 99, 104, 97, 116]) = false) (h4 : (bestR xs).length ≠ 0) :
    Calls Tryz.prog 8 #[.agg #[.slice p1 n1 c1, .slice p2 n2 c2], .agg #[.string s.k, .string s.t, .string s.f, .string s.o, .int .i64 s.n, .string s.b]] w fun e w' => RoIs w.heap.size ⟨xs, ys, bestR xs, zMs, 0⟩ e w' ∧ Below w.heap.size w w' := by
  have hR1 := row_own9 hO1
  have hR2 := row_ownM hO2
  have HR := Lib.hid (rqb_start w p1 n1 c1 p2 n2 c2 s)
  have HP1 := Lib.hid (fun W (h : Below w.heap.size w W) => hR1.on h)
  have HP2 := Lib.hid (fun W (h : Below w.heap.size w W) => hR2.on h)
  have HO1 := Lib.hid (fun W (h : Below w.heap.size w W) => hO1.on h)
  have HO2 := Lib.hid (fun W (h : Below w.heap.size w W) => hO2.on h)
  have HX := Lib.hid hx
  have HY := Lib.hid hy
  have hmb : mbB xs ys = true := by unfold routB at hyes; simp only [Bool.and_eq_true] at hyes; exact hyes.1.1.1
  obtain ⟨hok, hn5, _⟩ := mb_parts hmb
  have i1 := fun W h1 h2 => spec_beginT kMess xs ys p1 p2 n1 n2 c1 c2 s W hx hy hn1 hn2 hw hw2 hs B0 h1 h2 hyes
  unfold kMess at i1
  obtain ⟨r, hr⟩ : ∃ r, resA s.o = r := ⟨_, rfl⟩
  rw [hr] at i1 hr0
  obtain rfl : r = ⟨#[]⟩ := ba_ext (List.eq_nil_of_length_eq_zero (by rw [ByteArray.toList_eq, size_data]; exact hr0))
  have i3 := fun W h => spec_l09best xs p1 c1 W hok h
  rw [hx] at i3
  obtain ⟨L, hL⟩ : ∃ L, bestR xs = L := ⟨_, rfl⟩
  unfold StIs at i3
  rw [hL] at i3
  rw [hL] at h4
  have H4 := Lib.hid h4
  have h5 : (0 : Int) < (L.length : Int) := by omega
  rw [hL]
  have HL := Lib.hid hL
  clear hx hy hw hw2 hR1 hR2 hO1 hO2 hyes hmb hok hn5 hr hs hL
  go_enter Tryz.func8, Tryz.ntmps8
  go_wp2_with (first
    | (go_at_call 25; have _ := HR1a; go_fit (i3 _ (HP1.out _ HR1a.out.2.2.2)); rintro e w3 ⟨⟨q3, l3, rfl, v3⟩, hb⟩; have HR3 := Lib.hid (HR1a.out.on hb); have HE3 := Lib.hid (arr9_on HE1a.out hb); have HV3 := Lib.hid (And.intro (HV1a.out.1.on hb) (HV1a.out.2.on hb)); have HT3 := Lib.hid (OwnC.mono v3 HR1a.out.big); clear v3; clear hb; obtain ⟨⟨m0, m1⟩, _⟩ := arr9_two HR3.out.1; obtain ⟨⟨s0, s1, s2, s3, s4, s5⟩, _⟩ := arr_six0 HR3.out.2.1; obtain ⟨⟨r0, r1, r2, r3, r4, r5, r6, r7, r8, r9⟩, u0, u1, u2, u3, u4, u5, u6, u7, u8, u9⟩ := ten_all HR3.out.2.2.1; have hzA := arr9_lt HR3.out.1; have hzB := arr9_lt HR3.out.2.1; have hzC := arr9_lt HR3.out.2.2.1; obtain ⟨⟨e0, e1, e2, e3, e4, e5, e6, e7, e8, e9⟩, f0, f1, f2, f3, f4, f5, f6, f7, f8, f9⟩ := ten_all HE3.out; have hzE := arr9_lt HE3.out; have hb3 : w.heap.size + 3 ≤ w1.heap.size := HR1.out.big; have HR4 := Lib.hid (RqB.put HR3.out (b := w1.heap.size) (i := 2) (.slice q3 L.length l3) hb3); have HE4 := Lib.hid (HE3.out.put 2 (.slice q3 L.length l3)); have HV4 := Lib.hid (And.intro (own_cell10 (i := 2) (u := .slice q3 L.length l3) HV3.out.1 (own_ne10 HV3.out.1 HE3.out (by decide))) (own_cell10 (i := 2) (u := .slice q3 L.length l3) HV3.out.2 (own_ne10 HV3.out.2 HE3.out (by decide)))); have HT4 := Lib.hid (own_cell10 (i := 2) (u := .slice q3 L.length l3) HT3.out (own_ne10 HT3.out HE3.out (by decide))))
    | (go_at_call 23; go_fit (i1 _ (HO1.out _ HR.out.2.2.2) (HO2.out _ HR.out.2.2.2)); rintro e w1 ⟨⟨q1, l1, q2, l2, rfl, v1, v2⟩, hb⟩; have HR1 := Lib.hid (HR.out.on hb); have HR1a := Lib.hid (HR1.out.on ((Below.refl _ _).alloc (Nat.le_refl _) (.cells #[.slice q1 n1 l1, .slice q2 n2 l2, .slice none 0 0, .string ⟨#[]⟩, .string ⟨#[]⟩, .string ⟨#[]⟩, .string ⟨#[]⟩, .int .i64 0, .string ⟨#[]⟩, .int .i64 0] 37))); have HE1a := Lib.hid (Arr.fresh w1 37 [.slice q1 n1 l1, .slice q2 n2 l2, .slice none 0 0, .string ⟨#[]⟩, .string ⟨#[]⟩, .string ⟨#[]⟩, .string ⟨#[]⟩, .int .i64 0, .string ⟨#[]⟩, .int .i64 0]); have HV1 := Lib.hid (And.intro (v1.mono HR.out.big) (v2.mono HR.out.big)); have HV1a := Lib.hid (And.intro (HV1.out.1.alloc (.cells #[.slice q1 n1 l1, .slice q2 n2 l2, .slice none 0 0, .string ⟨#[]⟩, .string ⟨#[]⟩, .string ⟨#[]⟩, .string ⟨#[]⟩, .int .i64 0, .string ⟨#[]⟩, .int .i64 0] 37)) (HV1.out.2.alloc (.cells #[.slice q1 n1 l1, .slice q2 n2 l2, .slice none 0 0, .string ⟨#[]⟩, .string ⟨#[]⟩, .string ⟨#[]⟩, .string ⟨#[]⟩, .int .i64 0, .string ⟨#[]⟩, .int .i64 0] 37))); clear hb v1 v2; obtain ⟨⟨m0, m1⟩, _⟩ := arr9_two HR1.out.1; obtain ⟨⟨s0, s1, s2, s3, s4, s5⟩, _⟩ := arr_six0 HR1.out.2.1; obtain ⟨⟨r0, r1, r2, r3, r4, r5, r6, r7, r8, r9⟩, u0, u1, u2, u3, u4, u5, u6, u7, u8, u9⟩ := ten_all HR1.out.2.2.1; have hzA := arr9_lt HR1.out.1; have hzB := arr9_lt HR1.out.2.1; have hzC := arr9_lt HR1.out.2.2.1))
  have hb3 : w.heap.size + 3 ≤ w1.heap.size := HR1.out.big
  have hA := arr_put10 HR4.out.2.2.1 (.slice q1 n1 l1) (.slice q2 n2 l2) (.slice q3 L.length l3) (.string ⟨#[]⟩) (.string ⟨#[]⟩) (.string ⟨#[]⟩) (.string ⟨#[]⟩) (.int .i64 0) (.string ⟨#[]⟩) (.int .i64 0)
  have hBw := below_put10 HR4.out.2.2.2 (show w.heap.size ≤ w.heap.size + 1 + 1 by omega) (.slice q1 n1 l1) (.slice q2 n2 l2) (.slice q3 L.length l3) (.string ⟨#[]⟩) (.string ⟨#[]⟩) (.string ⟨#[]⟩) (.string ⟨#[]⟩) (.int .i64 0) (.string ⟨#[]⟩) (.int .i64 0)
  exact bodyPost_ret (v := .agg #[.slice q1 n1 l1, .slice q2 n2 l2, .slice q3 L.length l3, .string ⟨#[]⟩, .string ⟨#[]⟩, .string ⟨#[]⟩, .string ⟨#[]⟩, .int .i64 0, .string ⟨#[]⟩, .int .i64 0]) (results_cell_row (P := Tryz.prog) Tryz.results8 _ _ (w.heap.size + 1 + 1) 37 _ (0, 0) _ rfl hA Tryz.underlying37 rfl (by kernel_rfl)) rfl ⟨⟨q1, l1, q2, l2, q3, l3, by unfold roV; rw [HX.out, HY.out]; rfl, by rw [HX.out]; exact (own_put10 HV4.out.1 (by omega) (.slice q1 n1 l1) (.slice q2 n2 l2) (.slice q3 L.length l3) (.string ⟨#[]⟩) (.string ⟨#[]⟩) (.string ⟨#[]⟩) (.string ⟨#[]⟩) (.int .i64 0) (.string ⟨#[]⟩) (.int .i64 0)).mono (by omega), by rw [HY.out]; exact (own_put10 HV4.out.2 (by omega) (.slice q1 n1 l1) (.slice q2 n2 l2) (.slice q3 L.length l3) (.string ⟨#[]⟩) (.string ⟨#[]⟩) (.string ⟨#[]⟩) (.string ⟨#[]⟩) (.int .i64 0) (.string ⟨#[]⟩) (.int .i64 0)).mono (by omega), (own_put10 HT4.out (by omega) (.slice q1 n1 l1) (.slice q2 n2 l2) (.slice q3 L.length l3) (.string ⟨#[]⟩) (.string ⟨#[]⟩) (.string ⟨#[]⟩) (.string ⟨#[]⟩) (.int .i64 0) (.string ⟨#[]⟩) (.int .i64 0)).mono (by omega)⟩, hBw⟩
set_option maxRecDepth 100000 in
set_option maxHeartbeats 8000000 in
theorem spec_rmessF0 (xs : List SeL) (ys : List MsL) (p1 p2 : Option Addr) (n1 n2 c1 c2 : Nat) (s : MsL) (w : World) (hx : xs.length = n1) (hy : ys.length = n2) (hn1 : n1 ≤ 1048576) (hn2 : n2 ≤ 1048576) (hw : SzS xs) (hw2 : SzM ys) (hs : s.le 1048576) (B0 : Nat) (hO1 : OwnC seC w B0 70 4 (.slice p1 n1 c1) xs) (hO2 : OwnC msC w B0 35 6 (.slice p2 n2 c2) ys) (hyes : routB kMess xs ys s = true) (hte : (s.t.toList == [101, 114, 114, 111, 114]) = false) (hr0 : (resA s.o).size = 0) (h2 : (s.t.toList == [104, 101, 97, 100, 108, 105, 110, 101]) = false) (h3 : (s.t.toList == [103, 114, 111, 117, 112, 99, 104, 97, 116]) = false) (h4 : (bestR xs).length = 0) (h6 : 5 ≤ n2) :
    Calls Tryz.prog 8 #[.agg #[.slice p1 n1 c1, .slice p2 n2 c2], .agg #[.string s.k, .string s.t, .string s.f, .string s.o, .int .i64 s.n, .string s.b]] w fun e w' => RoIs w.heap.size ⟨xs, ys, bestR xs, fltM s fullS, 0⟩ e w' ∧ Below w.heap.size w w' := by
  have hR1 := row_own9 hO1
  have hR2 := row_ownM hO2
  have HR := Lib.hid (rqb_start w p1 n1 c1 p2 n2 c2 s)
  have HP1 := Lib.hid (fun W (h : Below w.heap.size w W) => hR1.on h)
  have HP2 := Lib.hid (fun W (h : Below w.heap.size w W) => hR2.on h)
  have HO1 := Lib.hid (fun W (h : Below w.heap.size w W) => hO1.on h)
  have HO2 := Lib.hid (fun W (h : Below w.heap.size w W) => hO2.on h)
  have HX := Lib.hid hx
  have HY := Lib.hid hy
  have hmb : mbB xs ys = true := by unfold routB at hyes; simp only [Bool.and_eq_true] at hyes; exact hyes.1.1.1
  obtain ⟨hok, hn5, _⟩ := mb_parts hmb
  have i1 := fun W h1 h2 => spec_beginT kMess xs ys p1 p2 n1 n2 c1 c2 s W hx hy hn1 hn2 hw hw2 hs B0 h1 h2 hyes
  unfold kMess at i1
  obtain ⟨r, hr⟩ : ∃ r, resA s.o = r := ⟨_, rfl⟩
  rw [hr] at i1 hr0
  obtain rfl : r = ⟨#[]⟩ := ba_ext (List.eq_nil_of_length_eq_zero (by rw [ByteArray.toList_eq, size_data]; exact hr0))
  have i3 := fun W h => spec_l09best xs p1 c1 W hok h
  rw [hx] at i3
  obtain ⟨L, hL⟩ : ∃ L, bestR xs = L := ⟨_, rfl⟩
  unfold StIs at i3
  rw [hL] at i3
  have i4 := fun W => spec_fault s.k s.t s.f s.o s.n s.b fullS W (by have := hs.2.1; unfold maxLen; omega) (by have := hs.2.2.1; omega) (by have := hs.2.2.2.1; omega) (by have := hs.2.2.2.2; unfold maxLen; omega) (by rw [show fullS.size = _ from rfl]; first | done | (unfold maxLen; decide))
  simp only [fltV_M] at i4
  obtain ⟨Y, hY⟩ : ∃ Y, fltM s fullS = Y := ⟨_, rfl⟩
  rw [hY] at i4
  unfold msV fullS at i4
  rw [hL] at h4
  rw [h4] at i3
  have H4 := Lib.hid h4
  clear h4
  have h7 : (5 : Int) ≤ (n2 : Int) := by omega
  rw [hL]
  rw [hY]
  have HL := Lib.hid hL
  clear hx hy hw hw2 hR1 hR2 hO1 hO2 hyes hmb hok hn5 hr hs hL hY
  go_enter Tryz.func8, Tryz.ntmps8
  go_wp2_with (first
    | (go_at_call 26; have _ := HR4; go_fit (i4 _); rintro e w5 ⟨rfl, hb⟩; have HR5 := Lib.hid (HR4.out.on hb); have HE5 := Lib.hid (arr9_on HE4.out hb); have HV5 := Lib.hid (And.intro (HV4.out.1.on hb) (HV4.out.2.on hb)); have HT5 := Lib.hid (HT4.out.on hb); clear hb; obtain ⟨⟨m0, m1⟩, _⟩ := arr9_two HR5.out.1; obtain ⟨⟨s0, s1, s2, s3, s4, s5⟩, _⟩ := arr_six0 HR5.out.2.1; obtain ⟨⟨r0, r1, r2, r3, r4, r5, r6, r7, r8, r9⟩, u0, u1, u2, u3, u4, u5, u6, u7, u8, u9⟩ := ten_all HR5.out.2.2.1; have hzA := arr9_lt HR5.out.1; have hzB := arr9_lt HR5.out.2.1; have hzC := arr9_lt HR5.out.2.2.1; obtain ⟨⟨e0, e1, e2, e3, e4, e5, e6, e7, e8, e9⟩, f0, f1, f2, f3, f4, f5, f6, f7, f8, f9⟩ := ten_all HE5.out; have hzE := arr9_lt HE5.out)
    | (go_at_call 25; have _ := HR1a; go_fit (i3 _ (HP1.out _ HR1a.out.2.2.2)); rintro e w3 ⟨⟨q3, l3, rfl, v3⟩, hb⟩; have HR3 := Lib.hid (HR1a.out.on hb); have HE3 := Lib.hid (arr9_on HE1a.out hb); have HV3 := Lib.hid (And.intro (HV1a.out.1.on hb) (HV1a.out.2.on hb)); have HT3 := Lib.hid (OwnC.mono v3 HR1a.out.big); clear v3; clear hb; obtain ⟨⟨m0, m1⟩, _⟩ := arr9_two HR3.out.1; obtain ⟨⟨s0, s1, s2, s3, s4, s5⟩, _⟩ := arr_six0 HR3.out.2.1; obtain ⟨⟨r0, r1, r2, r3, r4, r5, r6, r7, r8, r9⟩, u0, u1, u2, u3, u4, u5, u6, u7, u8, u9⟩ := ten_all HR3.out.2.2.1; have hzA := arr9_lt HR3.out.1; have hzB := arr9_lt HR3.out.2.1; have hzC := arr9_lt HR3.out.2.2.1; obtain ⟨⟨e0, e1, e2, e3, e4, e5, e6, e7, e8, e9⟩, f0, f1, f2, f3, f4, f5, f6, f7, f8, f9⟩ := ten_all HE3.out; have hzE := arr9_lt HE3.out; have hb3 : w.heap.size + 3 ≤ w1.heap.size := HR1.out.big; have HR4 := Lib.hid (RqB.put HR3.out (b := w1.heap.size) (i := 2) (.slice q3 0 l3) hb3); have HE4 := Lib.hid (HE3.out.put 2 (.slice q3 0 l3)); have HV4 := Lib.hid (And.intro (own_cell10 (i := 2) (u := .slice q3 0 l3) HV3.out.1 (own_ne10 HV3.out.1 HE3.out (by decide))) (own_cell10 (i := 2) (u := .slice q3 0 l3) HV3.out.2 (own_ne10 HV3.out.2 HE3.out (by decide)))); have HT4 := Lib.hid (own_cell10 (i := 2) (u := .slice q3 0 l3) HT3.out (own_ne10 HT3.out HE3.out (by decide))))
    | (go_at_call 23; go_fit (i1 _ (HO1.out _ HR.out.2.2.2) (HO2.out _ HR.out.2.2.2)); rintro e w1 ⟨⟨q1, l1, q2, l2, rfl, v1, v2⟩, hb⟩; have HR1 := Lib.hid (HR.out.on hb); have HR1a := Lib.hid (HR1.out.on ((Below.refl _ _).alloc (Nat.le_refl _) (.cells #[.slice q1 n1 l1, .slice q2 n2 l2, .slice none 0 0, .string ⟨#[]⟩, .string ⟨#[]⟩, .string ⟨#[]⟩, .string ⟨#[]⟩, .int .i64 0, .string ⟨#[]⟩, .int .i64 0] 37))); have HE1a := Lib.hid (Arr.fresh w1 37 [.slice q1 n1 l1, .slice q2 n2 l2, .slice none 0 0, .string ⟨#[]⟩, .string ⟨#[]⟩, .string ⟨#[]⟩, .string ⟨#[]⟩, .int .i64 0, .string ⟨#[]⟩, .int .i64 0]); have HV1 := Lib.hid (And.intro (v1.mono HR.out.big) (v2.mono HR.out.big)); have HV1a := Lib.hid (And.intro (HV1.out.1.alloc (.cells #[.slice q1 n1 l1, .slice q2 n2 l2, .slice none 0 0, .string ⟨#[]⟩, .string ⟨#[]⟩, .string ⟨#[]⟩, .string ⟨#[]⟩, .int .i64 0, .string ⟨#[]⟩, .int .i64 0] 37)) (HV1.out.2.alloc (.cells #[.slice q1 n1 l1, .slice q2 n2 l2, .slice none 0 0, .string ⟨#[]⟩, .string ⟨#[]⟩, .string ⟨#[]⟩, .string ⟨#[]⟩, .int .i64 0, .string ⟨#[]⟩, .int .i64 0] 37))); clear hb v1 v2; obtain ⟨⟨m0, m1⟩, _⟩ := arr9_two HR1.out.1; obtain ⟨⟨s0, s1, s2, s3, s4, s5⟩, _⟩ := arr_six0 HR1.out.2.1; obtain ⟨⟨r0, r1, r2, r3, r4, r5, r6, r7, r8, r9⟩, u0, u1, u2, u3, u4, u5, u6, u7, u8, u9⟩ := ten_all HR1.out.2.2.1; have hzA := arr9_lt HR1.out.1; have hzB := arr9_lt HR1.out.2.1; have hzC := arr9_lt HR1.out.2.2.1))
  have hb3 : w.heap.size + 3 ≤ w1.heap.size := HR1.out.big
  have HR9 := Lib.hid (RqB.put6b HR5.out (b := w1.heap.size) hb3 (.string Y.k) (.string Y.t) (.string Y.f) (.string Y.o) (.int .i64 Y.n) (.string Y.b)); have HE9 := Lib.hid ((((((HE5.out.put 3 (.string Y.k)).put 4 (.string Y.t)).put 5 (.string Y.f)).put 6 (.string Y.o)).put 7 (.int .i64 Y.n)).put 8 (.string Y.b)); have HV9 := Lib.hid (And.intro (own_put6b HV5.out.1 (own_ne10 HV5.out.1 HE5.out (by decide)) (.string Y.k) (.string Y.t) (.string Y.f) (.string Y.o) (.int .i64 Y.n) (.string Y.b)) (own_put6b HV5.out.2 (own_ne10 HV5.out.2 HE5.out (by decide)) (.string Y.k) (.string Y.t) (.string Y.f) (.string Y.o) (.int .i64 Y.n) (.string Y.b))); have HT9 := Lib.hid (own_put6b HT5.out (own_ne10 HT5.out HE5.out (by decide)) (.string Y.k) (.string Y.t) (.string Y.f) (.string Y.o) (.int .i64 Y.n) (.string Y.b))
  have hA := arr_put10 HR9.out.2.2.1 (.slice q1 n1 l1) (.slice q2 n2 l2) (.slice q3 0 l3) (.string Y.k) (.string Y.t) (.string Y.f) (.string Y.o) (.int .i64 Y.n) (.string Y.b) (.int .i64 0)
  have hBw := below_put10 HR9.out.2.2.2 (show w.heap.size ≤ w.heap.size + 1 + 1 by omega) (.slice q1 n1 l1) (.slice q2 n2 l2) (.slice q3 0 l3) (.string Y.k) (.string Y.t) (.string Y.f) (.string Y.o) (.int .i64 Y.n) (.string Y.b) (.int .i64 0)
  exact bodyPost_ret (v := .agg #[.slice q1 n1 l1, .slice q2 n2 l2, .slice q3 0 l3, .string Y.k, .string Y.t, .string Y.f, .string Y.o, .int .i64 Y.n, .string Y.b, .int .i64 0]) (results_cell_row (P := Tryz.prog) Tryz.results8 _ _ (w.heap.size + 1 + 1) 37 _ (0, 0) _ rfl hA Tryz.underlying37 rfl (by kernel_rfl)) rfl ⟨⟨q1, l1, q2, l2, q3, l3, by unfold roV; rw [HX.out, HY.out, H4.out]; try rfl, by rw [HX.out]; exact (own_put10 HV9.out.1 (by omega) (.slice q1 n1 l1) (.slice q2 n2 l2) (.slice q3 0 l3) (.string Y.k) (.string Y.t) (.string Y.f) (.string Y.o) (.int .i64 Y.n) (.string Y.b) (.int .i64 0)).mono (by omega), by rw [HY.out]; exact (own_put10 HV9.out.2 (by omega) (.slice q1 n1 l1) (.slice q2 n2 l2) (.slice q3 0 l3) (.string Y.k) (.string Y.t) (.string Y.f) (.string Y.o) (.int .i64 Y.n) (.string Y.b) (.int .i64 0)).mono (by omega), by rw [H4.out]; exact (own_put10 HT9.out (by omega) (.slice q1 n1 l1) (.slice q2 n2 l2) (.slice q3 0 l3) (.string Y.k) (.string Y.t) (.string Y.f) (.string Y.o) (.int .i64 Y.n) (.string Y.b) (.int .i64 0)).mono (by omega)⟩, hBw⟩
set_option maxRecDepth 100000 in
set_option maxHeartbeats 8000000 in
theorem spec_rmessK0 (xs : List SeL) (ys : List MsL) (p1 p2 : Option Addr) (n1 n2 c1 c2 : Nat) (s : MsL) (w : World) (hx : xs.length = n1) (hy : ys.length = n2) (hn1 : n1 ≤ 1048576) (hn2 : n2 ≤ 1048576) (hw : SzS xs) (hw2 : SzM ys) (hs : s.le 1048576) (B0 : Nat) (hO1 : OwnC seC w B0 70 4 (.slice p1 n1 c1) xs) (hO2 : OwnC msC w B0 35 6 (.slice p2 n2 c2) ys) (hyes : routB kMess xs ys s = true) (hte : (s.t.toList == [101, 114, 114, 111, 114]) = false) (hr0 : (resA s.o).size = 0) (h2 : (s.t.toList == [104, 101, 97, 100, 108, 105, 110, 101]) = false) (h3 : (s.t.toList == [103, 114, 111, 117, 112, 99, 104, 97, 116]) = false) (h4 : (bestR xs).length = 0) (h6 : n2 < 5) :
    Calls Tryz.prog 8 #[.agg #[.slice p1 n1 c1, .slice p2 n2 c2], .agg #[.string s.k, .string s.t, .string s.f, .string s.o, .int .i64 s.n, .string s.b]] w fun e w' => RoIs w.heap.size ⟨xs, ys ++ [s], bestR xs, zMs, 0⟩ e w' ∧ Below w.heap.size w w' := by
  have hR1 := row_own9 hO1
  have hR2 := row_ownM hO2
  have HR := Lib.hid (rqb_start w p1 n1 c1 p2 n2 c2 s)
  have HP1 := Lib.hid (fun W (h : Below w.heap.size w W) => hR1.on h)
  have HP2 := Lib.hid (fun W (h : Below w.heap.size w W) => hR2.on h)
  have HO1 := Lib.hid (fun W (h : Below w.heap.size w W) => hO1.on h)
  have HO2 := Lib.hid (fun W (h : Below w.heap.size w W) => hO2.on h)
  have HX := Lib.hid hx
  have HY := Lib.hid hy
  have hmb : mbB xs ys = true := by unfold routB at hyes; simp only [Bool.and_eq_true] at hyes; exact hyes.1.1.1
  obtain ⟨hok, hn5, _⟩ := mb_parts hmb
  have i1 := fun W h1 h2 => spec_beginT kMess xs ys p1 p2 n1 n2 c1 c2 s W hx hy hn1 hn2 hw hw2 hs B0 h1 h2 hyes
  unfold kMess at i1
  obtain ⟨r, hr⟩ : ∃ r, resA s.o = r := ⟨_, rfl⟩
  rw [hr] at i1 hr0
  obtain rfl : r = ⟨#[]⟩ := ba_ext (List.eq_nil_of_length_eq_zero (by rw [ByteArray.toList_eq, size_data]; exact hr0))
  have i3 := fun W h => spec_l09best xs p1 c1 W hok h
  rw [hx] at i3
  obtain ⟨L, hL⟩ : ∃ L, bestR xs = L := ⟨_, rfl⟩
  unfold StIs at i3
  rw [hL] at i3
  rw [hL] at h4
  rw [h4] at i3
  have H4 := Lib.hid h4
  clear h4
  have h7 : (n2 : Int) < 5 := by omega
  rw [hL]
  have HL := Lib.hid hL
  have hy5 : ys.length ≤ 1000000 := by omega
  clear hx hy hw hw2 hR1 hR2 hO1 hO2 hyes hmb hok hn5 hr hs hL
  go_enter Tryz.func8, Tryz.ntmps8
  go_wp2_with (first
    | (at_builtin; have _ := HR4; refine wpList_app_oneM rfl _ _ rfl (w.heap.size + 3) _ ys rfl (HV4.out.2.alloc (.cells #[.string s.k, .string s.t, .string s.f, .string s.o, .int .i64 s.n, .string s.b] 35)) w3.heap.size s rfl (by have h := Arr.fresh (w3.setCell ⟨w1.heap.size, 2, none⟩ (.slice q3 0 l3)) 35 (msC s); rw [World.size_setCell] at h; exact h) hy5 (by have := HR4.out.big; rw [World.size_alloc]; omega) ?_; intro v7 w7 hv hg; obtain ⟨q4, l4, e4⟩ := own_shape10 hv (n := n2 + 1) (by rw [List.length_append, HY.out]; rfl); subst e4; have hHRa := HR4.out.on ((Below.refl _ _).alloc (Nat.le_refl _) (.cells #[.string s.k, .string s.t, .string s.f, .string s.o, .int .i64 s.n, .string s.b] 35)); have hHEa := arr9_on HE4.out ((Below.refl _ _).alloc (Nat.le_refl _) (.cells #[.string s.k, .string s.t, .string s.f, .string s.o, .int .i64 s.n, .string s.b] 35)); have hV1a := HV4.out.1.alloc (.cells #[.string s.k, .string s.t, .string s.f, .string s.o, .int .i64 s.n, .string s.b] 35); have hV2a := HV4.out.2.alloc (.cells #[.string s.k, .string s.t, .string s.f, .string s.o, .int .i64 s.n, .string s.b] 35); have hTa := HT4.out.alloc (.cells #[.string s.k, .string s.t, .string s.f, .string s.o, .int .i64 s.n, .string s.b] 35); have HR7 := Lib.hid (hHRa.grow hg (fun q hq => (own_ltT hV2a q hq).1)); have HE7 := Lib.hid (arr_beside10 hHEa hg (own_ne10 hV2a hHEa (by decide))); have HV7 := Lib.hid (And.intro (own_beside hV1a hg (own_two hV2a hV1a (by decide))) hv); have HT7 := Lib.hid (own_beside hTa hg (own_two hV2a hTa (by decide))); clear hv hg hHRa hHEa hV1a hV2a hTa; obtain ⟨⟨m0, m1⟩, _⟩ := arr9_two HR7.out.1; obtain ⟨⟨s0, s1, s2, s3, s4, s5⟩, _⟩ := arr_six0 HR7.out.2.1; obtain ⟨⟨r0, r1, r2, r3, r4, r5, r6, r7, r8, r9⟩, u0, u1, u2, u3, u4, u5, u6, u7, u8, u9⟩ := ten_all HR7.out.2.2.1; have hzA := arr9_lt HR7.out.1; have hzB := arr9_lt HR7.out.2.1; have hzC := arr9_lt HR7.out.2.2.1; obtain ⟨⟨e0, e1, e2, e3, e4, e5, e6, e7, e8, e9⟩, f0, f1, f2, f3, f4, f5, f6, f7, f8, f9⟩ := ten_all HE7.out; have hzE := arr9_lt HE7.out)
    | (go_at_call 25; have _ := HR1a; go_fit (i3 _ (HP1.out _ HR1a.out.2.2.2)); rintro e w3 ⟨⟨q3, l3, rfl, v3⟩, hb⟩; have HR3 := Lib.hid (HR1a.out.on hb); have HE3 := Lib.hid (arr9_on HE1a.out hb); have HV3 := Lib.hid (And.intro (HV1a.out.1.on hb) (HV1a.out.2.on hb)); have HT3 := Lib.hid (OwnC.mono v3 HR1a.out.big); clear v3; clear hb; obtain ⟨⟨m0, m1⟩, _⟩ := arr9_two HR3.out.1; obtain ⟨⟨s0, s1, s2, s3, s4, s5⟩, _⟩ := arr_six0 HR3.out.2.1; obtain ⟨⟨r0, r1, r2, r3, r4, r5, r6, r7, r8, r9⟩, u0, u1, u2, u3, u4, u5, u6, u7, u8, u9⟩ := ten_all HR3.out.2.2.1; have hzA := arr9_lt HR3.out.1; have hzB := arr9_lt HR3.out.2.1; have hzC := arr9_lt HR3.out.2.2.1; obtain ⟨⟨e0, e1, e2, e3, e4, e5, e6, e7, e8, e9⟩, f0, f1, f2, f3, f4, f5, f6, f7, f8, f9⟩ := ten_all HE3.out; have hzE := arr9_lt HE3.out; have hb3 : w.heap.size + 3 ≤ w1.heap.size := HR1.out.big; have HR4 := Lib.hid (RqB.put HR3.out (b := w1.heap.size) (i := 2) (.slice q3 0 l3) hb3); have HE4 := Lib.hid (HE3.out.put 2 (.slice q3 0 l3)); have HV4 := Lib.hid (And.intro (own_cell10 (i := 2) (u := .slice q3 0 l3) HV3.out.1 (own_ne10 HV3.out.1 HE3.out (by decide))) (own_cell10 (i := 2) (u := .slice q3 0 l3) HV3.out.2 (own_ne10 HV3.out.2 HE3.out (by decide)))); have HT4 := Lib.hid (own_cell10 (i := 2) (u := .slice q3 0 l3) HT3.out (own_ne10 HT3.out HE3.out (by decide))))
    | (go_at_call 23; go_fit (i1 _ (HO1.out _ HR.out.2.2.2) (HO2.out _ HR.out.2.2.2)); rintro e w1 ⟨⟨q1, l1, q2, l2, rfl, v1, v2⟩, hb⟩; have HR1 := Lib.hid (HR.out.on hb); have HR1a := Lib.hid (HR1.out.on ((Below.refl _ _).alloc (Nat.le_refl _) (.cells #[.slice q1 n1 l1, .slice q2 n2 l2, .slice none 0 0, .string ⟨#[]⟩, .string ⟨#[]⟩, .string ⟨#[]⟩, .string ⟨#[]⟩, .int .i64 0, .string ⟨#[]⟩, .int .i64 0] 37))); have HE1a := Lib.hid (Arr.fresh w1 37 [.slice q1 n1 l1, .slice q2 n2 l2, .slice none 0 0, .string ⟨#[]⟩, .string ⟨#[]⟩, .string ⟨#[]⟩, .string ⟨#[]⟩, .int .i64 0, .string ⟨#[]⟩, .int .i64 0]); have HV1 := Lib.hid (And.intro (v1.mono HR.out.big) (v2.mono HR.out.big)); have HV1a := Lib.hid (And.intro (HV1.out.1.alloc (.cells #[.slice q1 n1 l1, .slice q2 n2 l2, .slice none 0 0, .string ⟨#[]⟩, .string ⟨#[]⟩, .string ⟨#[]⟩, .string ⟨#[]⟩, .int .i64 0, .string ⟨#[]⟩, .int .i64 0] 37)) (HV1.out.2.alloc (.cells #[.slice q1 n1 l1, .slice q2 n2 l2, .slice none 0 0, .string ⟨#[]⟩, .string ⟨#[]⟩, .string ⟨#[]⟩, .string ⟨#[]⟩, .int .i64 0, .string ⟨#[]⟩, .int .i64 0] 37))); clear hb v1 v2; obtain ⟨⟨m0, m1⟩, _⟩ := arr9_two HR1.out.1; obtain ⟨⟨s0, s1, s2, s3, s4, s5⟩, _⟩ := arr_six0 HR1.out.2.1; obtain ⟨⟨r0, r1, r2, r3, r4, r5, r6, r7, r8, r9⟩, u0, u1, u2, u3, u4, u5, u6, u7, u8, u9⟩ := ten_all HR1.out.2.2.1; have hzA := arr9_lt HR1.out.1; have hzB := arr9_lt HR1.out.2.1; have hzC := arr9_lt HR1.out.2.2.1))
  have hb3 : w.heap.size + 3 ≤ w1.heap.size := HR1.out.big
  have HR9 := Lib.hid (RqB.put HR7.out (b := w1.heap.size) (i := 1) (.slice q4 (n2 + 1) l4) hb3); have HE9 := Lib.hid (HE7.out.put 1 (.slice q4 (n2 + 1) l4)); have HV9 := Lib.hid (And.intro (own_cell10 (i := 1) (u := .slice q4 (n2 + 1) l4) HV7.out.1 (own_ne10 HV7.out.1 HE7.out (by decide))) (own_cell10 (i := 1) (u := .slice q4 (n2 + 1) l4) HV7.out.2 (own_ne10 HV7.out.2 HE7.out (by decide)))); have HT9 := Lib.hid (own_cell10 (i := 1) (u := .slice q4 (n2 + 1) l4) HT7.out (own_ne10 HT7.out HE7.out (by decide)))
  have hyl : (ys ++ [s]).length = n2 + 1 := by rw [List.length_append, HY.out]; rfl
  have hA := arr_put10 HR9.out.2.2.1 (.slice q1 n1 l1) (.slice q4 (n2 + 1) l4) (.slice q3 0 l3) (.string ⟨#[]⟩) (.string ⟨#[]⟩) (.string ⟨#[]⟩) (.string ⟨#[]⟩) (.int .i64 0) (.string ⟨#[]⟩) (.int .i64 0)
  have hBw := below_put10 HR9.out.2.2.2 (show w.heap.size ≤ w.heap.size + 1 + 1 by omega) (.slice q1 n1 l1) (.slice q4 (n2 + 1) l4) (.slice q3 0 l3) (.string ⟨#[]⟩) (.string ⟨#[]⟩) (.string ⟨#[]⟩) (.string ⟨#[]⟩) (.int .i64 0) (.string ⟨#[]⟩) (.int .i64 0)
  exact bodyPost_ret (v := .agg #[.slice q1 n1 l1, .slice q4 (n2 + 1) l4, .slice q3 0 l3, .string ⟨#[]⟩, .string ⟨#[]⟩, .string ⟨#[]⟩, .string ⟨#[]⟩, .int .i64 0, .string ⟨#[]⟩, .int .i64 0]) (results_cell_row (P := Tryz.prog) Tryz.results8 _ _ (w.heap.size + 1 + 1) 37 _ (0, 0) _ rfl hA Tryz.underlying37 rfl (by kernel_rfl)) rfl ⟨⟨q1, l1, q4, l4, q3, l3, by unfold roV; rw [HX.out, hyl, H4.out]; try rfl, by rw [HX.out]; exact (own_put10 HV9.out.1 (by omega) (.slice q1 n1 l1) (.slice q4 (n2 + 1) l4) (.slice q3 0 l3) (.string ⟨#[]⟩) (.string ⟨#[]⟩) (.string ⟨#[]⟩) (.string ⟨#[]⟩) (.int .i64 0) (.string ⟨#[]⟩) (.int .i64 0)).mono (by omega), by rw [hyl]; exact (own_put10 HV9.out.2 (by omega) (.slice q1 n1 l1) (.slice q4 (n2 + 1) l4) (.slice q3 0 l3) (.string ⟨#[]⟩) (.string ⟨#[]⟩) (.string ⟨#[]⟩) (.string ⟨#[]⟩) (.int .i64 0) (.string ⟨#[]⟩) (.int .i64 0)).mono (by omega), by rw [H4.out]; exact (own_put10 HT9.out (by omega) (.slice q1 n1 l1) (.slice q4 (n2 + 1) l4) (.slice q3 0 l3) (.string ⟨#[]⟩) (.string ⟨#[]⟩) (.string ⟨#[]⟩) (.string ⟨#[]⟩) (.int .i64 0) (.string ⟨#[]⟩) (.int .i64 0)).mono (by omega)⟩, hBw⟩
set_option maxRecDepth 100000 in
set_option maxHeartbeats 8000000 in
theorem spec_rmessH1 (xs : List SeL) (ys : List MsL) (p1 p2 : Option Addr) (n1 n2 c1 c2 : Nat) (s : MsL) (w : World) (hx : xs.length = n1) (hy : ys.length = n2) (hn1 : n1 ≤ 1048576) (hn2 : n2 ≤ 1048576) (hw : SzS xs) (hw2 : SzM ys) (hs : s.le 1048576) (B0 : Nat) (hO1 : OwnC seC w B0 70 4 (.slice p1 n1 c1) xs) (hO2 : OwnC msC w B0 35 6 (.slice p2 n2 c2) ys) (hyes : routB kMess xs ys s = true) (hte : (s.t.toList == [101, 114, 114, 111, 114]) = false) (hr0 : ((resA s.o).toList == []) = false) (hon : onB (resA s.o) xs = false) (h2 : (s.t.toList == [104, 101, 97, 100, 108, 105, 110, 101]) = true) :
    Calls Tryz.prog 8 #[.agg #[.slice p1 n1 c1, .slice p2 n2 c2], .agg #[.string s.k, .string s.t, .string s.f, .string s.o, .int .i64 s.n, .string s.b]] w fun e w' => RoIs w.heap.size ⟨xs, ys, bestR xs, zMs, 0⟩ e w' ∧ Below w.heap.size w w' := by
  have hR1 := row_own9 hO1
  have hR2 := row_ownM hO2
  have HR := Lib.hid (rqb_start w p1 n1 c1 p2 n2 c2 s)
  have HP1 := Lib.hid (fun W (h : Below w.heap.size w W) => hR1.on h)
  have HP2 := Lib.hid (fun W (h : Below w.heap.size w W) => hR2.on h)
  have HO1 := Lib.hid (fun W (h : Below w.heap.size w W) => hO1.on h)
  have HO2 := Lib.hid (fun W (h : Below w.heap.size w W) => hO2.on h)
  have HX := Lib.hid hx
  have HY := Lib.hid hy
  have hmb : mbB xs ys = true := by unfold routB at hyes; simp only [Bool.and_eq_true] at hyes; exact hyes.1.1.1
  obtain ⟨hok, hn5, _⟩ := mb_parts hmb
  have i1 := fun W h1 h2 => spec_beginT kMess xs ys p1 p2 n1 n2 c1 c2 s W hx hy hn1 hn2 hw hw2 hs B0 h1 h2 hyes
  unfold kMess at i1
  obtain ⟨r, hr⟩ : ∃ r, resA s.o = r := ⟨_, rfl⟩
  rw [hr] at i1 hon hr0
  have hr1 : r.toList ≠ [] := by simpa using hr0
  have hr2 : r.toList.isEmpty = false := by simpa using hr1
  have i2 := fun W h => spec_on xs r p1 p2 n1 n2 c1 c2 W hx hok h
  rw [hon] at i2
  have i3 := fun W h => spec_l09best xs p1 c1 W hok h
  rw [hx] at i3
  obtain ⟨L, hL⟩ : ∃ L, bestR xs = L := ⟨_, rfl⟩
  unfold StIs at i3
  rw [hL] at i3
  rw [hL]
  have HL := Lib.hid hL
  clear hx hy hw hw2 hR1 hR2 hO1 hO2 hyes hmb hok hn5 hr hs hL
  go_enter Tryz.func8, Tryz.ntmps8
  go_wp2_with (first
    | (go_at_call 25; have _ := HR2; go_fit (i3 _ (HP1.out _ HR2.out.2.2.2)); rintro e w3 ⟨⟨q3, l3, rfl, v3⟩, hb⟩; have HR3 := Lib.hid (HR2.out.on hb); have HE3 := Lib.hid (arr9_on HE2.out hb); have HV3 := Lib.hid (And.intro (HV2.out.1.on hb) (HV2.out.2.on hb)); have HT3 := Lib.hid (OwnC.mono v3 HR2.out.big); clear v3; clear hb; obtain ⟨⟨m0, m1⟩, _⟩ := arr9_two HR3.out.1; obtain ⟨⟨s0, s1, s2, s3, s4, s5⟩, _⟩ := arr_six0 HR3.out.2.1; obtain ⟨⟨r0, r1, r2, r3, r4, r5, r6, r7, r8, r9⟩, u0, u1, u2, u3, u4, u5, u6, u7, u8, u9⟩ := ten_all HR3.out.2.2.1; have hzA := arr9_lt HR3.out.1; have hzB := arr9_lt HR3.out.2.1; have hzC := arr9_lt HR3.out.2.2.1; obtain ⟨⟨e0, e1, e2, e3, e4, e5, e6, e7, e8, e9⟩, f0, f1, f2, f3, f4, f5, f6, f7, f8, f9⟩ := ten_all HE3.out; have hzE := arr9_lt HE3.out; have hb3 : w.heap.size + 3 ≤ w1.heap.size := HR1.out.big; have HR4 := Lib.hid (RqB.put HR3.out (b := w1.heap.size) (i := 2) (.slice q3 L.length l3) hb3); have HE4 := Lib.hid (HE3.out.put 2 (.slice q3 L.length l3)); have HV4 := Lib.hid (And.intro (own_cell10 (i := 2) (u := .slice q3 L.length l3) HV3.out.1 (own_ne10 HV3.out.1 HE3.out (by decide))) (own_cell10 (i := 2) (u := .slice q3 L.length l3) HV3.out.2 (own_ne10 HV3.out.2 HE3.out (by decide)))); have HT4 := Lib.hid (own_cell10 (i := 2) (u := .slice q3 L.length l3) HT3.out (own_ne10 HT3.out HE3.out (by decide))))
    | (go_at_call 24; go_fit (i2 _ (HP1.out _ HR1a.out.2.2.2)); rintro e w2 ⟨rfl, hb⟩; have HR2 := Lib.hid (HR1a.out.on hb); have HE2 := Lib.hid (arr9_on HE1a.out hb); have HV2 := Lib.hid (And.intro (HV1a.out.1.on hb) (HV1a.out.2.on hb)); clear hb; obtain ⟨⟨m0, m1⟩, _⟩ := arr9_two HR2.out.1; obtain ⟨⟨s0, s1, s2, s3, s4, s5⟩, _⟩ := arr_six0 HR2.out.2.1; obtain ⟨⟨r0, r1, r2, r3, r4, r5, r6, r7, r8, r9⟩, u0, u1, u2, u3, u4, u5, u6, u7, u8, u9⟩ := ten_all HR2.out.2.2.1; have hzA := arr9_lt HR2.out.1; have hzB := arr9_lt HR2.out.2.1; have hzC := arr9_lt HR2.out.2.2.1; obtain ⟨⟨e0, e1, e2, e3, e4, e5, e6, e7, e8, e9⟩, f0, f1, f2, f3, f4, f5, f6, f7, f8, f9⟩ := ten_all HE2.out; have hzE := arr9_lt HE2.out)
    | (go_at_call 23; go_fit (i1 _ (HO1.out _ HR.out.2.2.2) (HO2.out _ HR.out.2.2.2)); rintro e w1 ⟨⟨q1, l1, q2, l2, rfl, v1, v2⟩, hb⟩; have HR1 := Lib.hid (HR.out.on hb); have HR1a := Lib.hid (HR1.out.on ((Below.refl _ _).alloc (Nat.le_refl _) (.cells #[.slice q1 n1 l1, .slice q2 n2 l2, .slice none 0 0, .string ⟨#[]⟩, .string ⟨#[]⟩, .string ⟨#[]⟩, .string ⟨#[]⟩, .int .i64 0, .string ⟨#[]⟩, .int .i64 0] 37))); have HE1a := Lib.hid (Arr.fresh w1 37 [.slice q1 n1 l1, .slice q2 n2 l2, .slice none 0 0, .string ⟨#[]⟩, .string ⟨#[]⟩, .string ⟨#[]⟩, .string ⟨#[]⟩, .int .i64 0, .string ⟨#[]⟩, .int .i64 0]); have HV1 := Lib.hid (And.intro (v1.mono HR.out.big) (v2.mono HR.out.big)); have HV1a := Lib.hid (And.intro (HV1.out.1.alloc (.cells #[.slice q1 n1 l1, .slice q2 n2 l2, .slice none 0 0, .string ⟨#[]⟩, .string ⟨#[]⟩, .string ⟨#[]⟩, .string ⟨#[]⟩, .int .i64 0, .string ⟨#[]⟩, .int .i64 0] 37)) (HV1.out.2.alloc (.cells #[.slice q1 n1 l1, .slice q2 n2 l2, .slice none 0 0, .string ⟨#[]⟩, .string ⟨#[]⟩, .string ⟨#[]⟩, .string ⟨#[]⟩, .int .i64 0, .string ⟨#[]⟩, .int .i64 0] 37))); clear hb v1 v2; obtain ⟨⟨m0, m1⟩, _⟩ := arr9_two HR1.out.1; obtain ⟨⟨s0, s1, s2, s3, s4, s5⟩, _⟩ := arr_six0 HR1.out.2.1; obtain ⟨⟨r0, r1, r2, r3, r4, r5, r6, r7, r8, r9⟩, u0, u1, u2, u3, u4, u5, u6, u7, u8, u9⟩ := ten_all HR1.out.2.2.1; have hzA := arr9_lt HR1.out.1; have hzB := arr9_lt HR1.out.2.1; have hzC := arr9_lt HR1.out.2.2.1))
  have hb3 : w.heap.size + 3 ≤ w1.heap.size := HR1.out.big
  have hA := arr_put10 HR4.out.2.2.1 (.slice q1 n1 l1) (.slice q2 n2 l2) (.slice q3 L.length l3) (.string ⟨#[]⟩) (.string ⟨#[]⟩) (.string ⟨#[]⟩) (.string ⟨#[]⟩) (.int .i64 0) (.string ⟨#[]⟩) (.int .i64 0)
  have hBw := below_put10 HR4.out.2.2.2 (show w.heap.size ≤ w.heap.size + 1 + 1 by omega) (.slice q1 n1 l1) (.slice q2 n2 l2) (.slice q3 L.length l3) (.string ⟨#[]⟩) (.string ⟨#[]⟩) (.string ⟨#[]⟩) (.string ⟨#[]⟩) (.int .i64 0) (.string ⟨#[]⟩) (.int .i64 0)
  exact bodyPost_ret (v := .agg #[.slice q1 n1 l1, .slice q2 n2 l2, .slice q3 L.length l3, .string ⟨#[]⟩, .string ⟨#[]⟩, .string ⟨#[]⟩, .string ⟨#[]⟩, .int .i64 0, .string ⟨#[]⟩, .int .i64 0]) (results_cell_row (P := Tryz.prog) Tryz.results8 _ _ (w.heap.size + 1 + 1) 37 _ (0, 0) _ rfl hA Tryz.underlying37 rfl (by kernel_rfl)) rfl ⟨⟨q1, l1, q2, l2, q3, l3, by unfold roV; rw [HX.out, HY.out]; rfl, by rw [HX.out]; exact (own_put10 HV4.out.1 (by omega) (.slice q1 n1 l1) (.slice q2 n2 l2) (.slice q3 L.length l3) (.string ⟨#[]⟩) (.string ⟨#[]⟩) (.string ⟨#[]⟩) (.string ⟨#[]⟩) (.int .i64 0) (.string ⟨#[]⟩) (.int .i64 0)).mono (by omega), by rw [HY.out]; exact (own_put10 HV4.out.2 (by omega) (.slice q1 n1 l1) (.slice q2 n2 l2) (.slice q3 L.length l3) (.string ⟨#[]⟩) (.string ⟨#[]⟩) (.string ⟨#[]⟩) (.string ⟨#[]⟩) (.int .i64 0) (.string ⟨#[]⟩) (.int .i64 0)).mono (by omega), (own_put10 HT4.out (by omega) (.slice q1 n1 l1) (.slice q2 n2 l2) (.slice q3 L.length l3) (.string ⟨#[]⟩) (.string ⟨#[]⟩) (.string ⟨#[]⟩) (.string ⟨#[]⟩) (.int .i64 0) (.string ⟨#[]⟩) (.int .i64 0)).mono (by omega)⟩, hBw⟩
set_option maxRecDepth 100000 in
set_option maxHeartbeats 8000000 in
theorem spec_rmessG1 (xs : List SeL) (ys : List MsL) (p1 p2 : Option Addr) (n1 n2 c1 c2 : Nat) (s : MsL) (w : World) (hx : xs.length = n1) (hy : ys.length = n2) (hn1 : n1 ≤ 1048576) (hn2 : n2 ≤ 1048576) (hw : SzS xs) (hw2 : SzM ys) (hs : s.le 1048576) (B0 : Nat) (hO1 : OwnC seC w B0 70 4 (.slice p1 n1 c1) xs) (hO2 : OwnC msC w B0 35 6 (.slice p2 n2 c2) ys) (hyes : routB kMess xs ys s = true) (hte : (s.t.toList == [101, 114, 114, 111, 114]) = false) (hr0 : ((resA s.o).toList == []) = false) (hon : onB (resA s.o) xs = false) (h2 : (s.t.toList == [104, 101, 97, 100, 108, 105, 110, 101]) = false) (h3 : (s.t.toList == [103, 114, 111, 117, 112, 99, 104, 97, 116]) = true) :
    Calls Tryz.prog 8 #[.agg #[.slice p1 n1 c1, .slice p2 n2 c2], .agg #[.string s.k, .string s.t, .string s.f, .string s.o, .int .i64 s.n, .string s.b]] w fun e w' => RoIs w.heap.size ⟨xs, ys, [], fltM s unavS, 0⟩ e w' ∧ Below w.heap.size w w' := by
  have hR1 := row_own9 hO1
  have hR2 := row_ownM hO2
  have HR := Lib.hid (rqb_start w p1 n1 c1 p2 n2 c2 s)
  have HP1 := Lib.hid (fun W (h : Below w.heap.size w W) => hR1.on h)
  have HP2 := Lib.hid (fun W (h : Below w.heap.size w W) => hR2.on h)
  have HO1 := Lib.hid (fun W (h : Below w.heap.size w W) => hO1.on h)
  have HO2 := Lib.hid (fun W (h : Below w.heap.size w W) => hO2.on h)
  have HX := Lib.hid hx
  have HY := Lib.hid hy
  have hmb : mbB xs ys = true := by unfold routB at hyes; simp only [Bool.and_eq_true] at hyes; exact hyes.1.1.1
  obtain ⟨hok, hn5, _⟩ := mb_parts hmb
  have i1 := fun W h1 h2 => spec_beginT kMess xs ys p1 p2 n1 n2 c1 c2 s W hx hy hn1 hn2 hw hw2 hs B0 h1 h2 hyes
  unfold kMess at i1
  obtain ⟨r, hr⟩ : ∃ r, resA s.o = r := ⟨_, rfl⟩
  rw [hr] at i1 hon hr0
  have hr1 : r.toList ≠ [] := by simpa using hr0
  have hr2 : r.toList.isEmpty = false := by simpa using hr1
  have i2 := fun W h => spec_on xs r p1 p2 n1 n2 c1 c2 W hx hok h
  rw [hon] at i2
  have i4 := fun W => spec_fault s.k s.t s.f s.o s.n s.b unavS W (by have := hs.2.1; unfold maxLen; omega) (by have := hs.2.2.1; omega) (by have := hs.2.2.2.1; omega) (by have := hs.2.2.2.2; unfold maxLen; omega) (by rw [show unavS.size = _ from rfl]; first | done | (unfold maxLen; decide))
  simp only [fltV_M] at i4
  obtain ⟨Y, hY⟩ : ∃ Y, fltM s unavS = Y := ⟨_, rfl⟩
  rw [hY] at i4
  unfold msV unavS at i4
  rw [hY]
  clear hx hy hw hw2 hR1 hR2 hO1 hO2 hyes hmb hok hn5 hr hs hY
  go_enter Tryz.func8, Tryz.ntmps8
  go_wp2_with (first
    | (go_at_call 26; have _ := HR2; go_fit (i4 _); rintro e w5 ⟨rfl, hb⟩; have HR5 := Lib.hid (HR2.out.on hb); have HE5 := Lib.hid (arr9_on HE2.out hb); have HV5 := Lib.hid (And.intro (HV2.out.1.on hb) (HV2.out.2.on hb)); clear hb; obtain ⟨⟨m0, m1⟩, _⟩ := arr9_two HR5.out.1; obtain ⟨⟨s0, s1, s2, s3, s4, s5⟩, _⟩ := arr_six0 HR5.out.2.1; obtain ⟨⟨r0, r1, r2, r3, r4, r5, r6, r7, r8, r9⟩, u0, u1, u2, u3, u4, u5, u6, u7, u8, u9⟩ := ten_all HR5.out.2.2.1; have hzA := arr9_lt HR5.out.1; have hzB := arr9_lt HR5.out.2.1; have hzC := arr9_lt HR5.out.2.2.1; obtain ⟨⟨e0, e1, e2, e3, e4, e5, e6, e7, e8, e9⟩, f0, f1, f2, f3, f4, f5, f6, f7, f8, f9⟩ := ten_all HE5.out; have hzE := arr9_lt HE5.out)
    | (go_at_call 24; go_fit (i2 _ (HP1.out _ HR1a.out.2.2.2)); rintro e w2 ⟨rfl, hb⟩; have HR2 := Lib.hid (HR1a.out.on hb); have HE2 := Lib.hid (arr9_on HE1a.out hb); have HV2 := Lib.hid (And.intro (HV1a.out.1.on hb) (HV1a.out.2.on hb)); clear hb; obtain ⟨⟨m0, m1⟩, _⟩ := arr9_two HR2.out.1; obtain ⟨⟨s0, s1, s2, s3, s4, s5⟩, _⟩ := arr_six0 HR2.out.2.1; obtain ⟨⟨r0, r1, r2, r3, r4, r5, r6, r7, r8, r9⟩, u0, u1, u2, u3, u4, u5, u6, u7, u8, u9⟩ := ten_all HR2.out.2.2.1; have hzA := arr9_lt HR2.out.1; have hzB := arr9_lt HR2.out.2.1; have hzC := arr9_lt HR2.out.2.2.1; obtain ⟨⟨e0, e1, e2, e3, e4, e5, e6, e7, e8, e9⟩, f0, f1, f2, f3, f4, f5, f6, f7, f8, f9⟩ := ten_all HE2.out; have hzE := arr9_lt HE2.out)
    | (go_at_call 23; go_fit (i1 _ (HO1.out _ HR.out.2.2.2) (HO2.out _ HR.out.2.2.2)); rintro e w1 ⟨⟨q1, l1, q2, l2, rfl, v1, v2⟩, hb⟩; have HR1 := Lib.hid (HR.out.on hb); have HR1a := Lib.hid (HR1.out.on ((Below.refl _ _).alloc (Nat.le_refl _) (.cells #[.slice q1 n1 l1, .slice q2 n2 l2, .slice none 0 0, .string ⟨#[]⟩, .string ⟨#[]⟩, .string ⟨#[]⟩, .string ⟨#[]⟩, .int .i64 0, .string ⟨#[]⟩, .int .i64 0] 37))); have HE1a := Lib.hid (Arr.fresh w1 37 [.slice q1 n1 l1, .slice q2 n2 l2, .slice none 0 0, .string ⟨#[]⟩, .string ⟨#[]⟩, .string ⟨#[]⟩, .string ⟨#[]⟩, .int .i64 0, .string ⟨#[]⟩, .int .i64 0]); have HV1 := Lib.hid (And.intro (v1.mono HR.out.big) (v2.mono HR.out.big)); have HV1a := Lib.hid (And.intro (HV1.out.1.alloc (.cells #[.slice q1 n1 l1, .slice q2 n2 l2, .slice none 0 0, .string ⟨#[]⟩, .string ⟨#[]⟩, .string ⟨#[]⟩, .string ⟨#[]⟩, .int .i64 0, .string ⟨#[]⟩, .int .i64 0] 37)) (HV1.out.2.alloc (.cells #[.slice q1 n1 l1, .slice q2 n2 l2, .slice none 0 0, .string ⟨#[]⟩, .string ⟨#[]⟩, .string ⟨#[]⟩, .string ⟨#[]⟩, .int .i64 0, .string ⟨#[]⟩, .int .i64 0] 37))); clear hb v1 v2; obtain ⟨⟨m0, m1⟩, _⟩ := arr9_two HR1.out.1; obtain ⟨⟨s0, s1, s2, s3, s4, s5⟩, _⟩ := arr_six0 HR1.out.2.1; obtain ⟨⟨r0, r1, r2, r3, r4, r5, r6, r7, r8, r9⟩, u0, u1, u2, u3, u4, u5, u6, u7, u8, u9⟩ := ten_all HR1.out.2.2.1; have hzA := arr9_lt HR1.out.1; have hzB := arr9_lt HR1.out.2.1; have hzC := arr9_lt HR1.out.2.2.1))
  have hb3 : w.heap.size + 3 ≤ w1.heap.size := HR1.out.big
  have HR9 := Lib.hid (RqB.put6b HR5.out (b := w1.heap.size) hb3 (.string Y.k) (.string Y.t) (.string Y.f) (.string Y.o) (.int .i64 Y.n) (.string Y.b)); have HE9 := Lib.hid ((((((HE5.out.put 3 (.string Y.k)).put 4 (.string Y.t)).put 5 (.string Y.f)).put 6 (.string Y.o)).put 7 (.int .i64 Y.n)).put 8 (.string Y.b)); have HV9 := Lib.hid (And.intro (own_put6b HV5.out.1 (own_ne10 HV5.out.1 HE5.out (by decide)) (.string Y.k) (.string Y.t) (.string Y.f) (.string Y.o) (.int .i64 Y.n) (.string Y.b)) (own_put6b HV5.out.2 (own_ne10 HV5.out.2 HE5.out (by decide)) (.string Y.k) (.string Y.t) (.string Y.f) (.string Y.o) (.int .i64 Y.n) (.string Y.b)))
  have hA := arr_put10 HR9.out.2.2.1 (.slice q1 n1 l1) (.slice q2 n2 l2) (.slice none 0 0) (.string Y.k) (.string Y.t) (.string Y.f) (.string Y.o) (.int .i64 Y.n) (.string Y.b) (.int .i64 0)
  have hBw := below_put10 HR9.out.2.2.2 (show w.heap.size ≤ w.heap.size + 1 + 1 by omega) (.slice q1 n1 l1) (.slice q2 n2 l2) (.slice none 0 0) (.string Y.k) (.string Y.t) (.string Y.f) (.string Y.o) (.int .i64 Y.n) (.string Y.b) (.int .i64 0)
  exact bodyPost_ret (v := .agg #[.slice q1 n1 l1, .slice q2 n2 l2, .slice none 0 0, .string Y.k, .string Y.t, .string Y.f, .string Y.o, .int .i64 Y.n, .string Y.b, .int .i64 0]) (results_cell_row (P := Tryz.prog) Tryz.results8 _ _ (w.heap.size + 1 + 1) 37 _ (0, 0) _ rfl hA Tryz.underlying37 rfl (by kernel_rfl)) rfl ⟨⟨q1, l1, q2, l2, none, 0, by unfold roV; rw [HX.out, HY.out]; rfl, by rw [HX.out]; exact (own_put10 HV9.out.1 (by omega) (.slice q1 n1 l1) (.slice q2 n2 l2) (.slice none 0 0) (.string Y.k) (.string Y.t) (.string Y.f) (.string Y.o) (.int .i64 Y.n) (.string Y.b) (.int .i64 0)).mono (by omega), by rw [HY.out]; exact (own_put10 HV9.out.2 (by omega) (.slice q1 n1 l1) (.slice q2 n2 l2) (.slice none 0 0) (.string Y.k) (.string Y.t) (.string Y.f) (.string Y.o) (.int .i64 Y.n) (.string Y.b) (.int .i64 0)).mono (by omega), ownC_nil _ _ _ _ _⟩, hBw⟩
set_option maxRecDepth 100000 in
set_option maxHeartbeats 8000000 in
theorem spec_rmessB1 (xs : List SeL) (ys : List MsL) (p1 p2 : Option Addr) (n1 n2 c1 c2 : Nat) (s : MsL) (w : World) (hx : xs.length = n1) (hy : ys.length = n2) (hn1 : n1 ≤ 1048576) (hn2 : n2 ≤ 1048576) (hw : SzS xs) (hw2 : SzM ys) (hs : s.le 1048576) (B0 : Nat) (hO1 : OwnC seC w B0 70 4 (.slice p1 n1 c1) xs) (hO2 : OwnC msC w B0 35 6 (.slice p2 n2 c2) ys) (hyes : routB kMess xs ys s = true) (hte : (s.t.toList == [101, 114, 114, 111, 114]) = false) (hr0 : ((resA s.o).toList == []) = false) (hon : onB (resA s.o) xs = false) (h2 : (s.t.toList == [104, 101, 97, 100, 108, 105, 110, 101]) = false) (h3 : (s.t.toList == [103, 114, 111, 117, 112, 99, 104, 97, 116]) = false) (h4 : (bestR xs).length ≠ 0) :
    Calls Tryz.prog 8 #[.agg #[.slice p1 n1 c1, .slice p2 n2 c2], .agg #[.string s.k, .string s.t, .string s.f, .string s.o, .int .i64 s.n, .string s.b]] w fun e w' => RoIs w.heap.size ⟨xs, ys, bestR xs, zMs, 0⟩ e w' ∧ Below w.heap.size w w' := by
  have hR1 := row_own9 hO1
  have hR2 := row_ownM hO2
  have HR := Lib.hid (rqb_start w p1 n1 c1 p2 n2 c2 s)
  have HP1 := Lib.hid (fun W (h : Below w.heap.size w W) => hR1.on h)
  have HP2 := Lib.hid (fun W (h : Below w.heap.size w W) => hR2.on h)
  have HO1 := Lib.hid (fun W (h : Below w.heap.size w W) => hO1.on h)
  have HO2 := Lib.hid (fun W (h : Below w.heap.size w W) => hO2.on h)
  have HX := Lib.hid hx
  have HY := Lib.hid hy
  have hmb : mbB xs ys = true := by unfold routB at hyes; simp only [Bool.and_eq_true] at hyes; exact hyes.1.1.1
  obtain ⟨hok, hn5, _⟩ := mb_parts hmb
  have i1 := fun W h1 h2 => spec_beginT kMess xs ys p1 p2 n1 n2 c1 c2 s W hx hy hn1 hn2 hw hw2 hs B0 h1 h2 hyes
  unfold kMess at i1
  obtain ⟨r, hr⟩ : ∃ r, resA s.o = r := ⟨_, rfl⟩
  rw [hr] at i1 hon hr0
  have hr1 : r.toList ≠ [] := by simpa using hr0
  have hr2 : r.toList.isEmpty = false := by simpa using hr1
  have i2 := fun W h => spec_on xs r p1 p2 n1 n2 c1 c2 W hx hok h
  rw [hon] at i2
  have i3 := fun W h => spec_l09best xs p1 c1 W hok h
  rw [hx] at i3
  obtain ⟨L, hL⟩ : ∃ L, bestR xs = L := ⟨_, rfl⟩
  unfold StIs at i3
  rw [hL] at i3
  rw [hL] at h4
  have H4 := Lib.hid h4
  have h5 : (0 : Int) < (L.length : Int) := by omega
  rw [hL]
  have HL := Lib.hid hL
  clear hx hy hw hw2 hR1 hR2 hO1 hO2 hyes hmb hok hn5 hr hs hL
  go_enter Tryz.func8, Tryz.ntmps8
  go_wp2_with (first
    | (go_at_call 25; have _ := HR2; go_fit (i3 _ (HP1.out _ HR2.out.2.2.2)); rintro e w3 ⟨⟨q3, l3, rfl, v3⟩, hb⟩; have HR3 := Lib.hid (HR2.out.on hb); have HE3 := Lib.hid (arr9_on HE2.out hb); have HV3 := Lib.hid (And.intro (HV2.out.1.on hb) (HV2.out.2.on hb)); have HT3 := Lib.hid (OwnC.mono v3 HR2.out.big); clear v3; clear hb; obtain ⟨⟨m0, m1⟩, _⟩ := arr9_two HR3.out.1; obtain ⟨⟨s0, s1, s2, s3, s4, s5⟩, _⟩ := arr_six0 HR3.out.2.1; obtain ⟨⟨r0, r1, r2, r3, r4, r5, r6, r7, r8, r9⟩, u0, u1, u2, u3, u4, u5, u6, u7, u8, u9⟩ := ten_all HR3.out.2.2.1; have hzA := arr9_lt HR3.out.1; have hzB := arr9_lt HR3.out.2.1; have hzC := arr9_lt HR3.out.2.2.1; obtain ⟨⟨e0, e1, e2, e3, e4, e5, e6, e7, e8, e9⟩, f0, f1, f2, f3, f4, f5, f6, f7, f8, f9⟩ := ten_all HE3.out; have hzE := arr9_lt HE3.out; have hb3 : w.heap.size + 3 ≤ w1.heap.size := HR1.out.big; have HR4 := Lib.hid (RqB.put HR3.out (b := w1.heap.size) (i := 2) (.slice q3 L.length l3) hb3); have HE4 := Lib.hid (HE3.out.put 2 (.slice q3 L.length l3)); have HV4 := Lib.hid (And.intro (own_cell10 (i := 2) (u := .slice q3 L.length l3) HV3.out.1 (own_ne10 HV3.out.1 HE3.out (by decide))) (own_cell10 (i := 2) (u := .slice q3 L.length l3) HV3.out.2 (own_ne10 HV3.out.2 HE3.out (by decide)))); have HT4 := Lib.hid (own_cell10 (i := 2) (u := .slice q3 L.length l3) HT3.out (own_ne10 HT3.out HE3.out (by decide))))
    | (go_at_call 24; go_fit (i2 _ (HP1.out _ HR1a.out.2.2.2)); rintro e w2 ⟨rfl, hb⟩; have HR2 := Lib.hid (HR1a.out.on hb); have HE2 := Lib.hid (arr9_on HE1a.out hb); have HV2 := Lib.hid (And.intro (HV1a.out.1.on hb) (HV1a.out.2.on hb)); clear hb; obtain ⟨⟨m0, m1⟩, _⟩ := arr9_two HR2.out.1; obtain ⟨⟨s0, s1, s2, s3, s4, s5⟩, _⟩ := arr_six0 HR2.out.2.1; obtain ⟨⟨r0, r1, r2, r3, r4, r5, r6, r7, r8, r9⟩, u0, u1, u2, u3, u4, u5, u6, u7, u8, u9⟩ := ten_all HR2.out.2.2.1; have hzA := arr9_lt HR2.out.1; have hzB := arr9_lt HR2.out.2.1; have hzC := arr9_lt HR2.out.2.2.1; obtain ⟨⟨e0, e1, e2, e3, e4, e5, e6, e7, e8, e9⟩, f0, f1, f2, f3, f4, f5, f6, f7, f8, f9⟩ := ten_all HE2.out; have hzE := arr9_lt HE2.out)
    | (go_at_call 23; go_fit (i1 _ (HO1.out _ HR.out.2.2.2) (HO2.out _ HR.out.2.2.2)); rintro e w1 ⟨⟨q1, l1, q2, l2, rfl, v1, v2⟩, hb⟩; have HR1 := Lib.hid (HR.out.on hb); have HR1a := Lib.hid (HR1.out.on ((Below.refl _ _).alloc (Nat.le_refl _) (.cells #[.slice q1 n1 l1, .slice q2 n2 l2, .slice none 0 0, .string ⟨#[]⟩, .string ⟨#[]⟩, .string ⟨#[]⟩, .string ⟨#[]⟩, .int .i64 0, .string ⟨#[]⟩, .int .i64 0] 37))); have HE1a := Lib.hid (Arr.fresh w1 37 [.slice q1 n1 l1, .slice q2 n2 l2, .slice none 0 0, .string ⟨#[]⟩, .string ⟨#[]⟩, .string ⟨#[]⟩, .string ⟨#[]⟩, .int .i64 0, .string ⟨#[]⟩, .int .i64 0]); have HV1 := Lib.hid (And.intro (v1.mono HR.out.big) (v2.mono HR.out.big)); have HV1a := Lib.hid (And.intro (HV1.out.1.alloc (.cells #[.slice q1 n1 l1, .slice q2 n2 l2, .slice none 0 0, .string ⟨#[]⟩, .string ⟨#[]⟩, .string ⟨#[]⟩, .string ⟨#[]⟩, .int .i64 0, .string ⟨#[]⟩, .int .i64 0] 37)) (HV1.out.2.alloc (.cells #[.slice q1 n1 l1, .slice q2 n2 l2, .slice none 0 0, .string ⟨#[]⟩, .string ⟨#[]⟩, .string ⟨#[]⟩, .string ⟨#[]⟩, .int .i64 0, .string ⟨#[]⟩, .int .i64 0] 37))); clear hb v1 v2; obtain ⟨⟨m0, m1⟩, _⟩ := arr9_two HR1.out.1; obtain ⟨⟨s0, s1, s2, s3, s4, s5⟩, _⟩ := arr_six0 HR1.out.2.1; obtain ⟨⟨r0, r1, r2, r3, r4, r5, r6, r7, r8, r9⟩, u0, u1, u2, u3, u4, u5, u6, u7, u8, u9⟩ := ten_all HR1.out.2.2.1; have hzA := arr9_lt HR1.out.1; have hzB := arr9_lt HR1.out.2.1; have hzC := arr9_lt HR1.out.2.2.1))
  have hb3 : w.heap.size + 3 ≤ w1.heap.size := HR1.out.big
  have hA := arr_put10 HR4.out.2.2.1 (.slice q1 n1 l1) (.slice q2 n2 l2) (.slice q3 L.length l3) (.string ⟨#[]⟩) (.string ⟨#[]⟩) (.string ⟨#[]⟩) (.string ⟨#[]⟩) (.int .i64 0) (.string ⟨#[]⟩) (.int .i64 0)
  have hBw := below_put10 HR4.out.2.2.2 (show w.heap.size ≤ w.heap.size + 1 + 1 by omega) (.slice q1 n1 l1) (.slice q2 n2 l2) (.slice q3 L.length l3) (.string ⟨#[]⟩) (.string ⟨#[]⟩) (.string ⟨#[]⟩) (.string ⟨#[]⟩) (.int .i64 0) (.string ⟨#[]⟩) (.int .i64 0)
  exact bodyPost_ret (v := .agg #[.slice q1 n1 l1, .slice q2 n2 l2, .slice q3 L.length l3, .string ⟨#[]⟩, .string ⟨#[]⟩, .string ⟨#[]⟩, .string ⟨#[]⟩, .int .i64 0, .string ⟨#[]⟩, .int .i64 0]) (results_cell_row (P := Tryz.prog) Tryz.results8 _ _ (w.heap.size + 1 + 1) 37 _ (0, 0) _ rfl hA Tryz.underlying37 rfl (by kernel_rfl)) rfl ⟨⟨q1, l1, q2, l2, q3, l3, by unfold roV; rw [HX.out, HY.out]; rfl, by rw [HX.out]; exact (own_put10 HV4.out.1 (by omega) (.slice q1 n1 l1) (.slice q2 n2 l2) (.slice q3 L.length l3) (.string ⟨#[]⟩) (.string ⟨#[]⟩) (.string ⟨#[]⟩) (.string ⟨#[]⟩) (.int .i64 0) (.string ⟨#[]⟩) (.int .i64 0)).mono (by omega), by rw [HY.out]; exact (own_put10 HV4.out.2 (by omega) (.slice q1 n1 l1) (.slice q2 n2 l2) (.slice q3 L.length l3) (.string ⟨#[]⟩) (.string ⟨#[]⟩) (.string ⟨#[]⟩) (.string ⟨#[]⟩) (.int .i64 0) (.string ⟨#[]⟩) (.int .i64 0)).mono (by omega), (own_put10 HT4.out (by omega) (.slice q1 n1 l1) (.slice q2 n2 l2) (.slice q3 L.length l3) (.string ⟨#[]⟩) (.string ⟨#[]⟩) (.string ⟨#[]⟩) (.string ⟨#[]⟩) (.int .i64 0) (.string ⟨#[]⟩) (.int .i64 0)).mono (by omega)⟩, hBw⟩
set_option maxRecDepth 100000 in
set_option maxHeartbeats 8000000 in
theorem spec_rmessF1 (xs : List SeL) (ys : List MsL) (p1 p2 : Option Addr) (n1 n2 c1 c2 : Nat) (s : MsL) (w : World) (hx : xs.length = n1) (hy : ys.length = n2) (hn1 : n1 ≤ 1048576) (hn2 : n2 ≤ 1048576) (hw : SzS xs) (hw2 : SzM ys) (hs : s.le 1048576) (B0 : Nat) (hO1 : OwnC seC w B0 70 4 (.slice p1 n1 c1) xs) (hO2 : OwnC msC w B0 35 6 (.slice p2 n2 c2) ys) (hyes : routB kMess xs ys s = true) (hte : (s.t.toList == [101, 114, 114, 111, 114]) = false) (hr0 : ((resA s.o).toList == []) = false) (hon : onB (resA s.o) xs = false) (h2 : (s.t.toList == [104, 101, 97, 100, 108, 105, 110, 101]) = false) (h3 : (s.t.toList == [103, 114, 111, 117, 112, 99, 104, 97, 116]) = false) (h4 : (bestR xs).length = 0) (h6 : 5 ≤ n2) :
    Calls Tryz.prog 8 #[.agg #[.slice p1 n1 c1, .slice p2 n2 c2], .agg #[.string s.k, .string s.t, .string s.f, .string s.o, .int .i64 s.n, .string s.b]] w fun e w' => RoIs w.heap.size ⟨xs, ys, bestR xs, fltM s fullS, 0⟩ e w' ∧ Below w.heap.size w w' := by
  have hR1 := row_own9 hO1
  have hR2 := row_ownM hO2
  have HR := Lib.hid (rqb_start w p1 n1 c1 p2 n2 c2 s)
  have HP1 := Lib.hid (fun W (h : Below w.heap.size w W) => hR1.on h)
  have HP2 := Lib.hid (fun W (h : Below w.heap.size w W) => hR2.on h)
  have HO1 := Lib.hid (fun W (h : Below w.heap.size w W) => hO1.on h)
  have HO2 := Lib.hid (fun W (h : Below w.heap.size w W) => hO2.on h)
  have HX := Lib.hid hx
  have HY := Lib.hid hy
  have hmb : mbB xs ys = true := by unfold routB at hyes; simp only [Bool.and_eq_true] at hyes; exact hyes.1.1.1
  obtain ⟨hok, hn5, _⟩ := mb_parts hmb
  have i1 := fun W h1 h2 => spec_beginT kMess xs ys p1 p2 n1 n2 c1 c2 s W hx hy hn1 hn2 hw hw2 hs B0 h1 h2 hyes
  unfold kMess at i1
  obtain ⟨r, hr⟩ : ∃ r, resA s.o = r := ⟨_, rfl⟩
  rw [hr] at i1 hon hr0
  have hr1 : r.toList ≠ [] := by simpa using hr0
  have hr2 : r.toList.isEmpty = false := by simpa using hr1
  have i2 := fun W h => spec_on xs r p1 p2 n1 n2 c1 c2 W hx hok h
  rw [hon] at i2
  have i3 := fun W h => spec_l09best xs p1 c1 W hok h
  rw [hx] at i3
  obtain ⟨L, hL⟩ : ∃ L, bestR xs = L := ⟨_, rfl⟩
  unfold StIs at i3
  rw [hL] at i3
  have i4 := fun W => spec_fault s.k s.t s.f s.o s.n s.b fullS W (by have := hs.2.1; unfold maxLen; omega) (by have := hs.2.2.1; omega) (by have := hs.2.2.2.1; omega) (by have := hs.2.2.2.2; unfold maxLen; omega) (by rw [show fullS.size = _ from rfl]; first | done | (unfold maxLen; decide))
  simp only [fltV_M] at i4
  obtain ⟨Y, hY⟩ : ∃ Y, fltM s fullS = Y := ⟨_, rfl⟩
  rw [hY] at i4
  unfold msV fullS at i4
  rw [hL] at h4
  rw [h4] at i3
  have H4 := Lib.hid h4
  clear h4
  have h7 : (5 : Int) ≤ (n2 : Int) := by omega
  rw [hL]
  rw [hY]
  have HL := Lib.hid hL
  clear hx hy hw hw2 hR1 hR2 hO1 hO2 hyes hmb hok hn5 hr hs hL hY
  go_enter Tryz.func8, Tryz.ntmps8
  go_wp2_with (first
    | (go_at_call 26; have _ := HR4; go_fit (i4 _); rintro e w5 ⟨rfl, hb⟩; have HR5 := Lib.hid (HR4.out.on hb); have HE5 := Lib.hid (arr9_on HE4.out hb); have HV5 := Lib.hid (And.intro (HV4.out.1.on hb) (HV4.out.2.on hb)); have HT5 := Lib.hid (HT4.out.on hb); clear hb; obtain ⟨⟨m0, m1⟩, _⟩ := arr9_two HR5.out.1; obtain ⟨⟨s0, s1, s2, s3, s4, s5⟩, _⟩ := arr_six0 HR5.out.2.1; obtain ⟨⟨r0, r1, r2, r3, r4, r5, r6, r7, r8, r9⟩, u0, u1, u2, u3, u4, u5, u6, u7, u8, u9⟩ := ten_all HR5.out.2.2.1; have hzA := arr9_lt HR5.out.1; have hzB := arr9_lt HR5.out.2.1; have hzC := arr9_lt HR5.out.2.2.1; obtain ⟨⟨e0, e1, e2, e3, e4, e5, e6, e7, e8, e9⟩, f0, f1, f2, f3, f4, f5, f6, f7, f8, f9⟩ := ten_all HE5.out; have hzE := arr9_lt HE5.out)
    | (go_at_call 25; have _ := HR2; go_fit (i3 _ (HP1.out _ HR2.out.2.2.2)); rintro e w3 ⟨⟨q3, l3, rfl, v3⟩, hb⟩; have HR3 := Lib.hid (HR2.out.on hb); have HE3 := Lib.hid (arr9_on HE2.out hb); have HV3 := Lib.hid (And.intro (HV2.out.1.on hb) (HV2.out.2.on hb)); have HT3 := Lib.hid (OwnC.mono v3 HR2.out.big); clear v3; clear hb; obtain ⟨⟨m0, m1⟩, _⟩ := arr9_two HR3.out.1; obtain ⟨⟨s0, s1, s2, s3, s4, s5⟩, _⟩ := arr_six0 HR3.out.2.1; obtain ⟨⟨r0, r1, r2, r3, r4, r5, r6, r7, r8, r9⟩, u0, u1, u2, u3, u4, u5, u6, u7, u8, u9⟩ := ten_all HR3.out.2.2.1; have hzA := arr9_lt HR3.out.1; have hzB := arr9_lt HR3.out.2.1; have hzC := arr9_lt HR3.out.2.2.1; obtain ⟨⟨e0, e1, e2, e3, e4, e5, e6, e7, e8, e9⟩, f0, f1, f2, f3, f4, f5, f6, f7, f8, f9⟩ := ten_all HE3.out; have hzE := arr9_lt HE3.out; have hb3 : w.heap.size + 3 ≤ w1.heap.size := HR1.out.big; have HR4 := Lib.hid (RqB.put HR3.out (b := w1.heap.size) (i := 2) (.slice q3 0 l3) hb3); have HE4 := Lib.hid (HE3.out.put 2 (.slice q3 0 l3)); have HV4 := Lib.hid (And.intro (own_cell10 (i := 2) (u := .slice q3 0 l3) HV3.out.1 (own_ne10 HV3.out.1 HE3.out (by decide))) (own_cell10 (i := 2) (u := .slice q3 0 l3) HV3.out.2 (own_ne10 HV3.out.2 HE3.out (by decide)))); have HT4 := Lib.hid (own_cell10 (i := 2) (u := .slice q3 0 l3) HT3.out (own_ne10 HT3.out HE3.out (by decide))))
    | (go_at_call 24; go_fit (i2 _ (HP1.out _ HR1a.out.2.2.2)); rintro e w2 ⟨rfl, hb⟩; have HR2 := Lib.hid (HR1a.out.on hb); have HE2 := Lib.hid (arr9_on HE1a.out hb); have HV2 := Lib.hid (And.intro (HV1a.out.1.on hb) (HV1a.out.2.on hb)); clear hb; obtain ⟨⟨m0, m1⟩, _⟩ := arr9_two HR2.out.1; obtain ⟨⟨s0, s1, s2, s3, s4, s5⟩, _⟩ := arr_six0 HR2.out.2.1; obtain ⟨⟨r0, r1, r2, r3, r4, r5, r6, r7, r8, r9⟩, u0, u1, u2, u3, u4, u5, u6, u7, u8, u9⟩ := ten_all HR2.out.2.2.1; have hzA := arr9_lt HR2.out.1; have hzB := arr9_lt HR2.out.2.1; have hzC := arr9_lt HR2.out.2.2.1; obtain ⟨⟨e0, e1, e2, e3, e4, e5, e6, e7, e8, e9⟩, f0, f1, f2, f3, f4, f5, f6, f7, f8, f9⟩ := ten_all HE2.out; have hzE := arr9_lt HE2.out)
    | (go_at_call 23; go_fit (i1 _ (HO1.out _ HR.out.2.2.2) (HO2.out _ HR.out.2.2.2)); rintro e w1 ⟨⟨q1, l1, q2, l2, rfl, v1, v2⟩, hb⟩; have HR1 := Lib.hid (HR.out.on hb); have HR1a := Lib.hid (HR1.out.on ((Below.refl _ _).alloc (Nat.le_refl _) (.cells #[.slice q1 n1 l1, .slice q2 n2 l2, .slice none 0 0, .string ⟨#[]⟩, .string ⟨#[]⟩, .string ⟨#[]⟩, .string ⟨#[]⟩, .int .i64 0, .string ⟨#[]⟩, .int .i64 0] 37))); have HE1a := Lib.hid (Arr.fresh w1 37 [.slice q1 n1 l1, .slice q2 n2 l2, .slice none 0 0, .string ⟨#[]⟩, .string ⟨#[]⟩, .string ⟨#[]⟩, .string ⟨#[]⟩, .int .i64 0, .string ⟨#[]⟩, .int .i64 0]); have HV1 := Lib.hid (And.intro (v1.mono HR.out.big) (v2.mono HR.out.big)); have HV1a := Lib.hid (And.intro (HV1.out.1.alloc (.cells #[.slice q1 n1 l1, .slice q2 n2 l2, .slice none 0 0, .string ⟨#[]⟩, .string ⟨#[]⟩, .string ⟨#[]⟩, .string ⟨#[]⟩, .int .i64 0, .string ⟨#[]⟩, .int .i64 0] 37)) (HV1.out.2.alloc (.cells #[.slice q1 n1 l1, .slice q2 n2 l2, .slice none 0 0, .string ⟨#[]⟩, .string ⟨#[]⟩, .string ⟨#[]⟩, .string ⟨#[]⟩, .int .i64 0, .string ⟨#[]⟩, .int .i64 0] 37))); clear hb v1 v2; obtain ⟨⟨m0, m1⟩, _⟩ := arr9_two HR1.out.1; obtain ⟨⟨s0, s1, s2, s3, s4, s5⟩, _⟩ := arr_six0 HR1.out.2.1; obtain ⟨⟨r0, r1, r2, r3, r4, r5, r6, r7, r8, r9⟩, u0, u1, u2, u3, u4, u5, u6, u7, u8, u9⟩ := ten_all HR1.out.2.2.1; have hzA := arr9_lt HR1.out.1; have hzB := arr9_lt HR1.out.2.1; have hzC := arr9_lt HR1.out.2.2.1))
  have hb3 : w.heap.size + 3 ≤ w1.heap.size := HR1.out.big
  have HR9 := Lib.hid (RqB.put6b HR5.out (b := w1.heap.size) hb3 (.string Y.k) (.string Y.t) (.string Y.f) (.string Y.o) (.int .i64 Y.n) (.string Y.b)); have HE9 := Lib.hid ((((((HE5.out.put 3 (.string Y.k)).put 4 (.string Y.t)).put 5 (.string Y.f)).put 6 (.string Y.o)).put 7 (.int .i64 Y.n)).put 8 (.string Y.b)); have HV9 := Lib.hid (And.intro (own_put6b HV5.out.1 (own_ne10 HV5.out.1 HE5.out (by decide)) (.string Y.k) (.string Y.t) (.string Y.f) (.string Y.o) (.int .i64 Y.n) (.string Y.b)) (own_put6b HV5.out.2 (own_ne10 HV5.out.2 HE5.out (by decide)) (.string Y.k) (.string Y.t) (.string Y.f) (.string Y.o) (.int .i64 Y.n) (.string Y.b))); have HT9 := Lib.hid (own_put6b HT5.out (own_ne10 HT5.out HE5.out (by decide)) (.string Y.k) (.string Y.t) (.string Y.f) (.string Y.o) (.int .i64 Y.n) (.string Y.b))
  have hA := arr_put10 HR9.out.2.2.1 (.slice q1 n1 l1) (.slice q2 n2 l2) (.slice q3 0 l3) (.string Y.k) (.string Y.t) (.string Y.f) (.string Y.o) (.int .i64 Y.n) (.string Y.b) (.int .i64 0)
  have hBw := below_put10 HR9.out.2.2.2 (show w.heap.size ≤ w.heap.size + 1 + 1 by omega) (.slice q1 n1 l1) (.slice q2 n2 l2) (.slice q3 0 l3) (.string Y.k) (.string Y.t) (.string Y.f) (.string Y.o) (.int .i64 Y.n) (.string Y.b) (.int .i64 0)
  exact bodyPost_ret (v := .agg #[.slice q1 n1 l1, .slice q2 n2 l2, .slice q3 0 l3, .string Y.k, .string Y.t, .string Y.f, .string Y.o, .int .i64 Y.n, .string Y.b, .int .i64 0]) (results_cell_row (P := Tryz.prog) Tryz.results8 _ _ (w.heap.size + 1 + 1) 37 _ (0, 0) _ rfl hA Tryz.underlying37 rfl (by kernel_rfl)) rfl ⟨⟨q1, l1, q2, l2, q3, l3, by unfold roV; rw [HX.out, HY.out, H4.out]; try rfl, by rw [HX.out]; exact (own_put10 HV9.out.1 (by omega) (.slice q1 n1 l1) (.slice q2 n2 l2) (.slice q3 0 l3) (.string Y.k) (.string Y.t) (.string Y.f) (.string Y.o) (.int .i64 Y.n) (.string Y.b) (.int .i64 0)).mono (by omega), by rw [HY.out]; exact (own_put10 HV9.out.2 (by omega) (.slice q1 n1 l1) (.slice q2 n2 l2) (.slice q3 0 l3) (.string Y.k) (.string Y.t) (.string Y.f) (.string Y.o) (.int .i64 Y.n) (.string Y.b) (.int .i64 0)).mono (by omega), by rw [H4.out]; exact (own_put10 HT9.out (by omega) (.slice q1 n1 l1) (.slice q2 n2 l2) (.slice q3 0 l3) (.string Y.k) (.string Y.t) (.string Y.f) (.string Y.o) (.int .i64 Y.n) (.string Y.b) (.int .i64 0)).mono (by omega)⟩, hBw⟩
set_option maxRecDepth 100000 in
set_option maxHeartbeats 8000000 in
theorem spec_rmessK1 (xs : List SeL) (ys : List MsL) (p1 p2 : Option Addr) (n1 n2 c1 c2 : Nat) (s : MsL) (w : World) (hx : xs.length = n1) (hy : ys.length = n2) (hn1 : n1 ≤ 1048576) (hn2 : n2 ≤ 1048576) (hw : SzS xs) (hw2 : SzM ys) (hs : s.le 1048576) (B0 : Nat) (hO1 : OwnC seC w B0 70 4 (.slice p1 n1 c1) xs) (hO2 : OwnC msC w B0 35 6 (.slice p2 n2 c2) ys) (hyes : routB kMess xs ys s = true) (hte : (s.t.toList == [101, 114, 114, 111, 114]) = false) (hr0 : ((resA s.o).toList == []) = false) (hon : onB (resA s.o) xs = false) (h2 : (s.t.toList == [104, 101, 97, 100, 108, 105, 110, 101]) = false) (h3 : (s.t.toList == [103, 114, 111, 117, 112, 99, 104, 97, 116]) = false) (h4 : (bestR xs).length = 0) (h6 : n2 < 5) :
    Calls Tryz.prog 8 #[.agg #[.slice p1 n1 c1, .slice p2 n2 c2], .agg #[.string s.k, .string s.t, .string s.f, .string s.o, .int .i64 s.n, .string s.b]] w fun e w' => RoIs w.heap.size ⟨xs, ys ++ [s], bestR xs, zMs, 0⟩ e w' ∧ Below w.heap.size w w' := by
  have hR1 := row_own9 hO1
  have hR2 := row_ownM hO2
  have HR := Lib.hid (rqb_start w p1 n1 c1 p2 n2 c2 s)
  have HP1 := Lib.hid (fun W (h : Below w.heap.size w W) => hR1.on h)
  have HP2 := Lib.hid (fun W (h : Below w.heap.size w W) => hR2.on h)
  have HO1 := Lib.hid (fun W (h : Below w.heap.size w W) => hO1.on h)
  have HO2 := Lib.hid (fun W (h : Below w.heap.size w W) => hO2.on h)
  have HX := Lib.hid hx
  have HY := Lib.hid hy
  have hmb : mbB xs ys = true := by unfold routB at hyes; simp only [Bool.and_eq_true] at hyes; exact hyes.1.1.1
  obtain ⟨hok, hn5, _⟩ := mb_parts hmb
  have i1 := fun W h1 h2 => spec_beginT kMess xs ys p1 p2 n1 n2 c1 c2 s W hx hy hn1 hn2 hw hw2 hs B0 h1 h2 hyes
  unfold kMess at i1
  obtain ⟨r, hr⟩ : ∃ r, resA s.o = r := ⟨_, rfl⟩
  rw [hr] at i1 hon hr0
  have hr1 : r.toList ≠ [] := by simpa using hr0
  have hr2 : r.toList.isEmpty = false := by simpa using hr1
  have i2 := fun W h => spec_on xs r p1 p2 n1 n2 c1 c2 W hx hok h
  rw [hon] at i2
  have i3 := fun W h => spec_l09best xs p1 c1 W hok h
  rw [hx] at i3
  obtain ⟨L, hL⟩ : ∃ L, bestR xs = L := ⟨_, rfl⟩
  unfold StIs at i3
  rw [hL] at i3
  rw [hL] at h4
  rw [h4] at i3
  have H4 := Lib.hid h4
  clear h4
  have h7 : (n2 : Int) < 5 := by omega
  rw [hL]
  have HL := Lib.hid hL
  have hy5 : ys.length ≤ 1000000 := by omega
  clear hx hy hw hw2 hR1 hR2 hO1 hO2 hyes hmb hok hn5 hr hs hL
  go_enter Tryz.func8, Tryz.ntmps8
  go_wp2_with (first
    | (at_builtin; have _ := HR4; refine wpList_app_oneM rfl _ _ rfl (w.heap.size + 3) _ ys rfl (HV4.out.2.alloc (.cells #[.string s.k, .string s.t, .string s.f, .string s.o, .int .i64 s.n, .string s.b] 35)) w3.heap.size s rfl (by have h := Arr.fresh (w3.setCell ⟨w1.heap.size, 2, none⟩ (.slice q3 0 l3)) 35 (msC s); rw [World.size_setCell] at h; exact h) hy5 (by have := HR4.out.big; rw [World.size_alloc]; omega) ?_; intro v7 w7 hv hg; obtain ⟨q4, l4, e4⟩ := own_shape10 hv (n := n2 + 1) (by rw [List.length_append, HY.out]; rfl); subst e4; have hHRa := HR4.out.on ((Below.refl _ _).alloc (Nat.le_refl _) (.cells #[.string s.k, .string s.t, .string s.f, .string s.o, .int .i64 s.n, .string s.b] 35)); have hHEa := arr9_on HE4.out ((Below.refl _ _).alloc (Nat.le_refl _) (.cells #[.string s.k, .string s.t, .string s.f, .string s.o, .int .i64 s.n, .string s.b] 35)); have hV1a := HV4.out.1.alloc (.cells #[.string s.k, .string s.t, .string s.f, .string s.o, .int .i64 s.n, .string s.b] 35); have hV2a := HV4.out.2.alloc (.cells #[.string s.k, .string s.t, .string s.f, .string s.o, .int .i64 s.n, .string s.b] 35); have hTa := HT4.out.alloc (.cells #[.string s.k, .string s.t, .string s.f, .string s.o, .int .i64 s.n, .string s.b] 35); have HR7 := Lib.hid (hHRa.grow hg (fun q hq => (own_ltT hV2a q hq).1)); have HE7 := Lib.hid (arr_beside10 hHEa hg (own_ne10 hV2a hHEa (by decide))); have HV7 := Lib.hid (And.intro (own_beside hV1a hg (own_two hV2a hV1a (by decide))) hv); have HT7 := Lib.hid (own_beside hTa hg (own_two hV2a hTa (by decide))); clear hv hg hHRa hHEa hV1a hV2a hTa; obtain ⟨⟨m0, m1⟩, _⟩ := arr9_two HR7.out.1; obtain ⟨⟨s0, s1, s2, s3, s4, s5⟩, _⟩ := arr_six0 HR7.out.2.1; obtain ⟨⟨r0, r1, r2, r3, r4, r5, r6, r7, r8, r9⟩, u0, u1, u2, u3, u4, u5, u6, u7, u8, u9⟩ := ten_all HR7.out.2.2.1; have hzA := arr9_lt HR7.out.1; have hzB := arr9_lt HR7.out.2.1; have hzC := arr9_lt HR7.out.2.2.1; obtain ⟨⟨e0, e1, e2, e3, e4, e5, e6, e7, e8, e9⟩, f0, f1, f2, f3, f4, f5, f6, f7, f8, f9⟩ := ten_all HE7.out; have hzE := arr9_lt HE7.out)
    | (go_at_call 25; have _ := HR2; go_fit (i3 _ (HP1.out _ HR2.out.2.2.2)); rintro e w3 ⟨⟨q3, l3, rfl, v3⟩, hb⟩; have HR3 := Lib.hid (HR2.out.on hb); have HE3 := Lib.hid (arr9_on HE2.out hb); have HV3 := Lib.hid (And.intro (HV2.out.1.on hb) (HV2.out.2.on hb)); have HT3 := Lib.hid (OwnC.mono v3 HR2.out.big); clear v3; clear hb; obtain ⟨⟨m0, m1⟩, _⟩ := arr9_two HR3.out.1; obtain ⟨⟨s0, s1, s2, s3, s4, s5⟩, _⟩ := arr_six0 HR3.out.2.1; obtain ⟨⟨r0, r1, r2, r3, r4, r5, r6, r7, r8, r9⟩, u0, u1, u2, u3, u4, u5, u6, u7, u8, u9⟩ := ten_all HR3.out.2.2.1; have hzA := arr9_lt HR3.out.1; have hzB := arr9_lt HR3.out.2.1; have hzC := arr9_lt HR3.out.2.2.1; obtain ⟨⟨e0, e1, e2, e3, e4, e5, e6, e7, e8, e9⟩, f0, f1, f2, f3, f4, f5, f6, f7, f8, f9⟩ := ten_all HE3.out; have hzE := arr9_lt HE3.out; have hb3 : w.heap.size + 3 ≤ w1.heap.size := HR1.out.big; have HR4 := Lib.hid (RqB.put HR3.out (b := w1.heap.size) (i := 2) (.slice q3 0 l3) hb3); have HE4 := Lib.hid (HE3.out.put 2 (.slice q3 0 l3)); have HV4 := Lib.hid (And.intro (own_cell10 (i := 2) (u := .slice q3 0 l3) HV3.out.1 (own_ne10 HV3.out.1 HE3.out (by decide))) (own_cell10 (i := 2) (u := .slice q3 0 l3) HV3.out.2 (own_ne10 HV3.out.2 HE3.out (by decide)))); have HT4 := Lib.hid (own_cell10 (i := 2) (u := .slice q3 0 l3) HT3.out (own_ne10 HT3.out HE3.out (by decide))))
    | (go_at_call 24; go_fit (i2 _ (HP1.out _ HR1a.out.2.2.2)); rintro e w2 ⟨rfl, hb⟩; have HR2 := Lib.hid (HR1a.out.on hb); have HE2 := Lib.hid (arr9_on HE1a.out hb); have HV2 := Lib.hid (And.intro (HV1a.out.1.on hb) (HV1a.out.2.on hb)); clear hb; obtain ⟨⟨m0, m1⟩, _⟩ := arr9_two HR2.out.1; obtain ⟨⟨s0, s1, s2, s3, s4, s5⟩, _⟩ := arr_six0 HR2.out.2.1; obtain ⟨⟨r0, r1, r2, r3, r4, r5, r6, r7, r8, r9⟩, u0, u1, u2, u3, u4, u5, u6, u7, u8, u9⟩ := ten_all HR2.out.2.2.1; have hzA := arr9_lt HR2.out.1; have hzB := arr9_lt HR2.out.2.1; have hzC := arr9_lt HR2.out.2.2.1; obtain ⟨⟨e0, e1, e2, e3, e4, e5, e6, e7, e8, e9⟩, f0, f1, f2, f3, f4, f5, f6, f7, f8, f9⟩ := ten_all HE2.out; have hzE := arr9_lt HE2.out)
    | (go_at_call 23; go_fit (i1 _ (HO1.out _ HR.out.2.2.2) (HO2.out _ HR.out.2.2.2)); rintro e w1 ⟨⟨q1, l1, q2, l2, rfl, v1, v2⟩, hb⟩; have HR1 := Lib.hid (HR.out.on hb); have HR1a := Lib.hid (HR1.out.on ((Below.refl _ _).alloc (Nat.le_refl _) (.cells #[.slice q1 n1 l1, .slice q2 n2 l2, .slice none 0 0, .string ⟨#[]⟩, .string ⟨#[]⟩, .string ⟨#[]⟩, .string ⟨#[]⟩, .int .i64 0, .string ⟨#[]⟩, .int .i64 0] 37))); have HE1a := Lib.hid (Arr.fresh w1 37 [.slice q1 n1 l1, .slice q2 n2 l2, .slice none 0 0, .string ⟨#[]⟩, .string ⟨#[]⟩, .string ⟨#[]⟩, .string ⟨#[]⟩, .int .i64 0, .string ⟨#[]⟩, .int .i64 0]); have HV1 := Lib.hid (And.intro (v1.mono HR.out.big) (v2.mono HR.out.big)); have HV1a := Lib.hid (And.intro (HV1.out.1.alloc (.cells #[.slice q1 n1 l1, .slice q2 n2 l2, .slice none 0 0, .string ⟨#[]⟩, .string ⟨#[]⟩, .string ⟨#[]⟩, .string ⟨#[]⟩, .int .i64 0, .string ⟨#[]⟩, .int .i64 0] 37)) (HV1.out.2.alloc (.cells #[.slice q1 n1 l1, .slice q2 n2 l2, .slice none 0 0, .string ⟨#[]⟩, .string ⟨#[]⟩, .string ⟨#[]⟩, .string ⟨#[]⟩, .int .i64 0, .string ⟨#[]⟩, .int .i64 0] 37))); clear hb v1 v2; obtain ⟨⟨m0, m1⟩, _⟩ := arr9_two HR1.out.1; obtain ⟨⟨s0, s1, s2, s3, s4, s5⟩, _⟩ := arr_six0 HR1.out.2.1; obtain ⟨⟨r0, r1, r2, r3, r4, r5, r6, r7, r8, r9⟩, u0, u1, u2, u3, u4, u5, u6, u7, u8, u9⟩ := ten_all HR1.out.2.2.1; have hzA := arr9_lt HR1.out.1; have hzB := arr9_lt HR1.out.2.1; have hzC := arr9_lt HR1.out.2.2.1))
  have hb3 : w.heap.size + 3 ≤ w1.heap.size := HR1.out.big
  have HR9 := Lib.hid (RqB.put HR7.out (b := w1.heap.size) (i := 1) (.slice q4 (n2 + 1) l4) hb3); have HE9 := Lib.hid (HE7.out.put 1 (.slice q4 (n2 + 1) l4)); have HV9 := Lib.hid (And.intro (own_cell10 (i := 1) (u := .slice q4 (n2 + 1) l4) HV7.out.1 (own_ne10 HV7.out.1 HE7.out (by decide))) (own_cell10 (i := 1) (u := .slice q4 (n2 + 1) l4) HV7.out.2 (own_ne10 HV7.out.2 HE7.out (by decide)))); have HT9 := Lib.hid (own_cell10 (i := 1) (u := .slice q4 (n2 + 1) l4) HT7.out (own_ne10 HT7.out HE7.out (by decide)))
  have hyl : (ys ++ [s]).length = n2 + 1 := by rw [List.length_append, HY.out]; rfl
  have hA := arr_put10 HR9.out.2.2.1 (.slice q1 n1 l1) (.slice q4 (n2 + 1) l4) (.slice q3 0 l3) (.string ⟨#[]⟩) (.string ⟨#[]⟩) (.string ⟨#[]⟩) (.string ⟨#[]⟩) (.int .i64 0) (.string ⟨#[]⟩) (.int .i64 0)
  have hBw := below_put10 HR9.out.2.2.2 (show w.heap.size ≤ w.heap.size + 1 + 1 by omega) (.slice q1 n1 l1) (.slice q4 (n2 + 1) l4) (.slice q3 0 l3) (.string ⟨#[]⟩) (.string ⟨#[]⟩) (.string ⟨#[]⟩) (.string ⟨#[]⟩) (.int .i64 0) (.string ⟨#[]⟩) (.int .i64 0)
  exact bodyPost_ret (v := .agg #[.slice q1 n1 l1, .slice q4 (n2 + 1) l4, .slice q3 0 l3, .string ⟨#[]⟩, .string ⟨#[]⟩, .string ⟨#[]⟩, .string ⟨#[]⟩, .int .i64 0, .string ⟨#[]⟩, .int .i64 0]) (results_cell_row (P := Tryz.prog) Tryz.results8 _ _ (w.heap.size + 1 + 1) 37 _ (0, 0) _ rfl hA Tryz.underlying37 rfl (by kernel_rfl)) rfl ⟨⟨q1, l1, q4, l4, q3, l3, by unfold roV; rw [HX.out, hyl, H4.out]; try rfl, by rw [HX.out]; exact (own_put10 HV9.out.1 (by omega) (.slice q1 n1 l1) (.slice q4 (n2 + 1) l4) (.slice q3 0 l3) (.string ⟨#[]⟩) (.string ⟨#[]⟩) (.string ⟨#[]⟩) (.string ⟨#[]⟩) (.int .i64 0) (.string ⟨#[]⟩) (.int .i64 0)).mono (by omega), by rw [hyl]; exact (own_put10 HV9.out.2 (by omega) (.slice q1 n1 l1) (.slice q4 (n2 + 1) l4) (.slice q3 0 l3) (.string ⟨#[]⟩) (.string ⟨#[]⟩) (.string ⟨#[]⟩) (.string ⟨#[]⟩) (.int .i64 0) (.string ⟨#[]⟩) (.int .i64 0)).mono (by omega), by rw [H4.out]; exact (own_put10 HT9.out (by omega) (.slice q1 n1 l1) (.slice q4 (n2 + 1) l4) (.slice q3 0 l3) (.string ⟨#[]⟩) (.string ⟨#[]⟩) (.string ⟨#[]⟩) (.string ⟨#[]⟩) (.int .i64 0) (.string ⟨#[]⟩) (.int .i64 0)).mono (by omega)⟩, hBw⟩
set_option maxRecDepth 100000 in
set_option maxHeartbeats 8000000 in
theorem spec_riqO (xs : List SeL) (ys : List MsL) (p1 p2 : Option Addr) (n1 n2 c1 c2 : Nat) (s : MsL) (w : World) (hx : xs.length = n1) (hy : ys.length = n2) (hn1 : n1 ≤ 1048576) (hn2 : n2 ≤ 1048576) (hw : SzS xs) (hw2 : SzM ys) (hs : s.le 1048576) (B0 : Nat) (hO1 : OwnC seC w B0 70 4 (.slice p1 n1 c1) xs) (hO2 : OwnC msC w B0 35 6 (.slice p2 n2 c2) ys) (hyes : routB kIq xs ys s = true) (hon : hereB (resA s.o) xs = true) (hr0 : ((resA s.o).toList == []) = false) :
    Calls Tryz.prog 17 #[.agg #[.slice p1 n1 c1, .slice p2 n2 c2], .agg #[.string s.k, .string s.t, .string s.f, .string s.o, .int .i64 s.n, .string s.b]] w fun e w' => RoIs w.heap.size ⟨xs, ys, [resA s.o], zMs, 0⟩ e w' ∧ Below w.heap.size w w' := by
  have hR1 := row_own9 hO1
  have hR2 := row_ownM hO2
  have HR := Lib.hid (rqb_start w p1 n1 c1 p2 n2 c2 s)
  have HP1 := Lib.hid (fun W (h : Below w.heap.size w W) => hR1.on h)
  have HP2 := Lib.hid (fun W (h : Below w.heap.size w W) => hR2.on h)
  have HO1 := Lib.hid (fun W (h : Below w.heap.size w W) => hO1.on h)
  have HO2 := Lib.hid (fun W (h : Below w.heap.size w W) => hO2.on h)
  have HX := Lib.hid hx
  have HY := Lib.hid hy
  have hmb : mbB xs ys = true := by unfold routB at hyes; simp only [Bool.and_eq_true] at hyes; exact hyes.1.1.1
  obtain ⟨hok, hn5, _⟩ := mb_parts hmb
  have i1 := fun W h1 h2 => spec_beginT kIq xs ys p1 p2 n1 n2 c1 c2 s W hx hy hn1 hn2 hw hw2 hs B0 h1 h2 hyes
  unfold kIq at i1
  obtain ⟨r, hr⟩ : ∃ r, resA s.o = r := ⟨_, rfl⟩
  rw [hr] at i1 hon hr0 ⊢
  have hI := (okB_iff.1 hok).2.1
  have h5 := (okB_iff.1 hok).1
  have i2 := fun W hR => spec_at9 xs r p1 c1 W (by omega) hI hR
  rw [hx] at i2
  rw [show whereI r xs = (posS r xs : Int) by unfold whereI; rw [hon]; rfl] at i2
  obtain ⟨P, hP⟩ : ∃ P, posS r xs = P := ⟨_, rfl⟩
  simp only [hP] at i2
  have hP0 : (0 : Int) ≤ (P : Int) := by omega
  have hr1 : r.toList ≠ [] := by simpa using hr0
  have hr2 : r.toList.isEmpty = false := by simpa using hr1
  clear hx hy hw hw2 hR1 hR2 hO1 hO2 hyes hmb hok hn5 hr hI h5 hP hon
  go_enter Tryz.func17, Tryz.ntmps17
  go_wp2_with (first
    | (go_at_call 40; go_fit (i2 _ (HP1.out _ HR1a.out.2.2.2)); rintro e w2 ⟨rfl, hb⟩; have HR2 := Lib.hid (HR1a.out.on hb); have HE2 := Lib.hid (arr9_on HE1a.out hb); have HV2 := Lib.hid (And.intro (HV1a.out.1.on hb) (HV1a.out.2.on hb)); clear hb; obtain ⟨⟨m0, m1⟩, _⟩ := arr9_two HR2.out.1; obtain ⟨⟨s0, s1, s2, s3, s4, s5⟩, _⟩ := arr_six0 HR2.out.2.1; obtain ⟨⟨r0, r1, r2, r3, r4, r5, r6, r7, r8, r9⟩, u0, u1, u2, u3, u4, u5, u6, u7, u8, u9⟩ := ten_all HR2.out.2.2.1; have hzA := arr9_lt HR2.out.1; have hzB := arr9_lt HR2.out.2.1; have hzC := arr9_lt HR2.out.2.2.1; obtain ⟨⟨e0, e1, e2, e3, e4, e5, e6, e7, e8, e9⟩, f0, f1, f2, f3, f4, f5, f6, f7, f8, f9⟩ := ten_all HE2.out; have hzE := arr9_lt HE2.out)
    | (go_at_call 23; go_fit (i1 _ (HO1.out _ HR.out.2.2.2) (HO2.out _ HR.out.2.2.2)); rintro e w1 ⟨⟨q1, l1, q2, l2, rfl, v1, v2⟩, hb⟩; have HR1 := Lib.hid (HR.out.on hb); have HR1a := Lib.hid (HR1.out.on ((Below.refl _ _).alloc (Nat.le_refl _) (.cells #[.slice q1 n1 l1, .slice q2 n2 l2, .slice none 0 0, .string ⟨#[]⟩, .string ⟨#[]⟩, .string ⟨#[]⟩, .string ⟨#[]⟩, .int .i64 0, .string ⟨#[]⟩, .int .i64 0] 37))); have HE1a := Lib.hid (Arr.fresh w1 37 [.slice q1 n1 l1, .slice q2 n2 l2, .slice none 0 0, .string ⟨#[]⟩, .string ⟨#[]⟩, .string ⟨#[]⟩, .string ⟨#[]⟩, .int .i64 0, .string ⟨#[]⟩, .int .i64 0]); have HV1 := Lib.hid (And.intro (v1.mono HR.out.big) (v2.mono HR.out.big)); have HV1a := Lib.hid (And.intro (HV1.out.1.alloc (.cells #[.slice q1 n1 l1, .slice q2 n2 l2, .slice none 0 0, .string ⟨#[]⟩, .string ⟨#[]⟩, .string ⟨#[]⟩, .string ⟨#[]⟩, .int .i64 0, .string ⟨#[]⟩, .int .i64 0] 37)) (HV1.out.2.alloc (.cells #[.slice q1 n1 l1, .slice q2 n2 l2, .slice none 0 0, .string ⟨#[]⟩, .string ⟨#[]⟩, .string ⟨#[]⟩, .string ⟨#[]⟩, .int .i64 0, .string ⟨#[]⟩, .int .i64 0] 37))); clear hb v1 v2; obtain ⟨⟨m0, m1⟩, _⟩ := arr9_two HR1.out.1; obtain ⟨⟨s0, s1, s2, s3, s4, s5⟩, _⟩ := arr_six0 HR1.out.2.1; obtain ⟨⟨r0, r1, r2, r3, r4, r5, r6, r7, r8, r9⟩, u0, u1, u2, u3, u4, u5, u6, u7, u8, u9⟩ := ten_all HR1.out.2.2.1; have hzA := arr9_lt HR1.out.1; have hzB := arr9_lt HR1.out.2.1; have hzC := arr9_lt HR1.out.2.2.1))
  have hb3 : w.heap.size + 3 ≤ w1.heap.size := HR1.out.big
  have HR9 := Lib.hid (RqB.put HR2.out (b := w1.heap.size) (i := 2) (.slice (some ⟨w2.heap.size, 0, none⟩) 1 1) hb3); have HE9 := Lib.hid (HE2.out.put 2 (.slice (some ⟨w2.heap.size, 0, none⟩) 1 1)); have HV9 := Lib.hid (And.intro (own_cell10 (i := 2) (u := .slice (some ⟨w2.heap.size, 0, none⟩) 1 1) HV2.out.1 (own_ne10 HV2.out.1 HE2.out (by decide))) (own_cell10 (i := 2) (u := .slice (some ⟨w2.heap.size, 0, none⟩) 1 1) HV2.out.2 (own_ne10 HV2.out.2 HE2.out (by decide))))
  have hT := str_row10 (put10 (w2.setCell ⟨w1.heap.size, 2, none⟩ (.slice (some ⟨w2.heap.size, 0, none⟩) 1 1)) (w.heap.size + 1 + 1) (.slice q1 n1 l1) (.slice q2 n2 l2) (.slice (some ⟨w2.heap.size, 0, none⟩) 1 1) (.string ⟨#[]⟩) (.string ⟨#[]⟩) (.string ⟨#[]⟩) (.string ⟨#[]⟩) (.int .i64 0) (.string ⟨#[]⟩) (.int .i64 0)) r
  rw [size_put10, World.size_setCell] at hT
  have hz2 := HR2.out.big
  have hA := arr_put10 HR9.out.2.2.1 (.slice q1 n1 l1) (.slice q2 n2 l2) (.slice (some ⟨w2.heap.size, 0, none⟩) 1 1) (.string ⟨#[]⟩) (.string ⟨#[]⟩) (.string ⟨#[]⟩) (.string ⟨#[]⟩) (.int .i64 0) (.string ⟨#[]⟩) (.int .i64 0)
  have hBw := below_put10 HR9.out.2.2.2 (show w.heap.size ≤ w.heap.size + 1 + 1 by omega) (.slice q1 n1 l1) (.slice q2 n2 l2) (.slice (some ⟨w2.heap.size, 0, none⟩) 1 1) (.string ⟨#[]⟩) (.string ⟨#[]⟩) (.string ⟨#[]⟩) (.string ⟨#[]⟩) (.int .i64 0) (.string ⟨#[]⟩) (.int .i64 0)
  have hA2 := arr9_on hA ((Below.refl _ _).alloc (Nat.le_refl _) (.cells #[.string r] 9))
  exact bodyPost_ret (v := .agg #[.slice q1 n1 l1, .slice q2 n2 l2, .slice (some ⟨w2.heap.size, 0, none⟩) 1 1, .string ⟨#[]⟩, .string ⟨#[]⟩, .string ⟨#[]⟩, .string ⟨#[]⟩, .int .i64 0, .string ⟨#[]⟩, .int .i64 0]) (results_cell_row (P := Tryz.prog) Tryz.results17 _ _ (w.heap.size + 1 + 1) 37 _ (0, 0) _ rfl hA2 Tryz.underlying37 rfl (by kernel_rfl)) rfl ⟨⟨q1, l1, q2, l2, _, 1, by unfold roV; rw [HX.out, HY.out]; rfl, by rw [HX.out]; exact ((own_put10 HV9.out.1 (by omega) (.slice q1 n1 l1) (.slice q2 n2 l2) (.slice (some ⟨w2.heap.size, 0, none⟩) 1 1) (.string ⟨#[]⟩) (.string ⟨#[]⟩) (.string ⟨#[]⟩) (.string ⟨#[]⟩) (.int .i64 0) (.string ⟨#[]⟩) (.int .i64 0)).alloc (.cells #[.string r] 9)).mono (by omega), by rw [HY.out]; exact ((own_put10 HV9.out.2 (by omega) (.slice q1 n1 l1) (.slice q2 n2 l2) (.slice (some ⟨w2.heap.size, 0, none⟩) 1 1) (.string ⟨#[]⟩) (.string ⟨#[]⟩) (.string ⟨#[]⟩) (.string ⟨#[]⟩) (.int .i64 0) (.string ⟨#[]⟩) (.int .i64 0)).alloc (.cells #[.string r] 9)).mono (by omega), hT.mono (by omega)⟩, hBw.alloc hBw.size (.cells #[.string r] 9)⟩
set_option maxRecDepth 100000 in
set_option maxHeartbeats 8000000 in
theorem spec_riqg0 (xs : List SeL) (ys : List MsL) (p1 p2 : Option Addr) (n1 n2 c1 c2 : Nat) (s : MsL) (w : World) (hx : xs.length = n1) (hy : ys.length = n2) (hn1 : n1 ≤ 1048576) (hn2 : n2 ≤ 1048576) (hw : SzS xs) (hw2 : SzM ys) (hs : s.le 1048576) (B0 : Nat) (hO1 : OwnC seC w B0 70 4 (.slice p1 n1 c1) xs) (hO2 : OwnC msC w B0 35 6 (.slice p2 n2 c2) ys) (hyes : routB kIq xs ys s = true) (hr0 : (resA s.o).size = 0) (h2 : (s.t.toList == [103, 101, 116]) = true) :
    Calls Tryz.prog 17 #[.agg #[.slice p1 n1 c1, .slice p2 n2 c2], .agg #[.string s.k, .string s.t, .string s.f, .string s.o, .int .i64 s.n, .string s.b]] w fun e w' => RoIs w.heap.size ⟨xs, ys, [], fltM s unavS, 0⟩ e w' ∧ Below w.heap.size w w' := by
  have hR1 := row_own9 hO1
  have hR2 := row_ownM hO2
  have HR := Lib.hid (rqb_start w p1 n1 c1 p2 n2 c2 s)
  have HP1 := Lib.hid (fun W (h : Below w.heap.size w W) => hR1.on h)
  have HP2 := Lib.hid (fun W (h : Below w.heap.size w W) => hR2.on h)
  have HO1 := Lib.hid (fun W (h : Below w.heap.size w W) => hO1.on h)
  have HO2 := Lib.hid (fun W (h : Below w.heap.size w W) => hO2.on h)
  have HX := Lib.hid hx
  have HY := Lib.hid hy
  have hmb : mbB xs ys = true := by unfold routB at hyes; simp only [Bool.and_eq_true] at hyes; exact hyes.1.1.1
  obtain ⟨hok, hn5, _⟩ := mb_parts hmb
  have i1 := fun W h1 h2 => spec_beginT kIq xs ys p1 p2 n1 n2 c1 c2 s W hx hy hn1 hn2 hw hw2 hs B0 h1 h2 hyes
  unfold kIq at i1
  obtain ⟨r, hr⟩ : ∃ r, resA s.o = r := ⟨_, rfl⟩
  rw [hr] at i1 hr0
  obtain rfl : r = ⟨#[]⟩ := ba_ext (List.eq_nil_of_length_eq_zero (by rw [ByteArray.toList_eq, size_data]; exact hr0))
  have i4 := fun W => spec_fault s.k s.t s.f s.o s.n s.b unavS W (by have := hs.2.1; unfold maxLen; omega) (by have := hs.2.2.1; omega) (by have := hs.2.2.2.1; omega) (by have := hs.2.2.2.2; unfold maxLen; omega) (by rw [show unavS.size = _ from rfl]; first | done | (unfold maxLen; decide))
  simp only [fltV_M] at i4
  obtain ⟨Y, hY⟩ : ∃ Y, fltM s unavS = Y := ⟨_, rfl⟩
  rw [hY] at i4
  unfold msV unavS at i4
  rw [hY]
  clear hx hy hw hw2 hR1 hR2 hO1 hO2 hyes hmb hok hn5 hr hs hY
  go_enter Tryz.func17, Tryz.ntmps17
  go_wp2_with (first
    | (go_at_call 26; have _ := HR1a; go_fit (i4 _); rintro e w5 ⟨rfl, hb⟩; have HR5 := Lib.hid (HR1a.out.on hb); have HE5 := Lib.hid (arr9_on HE1a.out hb); have HV5 := Lib.hid (And.intro (HV1a.out.1.on hb) (HV1a.out.2.on hb)); clear hb; obtain ⟨⟨m0, m1⟩, _⟩ := arr9_two HR5.out.1; obtain ⟨⟨s0, s1, s2, s3, s4, s5⟩, _⟩ := arr_six0 HR5.out.2.1; obtain ⟨⟨r0, r1, r2, r3, r4, r5, r6, r7, r8, r9⟩, u0, u1, u2, u3, u4, u5, u6, u7, u8, u9⟩ := ten_all HR5.out.2.2.1; have hzA := arr9_lt HR5.out.1; have hzB := arr9_lt HR5.out.2.1; have hzC := arr9_lt HR5.out.2.2.1; obtain ⟨⟨e0, e1, e2, e3, e4, e5, e6, e7, e8, e9⟩, f0, f1, f2, f3, f4, f5, f6, f7, f8, f9⟩ := ten_all HE5.out; have hzE := arr9_lt HE5.out)
    | (go_at_call 23; go_fit (i1 _ (HO1.out _ HR.out.2.2.2) (HO2.out _ HR.out.2.2.2)); rintro e w1 ⟨⟨q1, l1, q2, l2, rfl, v1, v2⟩, hb⟩; have HR1 := Lib.hid (HR.out.on hb); have HR1a := Lib.hid (HR1.out.on ((Below.refl _ _).alloc (Nat.le_refl _) (.cells #[.slice q1 n1 l1, .slice q2 n2 l2, .slice none 0 0, .string ⟨#[]⟩, .string ⟨#[]⟩, .string ⟨#[]⟩, .string ⟨#[]⟩, .int .i64 0, .string ⟨#[]⟩, .int .i64 0] 37))); have HE1a := Lib.hid (Arr.fresh w1 37 [.slice q1 n1 l1, .slice q2 n2 l2, .slice none 0 0, .string ⟨#[]⟩, .string ⟨#[]⟩, .string ⟨#[]⟩, .string ⟨#[]⟩, .int .i64 0, .string ⟨#[]⟩, .int .i64 0]); have HV1 := Lib.hid (And.intro (v1.mono HR.out.big) (v2.mono HR.out.big)); have HV1a := Lib.hid (And.intro (HV1.out.1.alloc (.cells #[.slice q1 n1 l1, .slice q2 n2 l2, .slice none 0 0, .string ⟨#[]⟩, .string ⟨#[]⟩, .string ⟨#[]⟩, .string ⟨#[]⟩, .int .i64 0, .string ⟨#[]⟩, .int .i64 0] 37)) (HV1.out.2.alloc (.cells #[.slice q1 n1 l1, .slice q2 n2 l2, .slice none 0 0, .string ⟨#[]⟩, .string ⟨#[]⟩, .string ⟨#[]⟩, .string ⟨#[]⟩, .int .i64 0, .string ⟨#[]⟩, .int .i64 0] 37))); clear hb v1 v2; obtain ⟨⟨m0, m1⟩, _⟩ := arr9_two HR1.out.1; obtain ⟨⟨s0, s1, s2, s3, s4, s5⟩, _⟩ := arr_six0 HR1.out.2.1; obtain ⟨⟨r0, r1, r2, r3, r4, r5, r6, r7, r8, r9⟩, u0, u1, u2, u3, u4, u5, u6, u7, u8, u9⟩ := ten_all HR1.out.2.2.1; have hzA := arr9_lt HR1.out.1; have hzB := arr9_lt HR1.out.2.1; have hzC := arr9_lt HR1.out.2.2.1))
  have hb3 : w.heap.size + 3 ≤ w1.heap.size := HR1.out.big
  have HR9 := Lib.hid (RqB.put6b HR5.out (b := w1.heap.size) hb3 (.string Y.k) (.string Y.t) (.string Y.f) (.string Y.o) (.int .i64 Y.n) (.string Y.b)); have HE9 := Lib.hid ((((((HE5.out.put 3 (.string Y.k)).put 4 (.string Y.t)).put 5 (.string Y.f)).put 6 (.string Y.o)).put 7 (.int .i64 Y.n)).put 8 (.string Y.b)); have HV9 := Lib.hid (And.intro (own_put6b HV5.out.1 (own_ne10 HV5.out.1 HE5.out (by decide)) (.string Y.k) (.string Y.t) (.string Y.f) (.string Y.o) (.int .i64 Y.n) (.string Y.b)) (own_put6b HV5.out.2 (own_ne10 HV5.out.2 HE5.out (by decide)) (.string Y.k) (.string Y.t) (.string Y.f) (.string Y.o) (.int .i64 Y.n) (.string Y.b)))
  have hA := arr_put10 HR9.out.2.2.1 (.slice q1 n1 l1) (.slice q2 n2 l2) (.slice none 0 0) (.string Y.k) (.string Y.t) (.string Y.f) (.string Y.o) (.int .i64 Y.n) (.string Y.b) (.int .i64 0)
  have hBw := below_put10 HR9.out.2.2.2 (show w.heap.size ≤ w.heap.size + 1 + 1 by omega) (.slice q1 n1 l1) (.slice q2 n2 l2) (.slice none 0 0) (.string Y.k) (.string Y.t) (.string Y.f) (.string Y.o) (.int .i64 Y.n) (.string Y.b) (.int .i64 0)
  exact bodyPost_ret (v := .agg #[.slice q1 n1 l1, .slice q2 n2 l2, .slice none 0 0, .string Y.k, .string Y.t, .string Y.f, .string Y.o, .int .i64 Y.n, .string Y.b, .int .i64 0]) (results_cell_row (P := Tryz.prog) Tryz.results17 _ _ (w.heap.size + 1 + 1) 37 _ (0, 0) _ rfl hA Tryz.underlying37 rfl (by kernel_rfl)) rfl ⟨⟨q1, l1, q2, l2, none, 0, by unfold roV; rw [HX.out, HY.out]; rfl, by rw [HX.out]; exact (own_put10 HV9.out.1 (by omega) (.slice q1 n1 l1) (.slice q2 n2 l2) (.slice none 0 0) (.string Y.k) (.string Y.t) (.string Y.f) (.string Y.o) (.int .i64 Y.n) (.string Y.b) (.int .i64 0)).mono (by omega), by rw [HY.out]; exact (own_put10 HV9.out.2 (by omega) (.slice q1 n1 l1) (.slice q2 n2 l2) (.slice none 0 0) (.string Y.k) (.string Y.t) (.string Y.f) (.string Y.o) (.int .i64 Y.n) (.string Y.b) (.int .i64 0)).mono (by omega), ownC_nil _ _ _ _ _⟩, hBw⟩
set_option maxRecDepth 100000 in
set_option maxHeartbeats 8000000 in
theorem spec_riqs0 (xs : List SeL) (ys : List MsL) (p1 p2 : Option Addr) (n1 n2 c1 c2 : Nat) (s : MsL) (w : World) (hx : xs.length = n1) (hy : ys.length = n2) (hn1 : n1 ≤ 1048576) (hn2 : n2 ≤ 1048576) (hw : SzS xs) (hw2 : SzM ys) (hs : s.le 1048576) (B0 : Nat) (hO1 : OwnC seC w B0 70 4 (.slice p1 n1 c1) xs) (hO2 : OwnC msC w B0 35 6 (.slice p2 n2 c2) ys) (hyes : routB kIq xs ys s = true) (hr0 : (resA s.o).size = 0) (h2 : (s.t.toList == [103, 101, 116]) = false) (h3 : (s.t.toList == [115, 101, 116]) = true) :
    Calls Tryz.prog 17 #[.agg #[.slice p1 n1 c1, .slice p2 n2 c2], .agg #[.string s.k, .string s.t, .string s.f, .string s.o, .int .i64 s.n, .string s.b]] w fun e w' => RoIs w.heap.size ⟨xs, ys, [], fltM s unavS, 0⟩ e w' ∧ Below w.heap.size w w' := by
  have hR1 := row_own9 hO1
  have hR2 := row_ownM hO2
  have HR := Lib.hid (rqb_start w p1 n1 c1 p2 n2 c2 s)
  have HP1 := Lib.hid (fun W (h : Below w.heap.size w W) => hR1.on h)
  have HP2 := Lib.hid (fun W (h : Below w.heap.size w W) => hR2.on h)
  have HO1 := Lib.hid (fun W (h : Below w.heap.size w W) => hO1.on h)
  have HO2 := Lib.hid (fun W (h : Below w.heap.size w W) => hO2.on h)
  have HX := Lib.hid hx
  have HY := Lib.hid hy
  have hmb : mbB xs ys = true := by unfold routB at hyes; simp only [Bool.and_eq_true] at hyes; exact hyes.1.1.1
  obtain ⟨hok, hn5, _⟩ := mb_parts hmb
  have i1 := fun W h1 h2 => spec_beginT kIq xs ys p1 p2 n1 n2 c1 c2 s W hx hy hn1 hn2 hw hw2 hs B0 h1 h2 hyes
  unfold kIq at i1
  obtain ⟨r, hr⟩ : ∃ r, resA s.o = r := ⟨_, rfl⟩
  rw [hr] at i1 hr0
  obtain rfl : r = ⟨#[]⟩ := ba_ext (List.eq_nil_of_length_eq_zero (by rw [ByteArray.toList_eq, size_data]; exact hr0))
  have i4 := fun W => spec_fault s.k s.t s.f s.o s.n s.b unavS W (by have := hs.2.1; unfold maxLen; omega) (by have := hs.2.2.1; omega) (by have := hs.2.2.2.1; omega) (by have := hs.2.2.2.2; unfold maxLen; omega) (by rw [show unavS.size = _ from rfl]; first | done | (unfold maxLen; decide))
  simp only [fltV_M] at i4
  obtain ⟨Y, hY⟩ : ∃ Y, fltM s unavS = Y := ⟨_, rfl⟩
  rw [hY] at i4
  unfold msV unavS at i4
  rw [hY]
  clear hx hy hw hw2 hR1 hR2 hO1 hO2 hyes hmb hok hn5 hr hs hY
  go_enter Tryz.func17, Tryz.ntmps17
  go_wp2_with (first
    | (go_at_call 26; have _ := HR1a; go_fit (i4 _); rintro e w5 ⟨rfl, hb⟩; have HR5 := Lib.hid (HR1a.out.on hb); have HE5 := Lib.hid (arr9_on HE1a.out hb); have HV5 := Lib.hid (And.intro (HV1a.out.1.on hb) (HV1a.out.2.on hb)); clear hb; obtain ⟨⟨m0, m1⟩, _⟩ := arr9_two HR5.out.1; obtain ⟨⟨s0, s1, s2, s3, s4, s5⟩, _⟩ := arr_six0 HR5.out.2.1; obtain ⟨⟨r0, r1, r2, r3, r4, r5, r6, r7, r8, r9⟩, u0, u1, u2, u3, u4, u5, u6, u7, u8, u9⟩ := ten_all HR5.out.2.2.1; have hzA := arr9_lt HR5.out.1; have hzB := arr9_lt HR5.out.2.1; have hzC := arr9_lt HR5.out.2.2.1; obtain ⟨⟨e0, e1, e2, e3, e4, e5, e6, e7, e8, e9⟩, f0, f1, f2, f3, f4, f5, f6, f7, f8, f9⟩ := ten_all HE5.out; have hzE := arr9_lt HE5.out)
    | (go_at_call 23; go_fit (i1 _ (HO1.out _ HR.out.2.2.2) (HO2.out _ HR.out.2.2.2)); rintro e w1 ⟨⟨q1, l1, q2, l2, rfl, v1, v2⟩, hb⟩; have HR1 := Lib.hid (HR.out.on hb); have HR1a := Lib.hid (HR1.out.on ((Below.refl _ _).alloc (Nat.le_refl _) (.cells #[.slice q1 n1 l1, .slice q2 n2 l2, .slice none 0 0, .string ⟨#[]⟩, .string ⟨#[]⟩, .string ⟨#[]⟩, .string ⟨#[]⟩, .int .i64 0, .string ⟨#[]⟩, .int .i64 0] 37))); have HE1a := Lib.hid (Arr.fresh w1 37 [.slice q1 n1 l1, .slice q2 n2 l2, .slice none 0 0, .string ⟨#[]⟩, .string ⟨#[]⟩, .string ⟨#[]⟩, .string ⟨#[]⟩, .int .i64 0, .string ⟨#[]⟩, .int .i64 0]); have HV1 := Lib.hid (And.intro (v1.mono HR.out.big) (v2.mono HR.out.big)); have HV1a := Lib.hid (And.intro (HV1.out.1.alloc (.cells #[.slice q1 n1 l1, .slice q2 n2 l2, .slice none 0 0, .string ⟨#[]⟩, .string ⟨#[]⟩, .string ⟨#[]⟩, .string ⟨#[]⟩, .int .i64 0, .string ⟨#[]⟩, .int .i64 0] 37)) (HV1.out.2.alloc (.cells #[.slice q1 n1 l1, .slice q2 n2 l2, .slice none 0 0, .string ⟨#[]⟩, .string ⟨#[]⟩, .string ⟨#[]⟩, .string ⟨#[]⟩, .int .i64 0, .string ⟨#[]⟩, .int .i64 0] 37))); clear hb v1 v2; obtain ⟨⟨m0, m1⟩, _⟩ := arr9_two HR1.out.1; obtain ⟨⟨s0, s1, s2, s3, s4, s5⟩, _⟩ := arr_six0 HR1.out.2.1; obtain ⟨⟨r0, r1, r2, r3, r4, r5, r6, r7, r8, r9⟩, u0, u1, u2, u3, u4, u5, u6, u7, u8, u9⟩ := ten_all HR1.out.2.2.1; have hzA := arr9_lt HR1.out.1; have hzB := arr9_lt HR1.out.2.1; have hzC := arr9_lt HR1.out.2.2.1))
  have hb3 : w.heap.size + 3 ≤ w1.heap.size := HR1.out.big
  have HR9 := Lib.hid (RqB.put6b HR5.out (b := w1.heap.size) hb3 (.string Y.k) (.string Y.t) (.string Y.f) (.string Y.o) (.int .i64 Y.n) (.string Y.b)); have HE9 := Lib.hid ((((((HE5.out.put 3 (.string Y.k)).put 4 (.string Y.t)).put 5 (.string Y.f)).put 6 (.string Y.o)).put 7 (.int .i64 Y.n)).put 8 (.string Y.b)); have HV9 := Lib.hid (And.intro (own_put6b HV5.out.1 (own_ne10 HV5.out.1 HE5.out (by decide)) (.string Y.k) (.string Y.t) (.string Y.f) (.string Y.o) (.int .i64 Y.n) (.string Y.b)) (own_put6b HV5.out.2 (own_ne10 HV5.out.2 HE5.out (by decide)) (.string Y.k) (.string Y.t) (.string Y.f) (.string Y.o) (.int .i64 Y.n) (.string Y.b)))
  have hA := arr_put10 HR9.out.2.2.1 (.slice q1 n1 l1) (.slice q2 n2 l2) (.slice none 0 0) (.string Y.k) (.string Y.t) (.string Y.f) (.string Y.o) (.int .i64 Y.n) (.string Y.b) (.int .i64 0)
  have hBw := below_put10 HR9.out.2.2.2 (show w.heap.size ≤ w.heap.size + 1 + 1 by omega) (.slice q1 n1 l1) (.slice q2 n2 l2) (.slice none 0 0) (.string Y.k) (.string Y.t) (.string Y.f) (.string Y.o) (.int .i64 Y.n) (.string Y.b) (.int .i64 0)
  exact bodyPost_ret (v := .agg #[.slice q1 n1 l1, .slice q2 n2 l2, .slice none 0 0, .string Y.k, .string Y.t, .string Y.f, .string Y.o, .int .i64 Y.n, .string Y.b, .int .i64 0]) (results_cell_row (P := Tryz.prog) Tryz.results17 _ _ (w.heap.size + 1 + 1) 37 _ (0, 0) _ rfl hA Tryz.underlying37 rfl (by kernel_rfl)) rfl ⟨⟨q1, l1, q2, l2, none, 0, by unfold roV; rw [HX.out, HY.out]; rfl, by rw [HX.out]; exact (own_put10 HV9.out.1 (by omega) (.slice q1 n1 l1) (.slice q2 n2 l2) (.slice none 0 0) (.string Y.k) (.string Y.t) (.string Y.f) (.string Y.o) (.int .i64 Y.n) (.string Y.b) (.int .i64 0)).mono (by omega), by rw [HY.out]; exact (own_put10 HV9.out.2 (by omega) (.slice q1 n1 l1) (.slice q2 n2 l2) (.slice none 0 0) (.string Y.k) (.string Y.t) (.string Y.f) (.string Y.o) (.int .i64 Y.n) (.string Y.b) (.int .i64 0)).mono (by omega), ownC_nil _ _ _ _ _⟩, hBw⟩
set_option maxRecDepth 100000 in
set_option maxHeartbeats 8000000 in
theorem spec_riqn0 (xs : List SeL) (ys : List MsL) (p1 p2 : Option Addr) (n1 n2 c1 c2 : Nat) (s : MsL) (w : World) (hx : xs.length = n1) (hy : ys.length = n2) (hn1 : n1 ≤ 1048576) (hn2 : n2 ≤ 1048576) (hw : SzS xs) (hw2 : SzM ys) (hs : s.le 1048576) (B0 : Nat) (hO1 : OwnC seC w B0 70 4 (.slice p1 n1 c1) xs) (hO2 : OwnC msC w B0 35 6 (.slice p2 n2 c2) ys) (hyes : routB kIq xs ys s = true) (hr0 : (resA s.o).size = 0) (h2 : (s.t.toList == [103, 101, 116]) = false) (h3 : (s.t.toList == [115, 101, 116]) = false) :
    Calls Tryz.prog 17 #[.agg #[.slice p1 n1 c1, .slice p2 n2 c2], .agg #[.string s.k, .string s.t, .string s.f, .string s.o, .int .i64 s.n, .string s.b]] w fun e w' => RoIs w.heap.size ⟨xs, ys, [], zMs, 0⟩ e w' ∧ Below w.heap.size w w' := by
  have hR1 := row_own9 hO1
  have hR2 := row_ownM hO2
  have HR := Lib.hid (rqb_start w p1 n1 c1 p2 n2 c2 s)
  have HP1 := Lib.hid (fun W (h : Below w.heap.size w W) => hR1.on h)
  have HP2 := Lib.hid (fun W (h : Below w.heap.size w W) => hR2.on h)
  have HO1 := Lib.hid (fun W (h : Below w.heap.size w W) => hO1.on h)
  have HO2 := Lib.hid (fun W (h : Below w.heap.size w W) => hO2.on h)
  have HX := Lib.hid hx
  have HY := Lib.hid hy
  have hmb : mbB xs ys = true := by unfold routB at hyes; simp only [Bool.and_eq_true] at hyes; exact hyes.1.1.1
  obtain ⟨hok, hn5, _⟩ := mb_parts hmb
  have i1 := fun W h1 h2 => spec_beginT kIq xs ys p1 p2 n1 n2 c1 c2 s W hx hy hn1 hn2 hw hw2 hs B0 h1 h2 hyes
  unfold kIq at i1
  obtain ⟨r, hr⟩ : ∃ r, resA s.o = r := ⟨_, rfl⟩
  rw [hr] at i1 hr0
  obtain rfl : r = ⟨#[]⟩ := ba_ext (List.eq_nil_of_length_eq_zero (by rw [ByteArray.toList_eq, size_data]; exact hr0))
  clear hx hy hw hw2 hR1 hR2 hO1 hO2 hyes hmb hok hn5 hr hs
  go_enter Tryz.func17, Tryz.ntmps17
  go_wp2_with (first
    | (go_at_call 23; go_fit (i1 _ (HO1.out _ HR.out.2.2.2) (HO2.out _ HR.out.2.2.2)); rintro e w1 ⟨⟨q1, l1, q2, l2, rfl, v1, v2⟩, hb⟩; have HR1 := Lib.hid (HR.out.on hb); have HR1a := Lib.hid (HR1.out.on ((Below.refl _ _).alloc (Nat.le_refl _) (.cells #[.slice q1 n1 l1, .slice q2 n2 l2, .slice none 0 0, .string ⟨#[]⟩, .string ⟨#[]⟩, .string ⟨#[]⟩, .string ⟨#[]⟩, .int .i64 0, .string ⟨#[]⟩, .int .i64 0] 37))); have HE1a := Lib.hid (Arr.fresh w1 37 [.slice q1 n1 l1, .slice q2 n2 l2, .slice none 0 0, .string ⟨#[]⟩, .string ⟨#[]⟩, .string ⟨#[]⟩, .string ⟨#[]⟩, .int .i64 0, .string ⟨#[]⟩, .int .i64 0]); have HV1 := Lib.hid (And.intro (v1.mono HR.out.big) (v2.mono HR.out.big)); have HV1a := Lib.hid (And.intro (HV1.out.1.alloc (.cells #[.slice q1 n1 l1, .slice q2 n2 l2, .slice none 0 0, .string ⟨#[]⟩, .string ⟨#[]⟩, .string ⟨#[]⟩, .string ⟨#[]⟩, .int .i64 0, .string ⟨#[]⟩, .int .i64 0] 37)) (HV1.out.2.alloc (.cells #[.slice q1 n1 l1, .slice q2 n2 l2, .slice none 0 0, .string ⟨#[]⟩, .string ⟨#[]⟩, .string ⟨#[]⟩, .string ⟨#[]⟩, .int .i64 0, .string ⟨#[]⟩, .int .i64 0] 37))); clear hb v1 v2; obtain ⟨⟨m0, m1⟩, _⟩ := arr9_two HR1.out.1; obtain ⟨⟨s0, s1, s2, s3, s4, s5⟩, _⟩ := arr_six0 HR1.out.2.1; obtain ⟨⟨r0, r1, r2, r3, r4, r5, r6, r7, r8, r9⟩, u0, u1, u2, u3, u4, u5, u6, u7, u8, u9⟩ := ten_all HR1.out.2.2.1; have hzA := arr9_lt HR1.out.1; have hzB := arr9_lt HR1.out.2.1; have hzC := arr9_lt HR1.out.2.2.1))
  have hb3 : w.heap.size + 3 ≤ w1.heap.size := HR1.out.big
  have hA := arr_put10 HR1.out.2.2.1 (.slice q1 n1 l1) (.slice q2 n2 l2) (.slice none 0 0) (.string ⟨#[]⟩) (.string ⟨#[]⟩) (.string ⟨#[]⟩) (.string ⟨#[]⟩) (.int .i64 0) (.string ⟨#[]⟩) (.int .i64 0)
  have hBw := below_put10 HR1.out.2.2.2 (show w.heap.size ≤ w.heap.size + 1 + 1 by omega) (.slice q1 n1 l1) (.slice q2 n2 l2) (.slice none 0 0) (.string ⟨#[]⟩) (.string ⟨#[]⟩) (.string ⟨#[]⟩) (.string ⟨#[]⟩) (.int .i64 0) (.string ⟨#[]⟩) (.int .i64 0)
  have hA2 := arr9_on hA ((Below.refl _ _).alloc (Nat.le_refl _) (.cells #[.slice q1 n1 l1, .slice q2 n2 l2, .slice none 0 0, .string ⟨#[]⟩, .string ⟨#[]⟩, .string ⟨#[]⟩, .string ⟨#[]⟩, .int .i64 0, .string ⟨#[]⟩, .int .i64 0] 37))
  exact bodyPost_ret (v := .agg #[.slice q1 n1 l1, .slice q2 n2 l2, .slice none 0 0, .string ⟨#[]⟩, .string ⟨#[]⟩, .string ⟨#[]⟩, .string ⟨#[]⟩, .int .i64 0, .string ⟨#[]⟩, .int .i64 0]) (results_cell_row (P := Tryz.prog) Tryz.results17 _ _ (w.heap.size + 1 + 1) 37 _ (0, 0) _ rfl hA2 Tryz.underlying37 rfl (by kernel_rfl)) rfl ⟨⟨q1, l1, q2, l2, none, 0, by unfold roV; rw [HX.out, HY.out]; rfl, by rw [HX.out]; exact ((own_put10 HV1.out.1 (by omega) (.slice q1 n1 l1) (.slice q2 n2 l2) (.slice none 0 0) (.string ⟨#[]⟩) (.string ⟨#[]⟩) (.string ⟨#[]⟩) (.string ⟨#[]⟩) (.int .i64 0) (.string ⟨#[]⟩) (.int .i64 0)).alloc (.cells #[.slice q1 n1 l1, .slice q2 n2 l2, .slice none 0 0, .string ⟨#[]⟩, .string ⟨#[]⟩, .string ⟨#[]⟩, .string ⟨#[]⟩, .int .i64 0, .string ⟨#[]⟩, .int .i64 0] 37)).mono (by omega), by rw [HY.out]; exact ((own_put10 HV1.out.2 (by omega) (.slice q1 n1 l1) (.slice q2 n2 l2) (.slice none 0 0) (.string ⟨#[]⟩) (.string ⟨#[]⟩) (.string ⟨#[]⟩) (.string ⟨#[]⟩) (.int .i64 0) (.string ⟨#[]⟩) (.int .i64 0)).alloc (.cells #[.slice q1 n1 l1, .slice q2 n2 l2, .slice none 0 0, .string ⟨#[]⟩, .string ⟨#[]⟩, .string ⟨#[]⟩, .string ⟨#[]⟩, .int .i64 0, .string ⟨#[]⟩, .int .i64 0] 37)).mono (by omega), ownC_nil _ _ _ _ _⟩, hBw.alloc hBw.size (.cells #[.slice q1 n1 l1, .slice q2 n2 l2, .slice none 0 0, .string ⟨#[]⟩, .string ⟨#[]⟩, .string ⟨#[]⟩, .string ⟨#[]⟩, .int .i64 0, .string ⟨#[]⟩, .int .i64 0] 37)⟩
set_option maxRecDepth 100000 in
set_option maxHeartbeats 8000000 in
theorem spec_riqg1 (xs : List SeL) (ys : List MsL) (p1 p2 : Option Addr) (n1 n2 c1 c2 : Nat) (s : MsL) (w : World) (hx : xs.length = n1) (hy : ys.length = n2) (hn1 : n1 ≤ 1048576) (hn2 : n2 ≤ 1048576) (hw : SzS xs) (hw2 : SzM ys) (hs : s.le 1048576) (B0 : Nat) (hO1 : OwnC seC w B0 70 4 (.slice p1 n1 c1) xs) (hO2 : OwnC msC w B0 35 6 (.slice p2 n2 c2) ys) (hyes : routB kIq xs ys s = true) (hr0 : ((resA s.o).toList == []) = false) (hon : hereB (resA s.o) xs = false) (h2 : (s.t.toList == [103, 101, 116]) = true) :
    Calls Tryz.prog 17 #[.agg #[.slice p1 n1 c1, .slice p2 n2 c2], .agg #[.string s.k, .string s.t, .string s.f, .string s.o, .int .i64 s.n, .string s.b]] w fun e w' => RoIs w.heap.size ⟨xs, ys, [], fltM s unavS, 0⟩ e w' ∧ Below w.heap.size w w' := by
  have hR1 := row_own9 hO1
  have hR2 := row_ownM hO2
  have HR := Lib.hid (rqb_start w p1 n1 c1 p2 n2 c2 s)
  have HP1 := Lib.hid (fun W (h : Below w.heap.size w W) => hR1.on h)
  have HP2 := Lib.hid (fun W (h : Below w.heap.size w W) => hR2.on h)
  have HO1 := Lib.hid (fun W (h : Below w.heap.size w W) => hO1.on h)
  have HO2 := Lib.hid (fun W (h : Below w.heap.size w W) => hO2.on h)
  have HX := Lib.hid hx
  have HY := Lib.hid hy
  have hmb : mbB xs ys = true := by unfold routB at hyes; simp only [Bool.and_eq_true] at hyes; exact hyes.1.1.1
  obtain ⟨hok, hn5, _⟩ := mb_parts hmb
  have i1 := fun W h1 h2 => spec_beginT kIq xs ys p1 p2 n1 n2 c1 c2 s W hx hy hn1 hn2 hw hw2 hs B0 h1 h2 hyes
  unfold kIq at i1
  obtain ⟨r, hr⟩ : ∃ r, resA s.o = r := ⟨_, rfl⟩
  rw [hr] at i1 hon hr0
  have hr1 : r.toList ≠ [] := by simpa using hr0
  have hr2 : r.toList.isEmpty = false := by simpa using hr1
  have hI := (okB_iff.1 hok).2.1
  have h5 := (okB_iff.1 hok).1
  have i2 := fun W hR => spec_at9 xs r p1 c1 W (by omega) hI hR
  rw [hx] at i2
  rw [show whereI r xs = -1 by unfold whereI; rw [hon]; rfl] at i2
  have i4 := fun W => spec_fault s.k s.t s.f s.o s.n s.b unavS W (by have := hs.2.1; unfold maxLen; omega) (by have := hs.2.2.1; omega) (by have := hs.2.2.2.1; omega) (by have := hs.2.2.2.2; unfold maxLen; omega) (by rw [show unavS.size = _ from rfl]; first | done | (unfold maxLen; decide))
  simp only [fltV_M] at i4
  obtain ⟨Y, hY⟩ : ∃ Y, fltM s unavS = Y := ⟨_, rfl⟩
  rw [hY] at i4
  unfold msV unavS at i4
  rw [hY]
  clear hx hy hw hw2 hR1 hR2 hO1 hO2 hyes hmb hok hn5 hr hs hI h5 hon hY
  go_enter Tryz.func17, Tryz.ntmps17
  go_wp2_with (first
    | (go_at_call 26; have _ := HR2; go_fit (i4 _); rintro e w5 ⟨rfl, hb⟩; have HR5 := Lib.hid (HR2.out.on hb); have HE5 := Lib.hid (arr9_on HE2.out hb); have HV5 := Lib.hid (And.intro (HV2.out.1.on hb) (HV2.out.2.on hb)); clear hb; obtain ⟨⟨m0, m1⟩, _⟩ := arr9_two HR5.out.1; obtain ⟨⟨s0, s1, s2, s3, s4, s5⟩, _⟩ := arr_six0 HR5.out.2.1; obtain ⟨⟨r0, r1, r2, r3, r4, r5, r6, r7, r8, r9⟩, u0, u1, u2, u3, u4, u5, u6, u7, u8, u9⟩ := ten_all HR5.out.2.2.1; have hzA := arr9_lt HR5.out.1; have hzB := arr9_lt HR5.out.2.1; have hzC := arr9_lt HR5.out.2.2.1; obtain ⟨⟨e0, e1, e2, e3, e4, e5, e6, e7, e8, e9⟩, f0, f1, f2, f3, f4, f5, f6, f7, f8, f9⟩ := ten_all HE5.out; have hzE := arr9_lt HE5.out)
    | (go_at_call 40; go_fit (i2 _ (HP1.out _ HR1a.out.2.2.2)); rintro e w2 ⟨rfl, hb⟩; have HR2 := Lib.hid (HR1a.out.on hb); have HE2 := Lib.hid (arr9_on HE1a.out hb); have HV2 := Lib.hid (And.intro (HV1a.out.1.on hb) (HV1a.out.2.on hb)); clear hb; obtain ⟨⟨m0, m1⟩, _⟩ := arr9_two HR2.out.1; obtain ⟨⟨s0, s1, s2, s3, s4, s5⟩, _⟩ := arr_six0 HR2.out.2.1; obtain ⟨⟨r0, r1, r2, r3, r4, r5, r6, r7, r8, r9⟩, u0, u1, u2, u3, u4, u5, u6, u7, u8, u9⟩ := ten_all HR2.out.2.2.1; have hzA := arr9_lt HR2.out.1; have hzB := arr9_lt HR2.out.2.1; have hzC := arr9_lt HR2.out.2.2.1; obtain ⟨⟨e0, e1, e2, e3, e4, e5, e6, e7, e8, e9⟩, f0, f1, f2, f3, f4, f5, f6, f7, f8, f9⟩ := ten_all HE2.out; have hzE := arr9_lt HE2.out)
    | (go_at_call 23; go_fit (i1 _ (HO1.out _ HR.out.2.2.2) (HO2.out _ HR.out.2.2.2)); rintro e w1 ⟨⟨q1, l1, q2, l2, rfl, v1, v2⟩, hb⟩; have HR1 := Lib.hid (HR.out.on hb); have HR1a := Lib.hid (HR1.out.on ((Below.refl _ _).alloc (Nat.le_refl _) (.cells #[.slice q1 n1 l1, .slice q2 n2 l2, .slice none 0 0, .string ⟨#[]⟩, .string ⟨#[]⟩, .string ⟨#[]⟩, .string ⟨#[]⟩, .int .i64 0, .string ⟨#[]⟩, .int .i64 0] 37))); have HE1a := Lib.hid (Arr.fresh w1 37 [.slice q1 n1 l1, .slice q2 n2 l2, .slice none 0 0, .string ⟨#[]⟩, .string ⟨#[]⟩, .string ⟨#[]⟩, .string ⟨#[]⟩, .int .i64 0, .string ⟨#[]⟩, .int .i64 0]); have HV1 := Lib.hid (And.intro (v1.mono HR.out.big) (v2.mono HR.out.big)); have HV1a := Lib.hid (And.intro (HV1.out.1.alloc (.cells #[.slice q1 n1 l1, .slice q2 n2 l2, .slice none 0 0, .string ⟨#[]⟩, .string ⟨#[]⟩, .string ⟨#[]⟩, .string ⟨#[]⟩, .int .i64 0, .string ⟨#[]⟩, .int .i64 0] 37)) (HV1.out.2.alloc (.cells #[.slice q1 n1 l1, .slice q2 n2 l2, .slice none 0 0, .string ⟨#[]⟩, .string ⟨#[]⟩, .string ⟨#[]⟩, .string ⟨#[]⟩, .int .i64 0, .string ⟨#[]⟩, .int .i64 0] 37))); clear hb v1 v2; obtain ⟨⟨m0, m1⟩, _⟩ := arr9_two HR1.out.1; obtain ⟨⟨s0, s1, s2, s3, s4, s5⟩, _⟩ := arr_six0 HR1.out.2.1; obtain ⟨⟨r0, r1, r2, r3, r4, r5, r6, r7, r8, r9⟩, u0, u1, u2, u3, u4, u5, u6, u7, u8, u9⟩ := ten_all HR1.out.2.2.1; have hzA := arr9_lt HR1.out.1; have hzB := arr9_lt HR1.out.2.1; have hzC := arr9_lt HR1.out.2.2.1))
  have hb3 : w.heap.size + 3 ≤ w1.heap.size := HR1.out.big
  have HR9 := Lib.hid (RqB.put6b HR5.out (b := w1.heap.size) hb3 (.string Y.k) (.string Y.t) (.string Y.f) (.string Y.o) (.int .i64 Y.n) (.string Y.b)); have HE9 := Lib.hid ((((((HE5.out.put 3 (.string Y.k)).put 4 (.string Y.t)).put 5 (.string Y.f)).put 6 (.string Y.o)).put 7 (.int .i64 Y.n)).put 8 (.string Y.b)); have HV9 := Lib.hid (And.intro (own_put6b HV5.out.1 (own_ne10 HV5.out.1 HE5.out (by decide)) (.string Y.k) (.string Y.t) (.string Y.f) (.string Y.o) (.int .i64 Y.n) (.string Y.b)) (own_put6b HV5.out.2 (own_ne10 HV5.out.2 HE5.out (by decide)) (.string Y.k) (.string Y.t) (.string Y.f) (.string Y.o) (.int .i64 Y.n) (.string Y.b)))
  have hA := arr_put10 HR9.out.2.2.1 (.slice q1 n1 l1) (.slice q2 n2 l2) (.slice none 0 0) (.string Y.k) (.string Y.t) (.string Y.f) (.string Y.o) (.int .i64 Y.n) (.string Y.b) (.int .i64 0)
  have hBw := below_put10 HR9.out.2.2.2 (show w.heap.size ≤ w.heap.size + 1 + 1 by omega) (.slice q1 n1 l1) (.slice q2 n2 l2) (.slice none 0 0) (.string Y.k) (.string Y.t) (.string Y.f) (.string Y.o) (.int .i64 Y.n) (.string Y.b) (.int .i64 0)
  exact bodyPost_ret (v := .agg #[.slice q1 n1 l1, .slice q2 n2 l2, .slice none 0 0, .string Y.k, .string Y.t, .string Y.f, .string Y.o, .int .i64 Y.n, .string Y.b, .int .i64 0]) (results_cell_row (P := Tryz.prog) Tryz.results17 _ _ (w.heap.size + 1 + 1) 37 _ (0, 0) _ rfl hA Tryz.underlying37 rfl (by kernel_rfl)) rfl ⟨⟨q1, l1, q2, l2, none, 0, by unfold roV; rw [HX.out, HY.out]; rfl, by rw [HX.out]; exact (own_put10 HV9.out.1 (by omega) (.slice q1 n1 l1) (.slice q2 n2 l2) (.slice none 0 0) (.string Y.k) (.string Y.t) (.string Y.f) (.string Y.o) (.int .i64 Y.n) (.string Y.b) (.int .i64 0)).mono (by omega), by rw [HY.out]; exact (own_put10 HV9.out.2 (by omega) (.slice q1 n1 l1) (.slice q2 n2 l2) (.slice none 0 0) (.string Y.k) (.string Y.t) (.string Y.f) (.string Y.o) (.int .i64 Y.n) (.string Y.b) (.int .i64 0)).mono (by omega), ownC_nil _ _ _ _ _⟩, hBw⟩
set_option maxRecDepth 100000 in
set_option maxHeartbeats 8000000 in
theorem spec_riqs1 (xs : List SeL) (ys : List MsL) (p1 p2 : Option Addr) (n1 n2 c1 c2 : Nat) (s : MsL) (w : World) (hx : xs.length = n1) (hy : ys.length = n2) (hn1 : n1 ≤ 1048576) (hn2 : n2 ≤ 1048576) (hw : SzS xs) (hw2 : SzM ys) (hs : s.le 1048576) (B0 : Nat) (hO1 : OwnC seC w B0 70 4 (.slice p1 n1 c1) xs) (hO2 : OwnC msC w B0 35 6 (.slice p2 n2 c2) ys) (hyes : routB kIq xs ys s = true) (hr0 : ((resA s.o).toList == []) = false) (hon : hereB (resA s.o) xs = false) (h2 : (s.t.toList == [103, 101, 116]) = false) (h3 : (s.t.toList == [115, 101, 116]) = true) :
    Calls Tryz.prog 17 #[.agg #[.slice p1 n1 c1, .slice p2 n2 c2], .agg #[.string s.k, .string s.t, .string s.f, .string s.o, .int .i64 s.n, .string s.b]] w fun e w' => RoIs w.heap.size ⟨xs, ys, [], fltM s unavS, 0⟩ e w' ∧ Below w.heap.size w w' := by
  have hR1 := row_own9 hO1
  have hR2 := row_ownM hO2
  have HR := Lib.hid (rqb_start w p1 n1 c1 p2 n2 c2 s)
  have HP1 := Lib.hid (fun W (h : Below w.heap.size w W) => hR1.on h)
  have HP2 := Lib.hid (fun W (h : Below w.heap.size w W) => hR2.on h)
  have HO1 := Lib.hid (fun W (h : Below w.heap.size w W) => hO1.on h)
  have HO2 := Lib.hid (fun W (h : Below w.heap.size w W) => hO2.on h)
  have HX := Lib.hid hx
  have HY := Lib.hid hy
  have hmb : mbB xs ys = true := by unfold routB at hyes; simp only [Bool.and_eq_true] at hyes; exact hyes.1.1.1
  obtain ⟨hok, hn5, _⟩ := mb_parts hmb
  have i1 := fun W h1 h2 => spec_beginT kIq xs ys p1 p2 n1 n2 c1 c2 s W hx hy hn1 hn2 hw hw2 hs B0 h1 h2 hyes
  unfold kIq at i1
  obtain ⟨r, hr⟩ : ∃ r, resA s.o = r := ⟨_, rfl⟩
  rw [hr] at i1 hon hr0
  have hr1 : r.toList ≠ [] := by simpa using hr0
  have hr2 : r.toList.isEmpty = false := by simpa using hr1
  have hI := (okB_iff.1 hok).2.1
  have h5 := (okB_iff.1 hok).1
  have i2 := fun W hR => spec_at9 xs r p1 c1 W (by omega) hI hR
  rw [hx] at i2
  rw [show whereI r xs = -1 by unfold whereI; rw [hon]; rfl] at i2
  have i4 := fun W => spec_fault s.k s.t s.f s.o s.n s.b unavS W (by have := hs.2.1; unfold maxLen; omega) (by have := hs.2.2.1; omega) (by have := hs.2.2.2.1; omega) (by have := hs.2.2.2.2; unfold maxLen; omega) (by rw [show unavS.size = _ from rfl]; first | done | (unfold maxLen; decide))
  simp only [fltV_M] at i4
  obtain ⟨Y, hY⟩ : ∃ Y, fltM s unavS = Y := ⟨_, rfl⟩
  rw [hY] at i4
  unfold msV unavS at i4
  rw [hY]
  clear hx hy hw hw2 hR1 hR2 hO1 hO2 hyes hmb hok hn5 hr hs hI h5 hon hY
  go_enter Tryz.func17, Tryz.ntmps17
  go_wp2_with (first
    | (go_at_call 26; have _ := HR2; go_fit (i4 _); rintro e w5 ⟨rfl, hb⟩; have HR5 := Lib.hid (HR2.out.on hb); have HE5 := Lib.hid (arr9_on HE2.out hb); have HV5 := Lib.hid (And.intro (HV2.out.1.on hb) (HV2.out.2.on hb)); clear hb; obtain ⟨⟨m0, m1⟩, _⟩ := arr9_two HR5.out.1; obtain ⟨⟨s0, s1, s2, s3, s4, s5⟩, _⟩ := arr_six0 HR5.out.2.1; obtain ⟨⟨r0, r1, r2, r3, r4, r5, r6, r7, r8, r9⟩, u0, u1, u2, u3, u4, u5, u6, u7, u8, u9⟩ := ten_all HR5.out.2.2.1; have hzA := arr9_lt HR5.out.1; have hzB := arr9_lt HR5.out.2.1; have hzC := arr9_lt HR5.out.2.2.1; obtain ⟨⟨e0, e1, e2, e3, e4, e5, e6, e7, e8, e9⟩, f0, f1, f2, f3, f4, f5, f6, f7, f8, f9⟩ := ten_all HE5.out; have hzE := arr9_lt HE5.out)
    | (go_at_call 40; go_fit (i2 _ (HP1.out _ HR1a.out.2.2.2)); rintro e w2 ⟨rfl, hb⟩; have HR2 := Lib.hid (HR1a.out.on hb); have HE2 := Lib.hid (arr9_on HE1a.out hb); have HV2 := Lib.hid (And.intro (HV1a.out.1.on hb) (HV1a.out.2.on hb)); clear hb; obtain ⟨⟨m0, m1⟩, _⟩ := arr9_two HR2.out.1; obtain ⟨⟨s0, s1, s2, s3, s4, s5⟩, _⟩ := arr_six0 HR2.out.2.1; obtain ⟨⟨r0, r1, r2, r3, r4, r5, r6, r7, r8, r9⟩, u0, u1, u2, u3, u4, u5, u6, u7, u8, u9⟩ := ten_all HR2.out.2.2.1; have hzA := arr9_lt HR2.out.1; have hzB := arr9_lt HR2.out.2.1; have hzC := arr9_lt HR2.out.2.2.1; obtain ⟨⟨e0, e1, e2, e3, e4, e5, e6, e7, e8, e9⟩, f0, f1, f2, f3, f4, f5, f6, f7, f8, f9⟩ := ten_all HE2.out; have hzE := arr9_lt HE2.out)
    | (go_at_call 23; go_fit (i1 _ (HO1.out _ HR.out.2.2.2) (HO2.out _ HR.out.2.2.2)); rintro e w1 ⟨⟨q1, l1, q2, l2, rfl, v1, v2⟩, hb⟩; have HR1 := Lib.hid (HR.out.on hb); have HR1a := Lib.hid (HR1.out.on ((Below.refl _ _).alloc (Nat.le_refl _) (.cells #[.slice q1 n1 l1, .slice q2 n2 l2, .slice none 0 0, .string ⟨#[]⟩, .string ⟨#[]⟩, .string ⟨#[]⟩, .string ⟨#[]⟩, .int .i64 0, .string ⟨#[]⟩, .int .i64 0] 37))); have HE1a := Lib.hid (Arr.fresh w1 37 [.slice q1 n1 l1, .slice q2 n2 l2, .slice none 0 0, .string ⟨#[]⟩, .string ⟨#[]⟩, .string ⟨#[]⟩, .string ⟨#[]⟩, .int .i64 0, .string ⟨#[]⟩, .int .i64 0]); have HV1 := Lib.hid (And.intro (v1.mono HR.out.big) (v2.mono HR.out.big)); have HV1a := Lib.hid (And.intro (HV1.out.1.alloc (.cells #[.slice q1 n1 l1, .slice q2 n2 l2, .slice none 0 0, .string ⟨#[]⟩, .string ⟨#[]⟩, .string ⟨#[]⟩, .string ⟨#[]⟩, .int .i64 0, .string ⟨#[]⟩, .int .i64 0] 37)) (HV1.out.2.alloc (.cells #[.slice q1 n1 l1, .slice q2 n2 l2, .slice none 0 0, .string ⟨#[]⟩, .string ⟨#[]⟩, .string ⟨#[]⟩, .string ⟨#[]⟩, .int .i64 0, .string ⟨#[]⟩, .int .i64 0] 37))); clear hb v1 v2; obtain ⟨⟨m0, m1⟩, _⟩ := arr9_two HR1.out.1; obtain ⟨⟨s0, s1, s2, s3, s4, s5⟩, _⟩ := arr_six0 HR1.out.2.1; obtain ⟨⟨r0, r1, r2, r3, r4, r5, r6, r7, r8, r9⟩, u0, u1, u2, u3, u4, u5, u6, u7, u8, u9⟩ := ten_all HR1.out.2.2.1; have hzA := arr9_lt HR1.out.1; have hzB := arr9_lt HR1.out.2.1; have hzC := arr9_lt HR1.out.2.2.1))
  have hb3 : w.heap.size + 3 ≤ w1.heap.size := HR1.out.big
  have HR9 := Lib.hid (RqB.put6b HR5.out (b := w1.heap.size) hb3 (.string Y.k) (.string Y.t) (.string Y.f) (.string Y.o) (.int .i64 Y.n) (.string Y.b)); have HE9 := Lib.hid ((((((HE5.out.put 3 (.string Y.k)).put 4 (.string Y.t)).put 5 (.string Y.f)).put 6 (.string Y.o)).put 7 (.int .i64 Y.n)).put 8 (.string Y.b)); have HV9 := Lib.hid (And.intro (own_put6b HV5.out.1 (own_ne10 HV5.out.1 HE5.out (by decide)) (.string Y.k) (.string Y.t) (.string Y.f) (.string Y.o) (.int .i64 Y.n) (.string Y.b)) (own_put6b HV5.out.2 (own_ne10 HV5.out.2 HE5.out (by decide)) (.string Y.k) (.string Y.t) (.string Y.f) (.string Y.o) (.int .i64 Y.n) (.string Y.b)))
  have hA := arr_put10 HR9.out.2.2.1 (.slice q1 n1 l1) (.slice q2 n2 l2) (.slice none 0 0) (.string Y.k) (.string Y.t) (.string Y.f) (.string Y.o) (.int .i64 Y.n) (.string Y.b) (.int .i64 0)
  have hBw := below_put10 HR9.out.2.2.2 (show w.heap.size ≤ w.heap.size + 1 + 1 by omega) (.slice q1 n1 l1) (.slice q2 n2 l2) (.slice none 0 0) (.string Y.k) (.string Y.t) (.string Y.f) (.string Y.o) (.int .i64 Y.n) (.string Y.b) (.int .i64 0)
  exact bodyPost_ret (v := .agg #[.slice q1 n1 l1, .slice q2 n2 l2, .slice none 0 0, .string Y.k, .string Y.t, .string Y.f, .string Y.o, .int .i64 Y.n, .string Y.b, .int .i64 0]) (results_cell_row (P := Tryz.prog) Tryz.results17 _ _ (w.heap.size + 1 + 1) 37 _ (0, 0) _ rfl hA Tryz.underlying37 rfl (by kernel_rfl)) rfl ⟨⟨q1, l1, q2, l2, none, 0, by unfold roV; rw [HX.out, HY.out]; rfl, by rw [HX.out]; exact (own_put10 HV9.out.1 (by omega) (.slice q1 n1 l1) (.slice q2 n2 l2) (.slice none 0 0) (.string Y.k) (.string Y.t) (.string Y.f) (.string Y.o) (.int .i64 Y.n) (.string Y.b) (.int .i64 0)).mono (by omega), by rw [HY.out]; exact (own_put10 HV9.out.2 (by omega) (.slice q1 n1 l1) (.slice q2 n2 l2) (.slice none 0 0) (.string Y.k) (.string Y.t) (.string Y.f) (.string Y.o) (.int .i64 Y.n) (.string Y.b) (.int .i64 0)).mono (by omega), ownC_nil _ _ _ _ _⟩, hBw⟩
set_option maxRecDepth 100000 in
set_option maxHeartbeats 8000000 in
theorem spec_riqn1 (xs : List SeL) (ys : List MsL) (p1 p2 : Option Addr) (n1 n2 c1 c2 : Nat) (s : MsL) (w : World) (hx : xs.length = n1) (hy : ys.length = n2) (hn1 : n1 ≤ 1048576) (hn2 : n2 ≤ 1048576) (hw : SzS xs) (hw2 : SzM ys) (hs : s.le 1048576) (B0 : Nat) (hO1 : OwnC seC w B0 70 4 (.slice p1 n1 c1) xs) (hO2 : OwnC msC w B0 35 6 (.slice p2 n2 c2) ys) (hyes : routB kIq xs ys s = true) (hr0 : ((resA s.o).toList == []) = false) (hon : hereB (resA s.o) xs = false) (h2 : (s.t.toList == [103, 101, 116]) = false) (h3 : (s.t.toList == [115, 101, 116]) = false) :
    Calls Tryz.prog 17 #[.agg #[.slice p1 n1 c1, .slice p2 n2 c2], .agg #[.string s.k, .string s.t, .string s.f, .string s.o, .int .i64 s.n, .string s.b]] w fun e w' => RoIs w.heap.size ⟨xs, ys, [], zMs, 0⟩ e w' ∧ Below w.heap.size w w' := by
  have hR1 := row_own9 hO1
  have hR2 := row_ownM hO2
  have HR := Lib.hid (rqb_start w p1 n1 c1 p2 n2 c2 s)
  have HP1 := Lib.hid (fun W (h : Below w.heap.size w W) => hR1.on h)
  have HP2 := Lib.hid (fun W (h : Below w.heap.size w W) => hR2.on h)
  have HO1 := Lib.hid (fun W (h : Below w.heap.size w W) => hO1.on h)
  have HO2 := Lib.hid (fun W (h : Below w.heap.size w W) => hO2.on h)
  have HX := Lib.hid hx
  have HY := Lib.hid hy
  have hmb : mbB xs ys = true := by unfold routB at hyes; simp only [Bool.and_eq_true] at hyes; exact hyes.1.1.1
  obtain ⟨hok, hn5, _⟩ := mb_parts hmb
  have i1 := fun W h1 h2 => spec_beginT kIq xs ys p1 p2 n1 n2 c1 c2 s W hx hy hn1 hn2 hw hw2 hs B0 h1 h2 hyes
  unfold kIq at i1
  obtain ⟨r, hr⟩ : ∃ r, resA s.o = r := ⟨_, rfl⟩
  rw [hr] at i1 hon hr0
  have hr1 : r.toList ≠ [] := by simpa using hr0
  have hr2 : r.toList.isEmpty = false := by simpa using hr1
  have hI := (okB_iff.1 hok).2.1
  have h5 := (okB_iff.1 hok).1
  have i2 := fun W hR => spec_at9 xs r p1 c1 W (by omega) hI hR
  rw [hx] at i2
  rw [show whereI r xs = -1 by unfold whereI; rw [hon]; rfl] at i2
  clear hx hy hw hw2 hR1 hR2 hO1 hO2 hyes hmb hok hn5 hr hs hI h5 hon
  go_enter Tryz.func17, Tryz.ntmps17
  go_wp2_with (first
    | (go_at_call 40; go_fit (i2 _ (HP1.out _ HR1a.out.2.2.2)); rintro e w2 ⟨rfl, hb⟩; have HR2 := Lib.hid (HR1a.out.on hb); have HE2 := Lib.hid (arr9_on HE1a.out hb); have HV2 := Lib.hid (And.intro (HV1a.out.1.on hb) (HV1a.out.2.on hb)); clear hb; obtain ⟨⟨m0, m1⟩, _⟩ := arr9_two HR2.out.1; obtain ⟨⟨s0, s1, s2, s3, s4, s5⟩, _⟩ := arr_six0 HR2.out.2.1; obtain ⟨⟨r0, r1, r2, r3, r4, r5, r6, r7, r8, r9⟩, u0, u1, u2, u3, u4, u5, u6, u7, u8, u9⟩ := ten_all HR2.out.2.2.1; have hzA := arr9_lt HR2.out.1; have hzB := arr9_lt HR2.out.2.1; have hzC := arr9_lt HR2.out.2.2.1; obtain ⟨⟨e0, e1, e2, e3, e4, e5, e6, e7, e8, e9⟩, f0, f1, f2, f3, f4, f5, f6, f7, f8, f9⟩ := ten_all HE2.out; have hzE := arr9_lt HE2.out)
    | (go_at_call 23; go_fit (i1 _ (HO1.out _ HR.out.2.2.2) (HO2.out _ HR.out.2.2.2)); rintro e w1 ⟨⟨q1, l1, q2, l2, rfl, v1, v2⟩, hb⟩; have HR1 := Lib.hid (HR.out.on hb); have HR1a := Lib.hid (HR1.out.on ((Below.refl _ _).alloc (Nat.le_refl _) (.cells #[.slice q1 n1 l1, .slice q2 n2 l2, .slice none 0 0, .string ⟨#[]⟩, .string ⟨#[]⟩, .string ⟨#[]⟩, .string ⟨#[]⟩, .int .i64 0, .string ⟨#[]⟩, .int .i64 0] 37))); have HE1a := Lib.hid (Arr.fresh w1 37 [.slice q1 n1 l1, .slice q2 n2 l2, .slice none 0 0, .string ⟨#[]⟩, .string ⟨#[]⟩, .string ⟨#[]⟩, .string ⟨#[]⟩, .int .i64 0, .string ⟨#[]⟩, .int .i64 0]); have HV1 := Lib.hid (And.intro (v1.mono HR.out.big) (v2.mono HR.out.big)); have HV1a := Lib.hid (And.intro (HV1.out.1.alloc (.cells #[.slice q1 n1 l1, .slice q2 n2 l2, .slice none 0 0, .string ⟨#[]⟩, .string ⟨#[]⟩, .string ⟨#[]⟩, .string ⟨#[]⟩, .int .i64 0, .string ⟨#[]⟩, .int .i64 0] 37)) (HV1.out.2.alloc (.cells #[.slice q1 n1 l1, .slice q2 n2 l2, .slice none 0 0, .string ⟨#[]⟩, .string ⟨#[]⟩, .string ⟨#[]⟩, .string ⟨#[]⟩, .int .i64 0, .string ⟨#[]⟩, .int .i64 0] 37))); clear hb v1 v2; obtain ⟨⟨m0, m1⟩, _⟩ := arr9_two HR1.out.1; obtain ⟨⟨s0, s1, s2, s3, s4, s5⟩, _⟩ := arr_six0 HR1.out.2.1; obtain ⟨⟨r0, r1, r2, r3, r4, r5, r6, r7, r8, r9⟩, u0, u1, u2, u3, u4, u5, u6, u7, u8, u9⟩ := ten_all HR1.out.2.2.1; have hzA := arr9_lt HR1.out.1; have hzB := arr9_lt HR1.out.2.1; have hzC := arr9_lt HR1.out.2.2.1))
  have hb3 : w.heap.size + 3 ≤ w1.heap.size := HR1.out.big
  have hA := arr_put10 HR2.out.2.2.1 (.slice q1 n1 l1) (.slice q2 n2 l2) (.slice none 0 0) (.string ⟨#[]⟩) (.string ⟨#[]⟩) (.string ⟨#[]⟩) (.string ⟨#[]⟩) (.int .i64 0) (.string ⟨#[]⟩) (.int .i64 0)
  have hBw := below_put10 HR2.out.2.2.2 (show w.heap.size ≤ w.heap.size + 1 + 1 by omega) (.slice q1 n1 l1) (.slice q2 n2 l2) (.slice none 0 0) (.string ⟨#[]⟩) (.string ⟨#[]⟩) (.string ⟨#[]⟩) (.string ⟨#[]⟩) (.int .i64 0) (.string ⟨#[]⟩) (.int .i64 0)
  exact bodyPost_ret (v := .agg #[.slice q1 n1 l1, .slice q2 n2 l2, .slice none 0 0, .string ⟨#[]⟩, .string ⟨#[]⟩, .string ⟨#[]⟩, .string ⟨#[]⟩, .int .i64 0, .string ⟨#[]⟩, .int .i64 0]) (results_cell_row (P := Tryz.prog) Tryz.results17 _ _ (w.heap.size + 1 + 1) 37 _ (0, 0) _ rfl hA Tryz.underlying37 rfl (by kernel_rfl)) rfl ⟨⟨q1, l1, q2, l2, none, 0, by unfold roV; rw [HX.out, HY.out]; rfl, by rw [HX.out]; exact (own_put10 HV2.out.1 (by omega) (.slice q1 n1 l1) (.slice q2 n2 l2) (.slice none 0 0) (.string ⟨#[]⟩) (.string ⟨#[]⟩) (.string ⟨#[]⟩) (.string ⟨#[]⟩) (.int .i64 0) (.string ⟨#[]⟩) (.int .i64 0)).mono (by omega), by rw [HY.out]; exact (own_put10 HV2.out.2 (by omega) (.slice q1 n1 l1) (.slice q2 n2 l2) (.slice none 0 0) (.string ⟨#[]⟩) (.string ⟨#[]⟩) (.string ⟨#[]⟩) (.string ⟨#[]⟩) (.int .i64 0) (.string ⟨#[]⟩) (.int .i64 0)).mono (by omega), ownC_nil _ _ _ _ _⟩, hBw⟩
theorem wt1 {T : RtL} {xs : List SeL} {ys : List MsL} {s : MsL} {L : List ByteArray} (h : T.to (resA s.o) xs = L) (h2 : L.length ≠ 0) : withT T xs ys s = ⟨xs, ys, L, zMs, 0⟩ := by
  unfold withT
  rw [h, if_pos h2]
theorem wt2 {T : RtL} {xs : List SeL} {ys : List MsL} {s : MsL} {y : MsL} (h : T.to (resA s.o) xs = []) (h2 : T.rest ys s = y) (h3 : y ≠ s) : withT T xs ys s = ⟨xs, ys, [], y, 0⟩ := by
  unfold withT
  rw [h, h2, if_neg (by simp), if_neg h3]
theorem wt3 {T : RtL} {xs : List SeL} {ys : List MsL} {s : MsL} (h : T.to (resA s.o) xs = []) (h2 : T.rest ys s = s) : withT T xs ys s = ⟨xs, ys ++ [s], [], zMs, 0⟩ := by
  unfold withT
  rw [h, h2, if_neg (by simp), if_pos rfl]
theorem ne_z {k : ByteArray} {xs : List SeL} {ys : List MsL} {s : MsL} (hk : k.toList ≠ []) (h : routB k xs ys s = true) : zMs ≠ s := by
  intro e
  have := cmp_z hk h
  rw [e] at this
  simp at this
theorem ne_flt {k : ByteArray} {xs : List SeL} {ys : List MsL} {s : MsL} (nm : ByteArray) (hk : k.toList ≠ []) (h : routB k xs ys s = true) : fltM s nm ≠ s := by
  intro e
  rcases cmp_flt (nm := nm) hk h with h1 | ⟨_, h1⟩
  · rw [e] at h1
    simp at h1
  · rw [e] at h1
    simp at h1
theorem r_size {r : ByteArray} (h : (r.toList == []) = true) : r.size = 0 := by
  have h1 : r.toList = [] := by simpa using h
  rw [ByteArray.toList_eq] at h1
  rw [← size_data, h1]
  rfl
theorem r_full {r : ByteArray} {xs : List SeL} (hok : okB xs = true) (h : hereB r xs = true) : (r.toList == []) = false := by
  cases hr : (r.toList == [])
  · rfl
  · rw [here_empty hok (r_size hr)] at h
    cases h
theorem on_full {r : ByteArray} {xs : List SeL} (h : onB r xs = true) : hereB r xs = true := by
  unfold onB at h
  simp only [Bool.and_eq_true] at h
  exact h.1
theorem spec_rmess (xs : List SeL) (ys : List MsL) (p1 p2 : Option Addr) (n1 n2 c1 c2 : Nat) (s : MsL) (w : World) (hx : xs.length = n1) (hy : ys.length = n2) (hn1 : n1 ≤ 1048576) (hn2 : n2 ≤ 1048576) (hw : SzS xs) (hw2 : SzM ys) (hs : s.le 1048576) (B0 : Nat) (hO1 : OwnC seC w B0 70 4 (.slice p1 n1 c1) xs) (hO2 : OwnC msC w B0 35 6 (.slice p2 n2 c2) ys) :
    Calls Tryz.prog 8 #[.agg #[.slice p1 n1 c1, .slice p2 n2 c2], .agg #[.string s.k, .string s.t, .string s.f, .string s.o, .int .i64 s.n, .string s.b]] w fun e w' => RoIs w.heap.size (messR xs ys s) e w' ∧ Below w.heap.size w w' := by
  unfold messR routeR
  cases hyes : routB kMess xs ys s
  · rw [if_neg (by decide)]
    exact spec_rmessF xs ys p1 p2 n1 n2 c1 c2 s w hx hy hn1 hn2 hw hw2 hs B0 hO1 hO2 hyes
  rw [if_pos rfl]
  have hmb : mbB xs ys = true := by unfold routB at hyes; simp only [Bool.and_eq_true] at hyes; exact hyes.1.1.1
  obtain ⟨hok, hn5, _⟩ := mb_parts hmb
  have hI := (okB_iff.1 hok).2.1
  have hz := ne_z mess_ne hyes
  unfold mesT
  rw [err_list, head_list, grp_list]
  cases hte : (s.t.toList == [101, 114, 114, 111, 114])
  rotate_left
  · rw [if_pos rfl, wt2 (T := noneT) rfl rfl hz]
    exact spec_rmessE xs ys p1 p2 n1 n2 c1 c2 s w hx hy hn1 hn2 hw hw2 hs B0 hO1 hO2 hyes hte
  rw [if_neg (by decide)]
  cases hon : onB (resA s.o) xs
  rotate_left
  · have e := spec_rmessO xs ys p1 p2 n1 n2 c1 c2 s w hx hy hn1 hn2 hw hw2 hs B0 hO1 hO2 hyes hte hon (r_full hok (on_full hon))
    have hnb : nbL (resA s.o) xs = [resA s.o] := by rw [nb_eq hI, hon]; rfl
    have hnm : namedL (resA s.o) xs = [resA s.o] := by rw [named_eq hI, hon]; rfl
    split
    · rw [wt1 (T := headT) hnb (by simp)]
      exact e
    · split
      · rw [wt1 (T := grpT) hnm (by simp)]
        exact e
      · rw [wt1 (T := elseT) hnb (by simp)]
        exact e
  have hnb : nbL (resA s.o) xs = bestR xs := by rw [nb_eq hI, hon]; rfl
  have hnm : namedL (resA s.o) xs = [] := by rw [named_eq hI, hon]; rfl
  cases h2 : (s.t.toList == [104, 101, 97, 100, 108, 105, 110, 101])
  rotate_left
  · rw [if_pos rfl]
    have e := (by
      cases hr : ((resA s.o).toList == [])
      · exact spec_rmessH1 xs ys p1 p2 n1 n2 c1 c2 s w hx hy hn1 hn2 hw hw2 hs B0 hO1 hO2 hyes hte hr hon h2
      · exact spec_rmessH0 xs ys p1 p2 n1 n2 c1 c2 s w hx hy hn1 hn2 hw hw2 hs B0 hO1 hO2 hyes hte (r_size hr) h2)
    by_cases h4 : (bestR xs).length = 0
    · rw [List.eq_nil_of_length_eq_zero h4] at hnb e
      rw [wt2 (T := headT) hnb rfl hz]
      exact e
    · rw [wt1 (T := headT) hnb h4]
      exact e
  rw [if_neg (by decide)]
  cases h3 : (s.t.toList == [103, 114, 111, 117, 112, 99, 104, 97, 116])
  rotate_left
  · rw [if_pos rfl, wt2 (T := grpT) hnm rfl (ne_flt unavS mess_ne hyes)]
    exact (by
      cases hr : ((resA s.o).toList == [])
      · exact spec_rmessG1 xs ys p1 p2 n1 n2 c1 c2 s w hx hy hn1 hn2 hw hw2 hs B0 hO1 hO2 hyes hte hr hon h2 h3
      · exact spec_rmessG0 xs ys p1 p2 n1 n2 c1 c2 s w hx hy hn1 hn2 hw hw2 hs B0 hO1 hO2 hyes hte (r_size hr) h2 h3)
  rw [if_neg (by decide)]
  by_cases h4 : (bestR xs).length = 0
  rotate_left
  · rw [wt1 (T := elseT) hnb h4]
    exact (by
      cases hr : ((resA s.o).toList == [])
      · exact spec_rmessB1 xs ys p1 p2 n1 n2 c1 c2 s w hx hy hn1 hn2 hw hw2 hs B0 hO1 hO2 hyes hte hr hon h2 h3 h4
      · exact spec_rmessB0 xs ys p1 p2 n1 n2 c1 c2 s w hx hy hn1 hn2 hw hw2 hs B0 hO1 hO2 hyes hte (r_size hr) h2 h3 h4)
  have hb0 := List.eq_nil_of_length_eq_zero h4
  rw [hb0] at hnb
  by_cases h6 : 5 ≤ n2
  · have e := (by
      cases hr : ((resA s.o).toList == [])
      · exact spec_rmessF1 xs ys p1 p2 n1 n2 c1 c2 s w hx hy hn1 hn2 hw hw2 hs B0 hO1 hO2 hyes hte hr hon h2 h3 h4 h6
      · exact spec_rmessF0 xs ys p1 p2 n1 n2 c1 c2 s w hx hy hn1 hn2 hw hw2 hs B0 hO1 hO2 hyes hte (r_size hr) h2 h3 h4 h6)
    rw [hb0] at e
    rw [wt2 (T := elseT) hnb (show fullM ys s = fltM s fullS from if_pos (by omega)) (ne_flt fullS mess_ne hyes)]
    exact e
  · have e := (by
      cases hr : ((resA s.o).toList == [])
      · exact spec_rmessK1 xs ys p1 p2 n1 n2 c1 c2 s w hx hy hn1 hn2 hw hw2 hs B0 hO1 hO2 hyes hte hr hon h2 h3 h4 (by omega)
      · exact spec_rmessK0 xs ys p1 p2 n1 n2 c1 c2 s w hx hy hn1 hn2 hw hw2 hs B0 hO1 hO2 hyes hte (r_size hr) h2 h3 h4 (by omega))
    rw [hb0] at e
    rw [wt3 (T := elseT) hnb (show fullM ys s = s from if_neg (by omega))]
    exact e
theorem spec_riq (xs : List SeL) (ys : List MsL) (p1 p2 : Option Addr) (n1 n2 c1 c2 : Nat) (s : MsL) (w : World) (hx : xs.length = n1) (hy : ys.length = n2) (hn1 : n1 ≤ 1048576) (hn2 : n2 ≤ 1048576) (hw : SzS xs) (hw2 : SzM ys) (hs : s.le 1048576) (B0 : Nat) (hO1 : OwnC seC w B0 70 4 (.slice p1 n1 c1) xs) (hO2 : OwnC msC w B0 35 6 (.slice p2 n2 c2) ys) :
    Calls Tryz.prog 17 #[.agg #[.slice p1 n1 c1, .slice p2 n2 c2], .agg #[.string s.k, .string s.t, .string s.f, .string s.o, .int .i64 s.n, .string s.b]] w fun e w' => RoIs w.heap.size (iqR xs ys s) e w' ∧ Below w.heap.size w w' := by
  unfold iqR routeR
  cases hyes : routB kIq xs ys s
  · rw [if_neg (by decide)]
    exact spec_riqF xs ys p1 p2 n1 n2 c1 c2 s w hx hy hn1 hn2 hw hw2 hs B0 hO1 hO2 hyes
  rw [if_pos rfl]
  have hmb : mbB xs ys = true := by unfold routB at hyes; simp only [Bool.and_eq_true] at hyes; exact hyes.1.1.1
  obtain ⟨hok, hn5, _⟩ := mb_parts hmb
  have hI := (okB_iff.1 hok).2.1
  have hz := ne_z iq_ne hyes
  unfold iqT
  rw [get_list, set_list]
  cases hon : hereB (resA s.o) xs
  rotate_left
  · have e := spec_riqO xs ys p1 p2 n1 n2 c1 c2 s w hx hy hn1 hn2 hw hw2 hs B0 hO1 hO2 hyes hon (r_full hok hon)
    have hbd : boundL (resA s.o) xs = [resA s.o] := by rw [bound_eq hI, hon]; rfl
    split
    · rw [wt1 (T := askT) hbd (by simp)]
      exact e
    · rw [wt1 (T := tellT) hbd (by simp)]
      exact e
  have hbd : boundL (resA s.o) xs = [] := by rw [bound_eq hI, hon]; rfl
  cases h2 : (s.t.toList == [103, 101, 116])
  rotate_left
  · rw [Bool.true_or, if_pos rfl, wt2 (T := askT) hbd rfl (ne_flt unavS iq_ne hyes)]
    exact (by
      cases hr : ((resA s.o).toList == [])
      · exact spec_riqg1 xs ys p1 p2 n1 n2 c1 c2 s w hx hy hn1 hn2 hw hw2 hs B0 hO1 hO2 hyes  hr hon h2
      · exact spec_riqg0 xs ys p1 p2 n1 n2 c1 c2 s w hx hy hn1 hn2 hw hw2 hs B0 hO1 hO2 hyes  (r_size hr) h2)
  cases h3 : (s.t.toList == [115, 101, 116])
  · rw [if_neg (by decide), wt2 (T := tellT) hbd rfl hz]
    exact (by
      cases hr : ((resA s.o).toList == [])
      · exact spec_riqn1 xs ys p1 p2 n1 n2 c1 c2 s w hx hy hn1 hn2 hw hw2 hs B0 hO1 hO2 hyes  hr hon h2 h3
      · exact spec_riqn0 xs ys p1 p2 n1 n2 c1 c2 s w hx hy hn1 hn2 hw hw2 hs B0 hO1 hO2 hyes  (r_size hr) h2 h3)
  · rw [Bool.false_or, if_pos rfl, wt2 (T := askT) hbd rfl (ne_flt unavS iq_ne hyes)]
    exact (by
      cases hr : ((resA s.o).toList == [])
      · exact spec_riqs1 xs ys p1 p2 n1 n2 c1 c2 s w hx hy hn1 hn2 hw hw2 hs B0 hO1 hO2 hyes  hr hon h2 h3
      · exact spec_riqs0 xs ys p1 p2 n1 n2 c1 c2 s w hx hy hn1 hn2 hw hw2 hs B0 hO1 hO2 hyes  (r_size hr) h2 h3)
end Go.Proofs.YtpjmcpfmnlfmdaaGreat
