/- What the document's BlockAdd and BlockDel answer. -/
import Derived.Test.YtpjmcpfmnlfmdaaBkOps
import Derived.Test.YtpjmcpfmnlfmdaaBkLawR
namespace Go.Proofs.Ytpjmcpfmnlfmdaa
set_option linter.unusedSimpArgs false
set_option linter.unusedVariables false
open Go.RowKit Go.Joins

theorem one_allX (xs : List ByteArray) : ∀ u ∈ xs.flatMap strC, u.oneCell' = true := by rw [flat_tx]; exact one_str
theorem flat_lenX (xs : List ByteArray) : (xs.flatMap strC).length = xs.length := by rw [flat_tx, List.length_map]
theorem empty_rowX (W : World) : OwnC strC (W.alloc (.cells #[] 9)) W.heap.size 9 1 (.slice (some ⟨W.heap.size, 0, none⟩) 0 0) [] :=
  World.ownsRow_lit W #[] 0 (Nat.le_refl _) (Nat.zero_le _) rfl
/-- append(v, part...): the part's elements lie at an address. -/
theorem wp_app_subX {o : Oper} {a : Act} {w : World} {K : Act → World → Prop} {Q : Exit → Act → World → Prop} (s x : Operand)
    (ho : o.op = .call { callee := .builtin .append, args := #[s, x], argTypes := #[23, 23] })
    (B : Nat) (v : Value) (ys : List ByteArray) (hs : a.eval s = v) (hown : OwnC strC w B 9 1 v ys) (g off m c : Nat) (zs : List ByteArray) (hx : a.eval x = .slice (some ⟨g, off, none⟩) m c) (hm : zs.length = m)
    (hcells : ∀ i (h : i < zs.length), w.cell? ⟨g, off + i, none⟩ = some (.string zs[i]))
    (hlen : ys.length + zs.length ≤ 2000000) (hB : B ≤ w.heap.size) (h : ∀ v' w', OwnC strC w' B 9 1 v' (ys ++ zs) → w.grownBy w' v.ownBlock → K (a.put o.dst v') w') : o.wp Try.prog a w K Q := by
  obtain ⟨i0, hi, hz0, hz1, hz2⟩ := info_parts info_tx
  subst hm
  refine wp_append_own w s x 23 ho B 9 i0 _ 1 16 Try.underlying23 hi hz0 hz1 hz2 rfl (by decide) v ys.length (ys.flatMap strC) hs hown ⟨g, off, none⟩ zs.length c (zs.flatMap strC) hx (by rw [flat_lenX, Nat.mul_one]) (fun j u hj => ?_) (one_allX zs) (by unfold maxLen; omega) (by omega) hB (fun v' w' h1 h2 _ => h v' w' ?_ h2)
  · have hlt : j < zs.length := by
      have := (List.getElem?_eq_some_iff.1 hj).1
      rwa [flat_lenX] at this
    rw [flat_tx, List.getElem?_map, List.getElem?_eq_getElem hlt] at hj
    rw [show (⟨g, off, none⟩ : Addr).add j = ⟨g, off + j, none⟩ by unfold Addr.add; split <;> simp_all, hcells j hlt]
    exact hj
  · show w'.ownsRow B _ 1 v' (ys ++ zs).length ((ys ++ zs).flatMap strC)
    rw [List.length_append, List.flatMap_append]
    exact h1
theorem wp_app_oneX {o : Oper} {a : Act} {w : World} {K : Act → World → Prop} {Q : Exit → Act → World → Prop} (s x : Operand)
    (ho : o.op = .call { callee := .builtin .append, args := #[s, x], argTypes := #[23, 23] })
    (B : Nat) (v : Value) (ys : List ByteArray) (hs : a.eval s = v) (hown : OwnC strC w B 9 1 v ys) (g : Nat) (z : ByteArray) (hx : a.eval x = .slice (some ⟨g, 0, none⟩) 1 1) (hA : Arr w g 9 [.string z])
    (hlen : ys.length ≤ 1000000) (hB : B ≤ w.heap.size) (h : ∀ v' w', OwnC strC w' B 9 1 v' (ys ++ [z]) → w.grownBy w' v.ownBlock → K (a.put o.dst v') w') : o.wp Try.prog a w K Q :=
  wp_app_subX s x ho B v ys hs hown g 0 1 1 [z] hx rfl (fun i hi => by
    have h0 : i = 0 := by simp at hi; omega
    subst h0
    exact hA.cell 0) (by show ys.length + 1 ≤ 2000000; omega) hB h
theorem fresh2X (W : World) (o : Obj) (j : ByteArray) : Arr ((W.alloc o).alloc (.cells #[.string j] 9)) (W.heap.size + 1) 9 [.string j] := by
  have := Arr.fresh (W.alloc o) 9 [.string j]
  rw [World.size_alloc] at this
  exact this
/-- append(v, nothing...). -/
theorem wp_app_nilX {o : Oper} {a : Act} {w : World} {K : Act → World → Prop} {Q : Exit → Act → World → Prop} (s x : Operand)
    (ho : o.op = .call { callee := .builtin .append, args := #[s, x], argTypes := #[23, 23] })
    (B : Nat) (v : Value) (ys : List ByteArray) (hs : a.eval s = v) (hown : OwnC strC w B 9 1 v ys) (hx : a.eval x = .slice none 0 0)
    (h : K (a.put o.dst v) w) : o.wp Try.prog a w K Q := by
  obtain ⟨i0, hi, hz0, hz1, hz2⟩ := info_parts info_tx
  have hr := run_append_owned_none (P := Try.prog) (w := w) B 23 o.type 9 i0 1 Try.underlying23 hi v ys.length (ys.flatMap strC) hown
  unfold Oper.wp execOp
  simp only [ho, resolve, invoke, builtin, Sem.run_bind, Sem.run_pure, Result.andThen_ok, List.map_toArray, List.map_cons, List.map_nil, hs, hx, hr]
  exact h
theorem spec_inX (xs : List ByteArray) (j : ByteArray) (p : Option Addr) (c : Nat) (w : World) (hn : xs.length ≤ 1000) (hR : RowC strC 1 w p xs) :
    Calls Try.prog 50 #[.slice p xs.length c, .string j] w fun e w' => e = .returned (.bool (xs.any fun x => x.toList == j.toList)) ∧ Below w.heap.size w w' := by
  obtain ⟨n, hxn⟩ : ∃ n, xs.length = n := ⟨_, rfl⟩
  have HP := Lib.hid (fun W (h : Below w.heap.size w W) => hR.on h)
  have HN := Lib.hid hxn
  obtain ⟨Z, hZ⟩ : ∃ Z, (xs.any fun x => x.toList == j.toList) = Z := ⟨_, rfl⟩
  have HZ := Lib.hid hZ
  rw [hxn] at hn ⊢
  rw [hZ]
  clear hR hxn hZ
  go_enter Try.func50, Try.ntmps50
  go_wp2
  go_loopw [5] (fun iq wr => ∃ k : Nat, k ≤ n ∧ iq = .int .i64 k ∧ (∀ i (h : i < xs.length), i < k → (xs[i].toList == j.toList) = false) ∧ Below w.heap.size w wr) (fun i _ => n - (intOf i).toNat)
  case atStart => exact ⟨0, Nat.zero_le _, rfl, fun i _ h => absurd h (Nat.not_lt_zero _), Below.refl _ _⟩
  case round =>
    obtain ⟨k, hk, rfl, hA, hb⟩ := hrel
    have HA := Lib.hid hA
    have HB := Lib.hid hb
    clear hA
    by_cases hlt : k < n
    · have hlt1 : k < xs.length := by rw [HN.out]; exact hlt
      obtain ⟨g, rfl, hg, a0⟩ := row_tx (HP.out _ hb) hlt1
      obtain ⟨x, hx⟩ : ∃ x, xs[k] = x := ⟨_, rfl⟩
      have HX := Lib.hid hx
      rw [hx] at a0
      obtain ⟨b, hbx⟩ : ∃ b, (x.toList == j.toList) = b := ⟨_, rfl⟩
      have HBX := Lib.hid hbx
      clear hb hx
      cases b
      · go_wp2
        go_roundw
        case rel =>
          refine ⟨k + 1, by omega, by go_num, fun i hi h => ?_, HB.out⟩
          by_cases e : i = k
          · subst e; rw [HX.out]; exact HBX.out
          · exact HA.out i hi (by omega)
        case measure => simp [intOf]; omega
      · have HL : Hid (Z = true) := Lib.hid (by
          rw [← HZ.out, List.any_eq_true]
          exact ⟨xs[k], List.getElem_mem _, by rw [HX.out]; exact HBX.out⟩)
        go_wp2
        go_ret
        exact ⟨ret_bool HL.out.symm, HB.out⟩
    · have HL : Hid (Z = false) := Lib.hid (by
        rw [← HZ.out, List.any_eq_false]
        intro x hx
        obtain ⟨i, hi, rfl⟩ := List.mem_iff_getElem.1 hx
        rw [HA.out i hi (by rw [HN.out] at hi; omega)]
        decide)
      clear hb
      go_wp2
      go_ret
      exact ⟨ret_bool HL.out.symm, HB.out⟩
set_option maxRecDepth 100000 in
set_option maxHeartbeats 2000000 in
theorem spec_outX (xs : List ByteArray) (j : ByteArray) (p : Option Addr) (c : Nat) (w : World) (hn : xs.length ≤ 1000) (hR : RowC strC 1 w p xs) :
    Calls Try.prog 53 #[.slice p xs.length c, .string j] w fun e w' => (∃ q k, e = .returned (.slice q (xs.filter fun x => !(x.toList == j.toList)).length k) ∧ OwnC strC w' w.heap.size 9 1 (.slice q (xs.filter fun x => !(x.toList == j.toList)).length k) (xs.filter fun x => !(x.toList == j.toList))) ∧ Below w.heap.size w w' := by
  obtain ⟨n, hxn⟩ : ∃ n, xs.length = n := ⟨_, rfl⟩
  have HP := Lib.hid (fun W (h : Below w.heap.size w W) => hR.on h)
  have HN := Lib.hid hxn
  obtain ⟨f, hf⟩ : ∃ f : ByteArray → Bool, (fun x => !(x.toList == j.toList)) = f := ⟨_, rfl⟩
  have HF : Hid (∀ x, f x = !(x.toList == j.toList)) := Lib.hid (fun x => by rw [← hf])
  rw [hxn] at hn ⊢
  rw [hf]
  clear hR hxn hf
  go_enter Try.func53, Try.ntmps53
  go_wp2
  have HV0 := Lib.hid (empty_rowX w)
  have HB0 : Hid (Below w.heap.size w (w.alloc (.cells #[] 9))) := Lib.hid ((Below.refl _ _).alloc (Nat.le_refl _) _)
  go_loopw [5, 6] (fun sq iq wr => ∃ k : Nat, k ≤ n ∧ iq = .int .i64 k ∧ OwnC strC wr w.heap.size 9 1 sq ((xs.take k).filter f) ∧ Below w.heap.size w wr) (fun _ i _ => n - (intOf i).toNat)
  case atStart => exact ⟨0, Nat.zero_le _, rfl, HV0.out, HB0.out⟩
  case round =>
    obtain ⟨k, hk, rfl, hv, hb⟩ := hrel
    obtain ⟨q0, k0, hv0⟩ := own_lenX hv
    subst hv0
    have HV := Lib.hid hv
    have HB := Lib.hid hb
    clear hv
    by_cases hlt : k < n
    · have hlt1 : k < xs.length := by rw [HN.out]; exact hlt
      obtain ⟨g, rfl, hg, a0⟩ := row_tx (HP.out _ hb) hlt1
      obtain ⟨x, hx⟩ : ∃ x, xs[k] = x := ⟨_, rfl⟩
      rw [hx] at a0
      have HT : Hid (xs.take (k + 1) = xs.take k ++ [x]) := Lib.hid (by rw [List.take_succ_eq_append_getElem hlt1, hx])
      have HL : Hid (((xs.take k).filter f).length ≤ 1000) := Lib.hid (Nat.le_trans (List.length_filter_le _ _) (by rw [List.length_take]; omega))
      obtain ⟨b, hbx⟩ : ∃ b, (x.toList == j.toList) = b := ⟨_, rfl⟩
      have HBX := Lib.hid hbx
      clear hb hx
      cases b
      · have HE : Hid ((xs.take (k + 1)).filter f = (xs.take k).filter f ++ [x]) := Lib.hid (by rw [HT.out, List.filter_append, List.filter_cons, if_pos (by rw [HF.out, HBX.out]; rfl)]; rfl)
        go_wp2_with (at_builtin; refine wpList_plain rfl fun K hK => ?_; refine wp_app_oneX _ _ rfl w.heap.size _ _ rfl (HV.out.alloc _) wr.heap.size x rfl (Arr.fresh wr 9 [.string x]) (by have := HL.out; omega) (by rw [World.size_alloc]; have := HB.out.size; omega) ?_; intro v2 w2 hv2 hg2; have HV2 := Lib.hid hv2; have HB2 : Hid (Below w.heap.size w w2) := Lib.hid ((HB.out.alloc HB.out.size _).grown hg2 (HB.out.alloc HB.out.size _).size (fun k hk => own_base HV.out k hk)); clear hv2 hg2; refine hK _ _ ?_)
        go_roundw
        case rel => exact ⟨k + 1, by omega, by go_num, by rw [HE.out]; exact HV2.out, HB2.out⟩
        case measure => simp [intOf]; omega
      · have HE : Hid ((xs.take (k + 1)).filter f = (xs.take k).filter f) := Lib.hid (by rw [HT.out, List.filter_append, List.filter_cons, if_neg (by rw [HF.out, HBX.out]; decide)]; simp)
        go_wp2
        go_roundw
        case rel => exact ⟨k + 1, by omega, by go_num, by rw [HE.out]; exact HV.out, HB.out⟩
        case measure => simp [intOf]; omega
    · obtain rfl : k = n := by omega
      have HT : Hid (xs.take k = xs) := Lib.hid (List.take_of_length_le (by rw [HN.out]; exact Nat.le_refl _))
      clear hb
      go_wp2
      go_ret
      have hv := HV.out
      rw [HT.out] at hv ⊢
      exact ⟨⟨q0, k0, rfl, hv⟩, HB.out⟩
set_option maxRecDepth 100000 in
set_option maxHeartbeats 2000000 in
theorem spec_putX (xs : List ByteArray) (j : ByteArray) (n P : Nat) (p : Option Addr) (c B0 : Nat) (w : World) (hxn : xs.length = n) (hn : n ≤ 8) (hP : posT j xs = P) (hO : OwnC strC w B0 9 1 (.slice p n c) xs) :
    Calls Try.prog 51 #[.slice p n c, .string j] w fun e w' => (∃ q k, e = .returned (.slice q (n + 1) k) ∧ OwnC strC w' w.heap.size 9 1 (.slice q (n + 1) k) (xs.take P ++ [j] ++ xs.drop P)) ∧ Below w.heap.size w w' := by
  have HO := Lib.hid (fun W (h : Below w.heap.size w W) => hO.on h)
  have HN := Lib.hid hxn
  have hple : P ≤ n := by rw [← hP, ← hxn]; exact posT_le j xs
  have HLO : Hid (∀ k (hk : k < xs.length), k < P → Op.bytesLess xs[k].toList j.toList = true) := Lib.hid (by subst hP; exact fun k hk h => posT_lo hk h)
  have HAT : Hid (∀ (h : P < xs.length), Op.bytesLess xs[P].toList j.toList = false) := Lib.hid (by subst hP; exact fun h => posT_at h)
  have HTL : Hid ((xs.take P).length = P ∧ (xs.drop P).length = n - P) := Lib.hid ⟨by rw [List.length_take]; omega, by rw [List.length_drop, hxn]⟩
  have HM : Hid ((xs.take P ++ [j] ++ xs.drop P).length = n + 1) := Lib.hid (by rw [List.length_append, List.length_append, List.length_take, List.length_drop, hxn]; simp; omega)
  have hpg : (p = none ∧ c = 0 ∧ xs = []) ∨ (∃ g, p = some ⟨g, 0, none⟩) ∧ n ≤ c := by
    rcases hO.2 with ⟨h0, h0'⟩ | ⟨g', cap', cur, q1, _, _, q4, _⟩
    · injection h0 with e1 e2 e3
      exact .inl ⟨e1, e3, List.eq_nil_of_length_eq_zero h0'⟩
    · injection q1 with q1 _ q3
      subst q3
      rw [hxn] at q4
      exact .inr ⟨⟨g', q1⟩, q4⟩
  clear hO hP
  rcases hpg with ⟨rfl, rfl, hx0⟩ | ⟨⟨g, rfl⟩, hcap⟩
  · have HX0 := Lib.hid hx0
    obtain rfl : n = 0 := by rw [hx0] at hxn; exact hxn.symm
    obtain rfl : P = 0 := by omega
    clear hx0 hxn
    go_enter Try.func51, Try.ntmps51
    go_wp2
    go_loopw [5] (fun iq wr => iq = .int .i64 0 ∧ Below w.heap.size w wr) (fun i _ => 0)
    case atStart => exact ⟨rfl, Below.refl _ _⟩
    case round =>
      obtain ⟨rfl, hb⟩ := hrel
      have HB := Lib.hid hb
      have HBa := Lib.hid (hb.alloc hb.size (.cells #[] 9))
      clear hb
      go_wp2_with (first
        | (at_builtin; have _ := HV3; refine wpList_plain rfl fun K hK => ?_; refine wp_app_nilX _ _ rfl wr.heap.size v3 _ rfl HV3.out rfl ?_; refine hK _ _ ?_)
        | (at_builtin; have _ := HVn; refine wpList_plain rfl fun K hK => ?_; refine wp_app_oneX _ _ rfl wr.heap.size _ [] rfl ((empty_rowX wr).alloc _) (wr.heap.size + 1) j rfl (fresh2X wr _ j) (by simp) (by simp; omega) ?_; intro v3 w3 hv3 hg3; have HV3 := Lib.hid hv3; have HB3 : Hid (Below w.heap.size w w3) := Lib.hid ((HBa.out.alloc HBa.out.size _).grown hg3 (HBa.out.alloc HBa.out.size _).size (fun k hk => by have := own_base (empty_rowX wr) k hk; have := HB.out.size; omega)); clear hv3 hg3; refine hK _ _ ?_)
        | (at_builtin; refine wpList_plain rfl fun K hK => ?_; refine wp_app_nilX _ _ rfl wr.heap.size _ [] rfl (empty_rowX wr) rfl ?_; have HVn := Lib.hid (empty_rowX wr); refine hK _ _ ?_))
      obtain ⟨q4, k4, e4⟩ := own_lenX HV3.out
      subst e4
      go_ret
      have hv := HV3.out.mono HB.out.size
      rw [HX0.out]
      exact ⟨⟨q4, k4, rfl, hv⟩, HB3.out⟩
  · have q2 : (P : Int) ≤ (n : Int) := by omega
    have q4 : (0 : Int) ≤ (P : Int) := by omega
    have q6 : (n : Int) ≤ (c : Int) := by omega
    have q7 : (P : Int) ≤ (c : Int) := by omega
    clear hxn
    go_enter Try.func51, Try.ntmps51
    go_wp2
    go_loopw [5] (fun iq wr => ∃ k : Nat, k ≤ P ∧ iq = .int .i64 k ∧ Below w.heap.size w wr) (fun i _ => P - (intOf i).toNat)
    case atStart => exact ⟨0, Nat.zero_le _, rfl, Below.refl _ _⟩
    case round =>
      obtain ⟨k, hk, rfl, hb⟩ := hrel
      have HB := Lib.hid hb
      by_cases hlt : k < P
      · have hlt1 : k < xs.length := by rw [HN.out]; omega
        obtain ⟨g', hgg, hg, a0⟩ := row_tx (row_ownX (HO.out _ hb)) hlt1
        injection hgg with hgg
        injection hgg with hgg
        subst hgg
        have hbl := HLO.out k hlt1 hlt
        obtain ⟨x, hx⟩ : ∃ x, xs[k] = x := ⟨_, rfl⟩
        rw [hx] at a0 hbl
        clear hb hx
        go_wp2
        go_roundw
        case rel => exact ⟨k + 1, by omega, by go_num, HB.out⟩
        case measure => simp [intOf]; omega
      · have hkP : k = P := by omega
        subst hkP
        clear hlt
        have HBa := Lib.hid (hb.alloc hb.size (.cells #[] 9))
        have HC : Hid (∀ W, Below w.heap.size w W → ∀ i (h : i < xs.length), W.cell? ⟨g, i, none⟩ = some (.string xs[i])) := Lib.hid (fun W h i hi => by
          obtain ⟨g', hgg, hg, a0⟩ := row_tx (row_ownX (HO.out _ h)) hi
          injection hgg with hgg
          injection hgg with hgg
          subst hgg
          exact a0)
        by_cases hpn : k < n
        · have hlt1 : k < xs.length := by rw [HN.out]; omega
          have a0 := HC.out _ hb k hlt1
          have hbl := HAT.out hlt1
          obtain ⟨x, hx⟩ : ∃ x, xs[k] = x := ⟨_, rfl⟩
          rw [hx] at a0 hbl
          have q8 : ¬ k = c := by omega
          have q9 : ¬ (c = k) := by omega
          have q10 : ¬ ((c : Int) = (k : Int)) := by omega
          clear hb hx
          go_wp2_with (first
            | (at_builtin; have _ := HV3; refine wpList_plain rfl fun K hK => ?_; refine wp_app_subX _ _ rfl wr.heap.size v3 _ rfl HV3.out g k (n - k) _ (xs.drop k) rfl HTL.out.2 (fun i hi => by rw [List.getElem_drop]; exact HC.out _ HB3.out _ (by rw [List.length_drop] at hi; omega)) (by rw [List.length_append, HTL.out.1, HTL.out.2]; show k + 1 + (n - k) ≤ 2000000; omega) HS3.out ?_; intro v4 w4 hv4 hg4; have HV4 := Lib.hid hv4; have HB4 : Hid (Below w.heap.size w w4) := Lib.hid (HB3.out.grown hg4 HB3.out.size (fun q hq => by have := own_base HV3.out q hq; have := HB.out.size; omega)); clear hv4 hg4; obtain ⟨q4, k4, e4⟩ := own_lenX HV4.out; rw [HM.out] at e4; subst e4; refine hK _ _ ?_)
            | (at_builtin; have _ := HV2; refine wpList_plain rfl fun K hK => ?_; refine wp_app_oneX _ _ rfl wr.heap.size v2 _ rfl (HV2.out.alloc _) w2.heap.size j rfl (Arr.fresh w2 9 [.string j]) (by rw [HTL.out.1]; omega) (by rw [World.size_alloc]; have := HS2.out; omega) ?_; intro v3 w3 hv3 hg3; have HV3 := Lib.hid hv3; have HB3 : Hid (Below w.heap.size w w3) := Lib.hid ((HB2.out.alloc HB2.out.size _).grown hg3 (HB2.out.alloc HB2.out.size _).size (fun q hq => by have := own_base HV2.out q hq; have := HB.out.size; omega)); have HS3 : Hid (wr.heap.size ≤ w3.heap.size) := Lib.hid (Nat.le_trans HS2.out (Nat.le_trans (by simp) hg3.size)); clear hv3 hg3; refine hK _ _ ?_)
            | (at_builtin; refine wpList_plain rfl fun K hK => ?_; refine wp_app_subX _ _ rfl wr.heap.size _ [] rfl (empty_rowX wr) g 0 k c (xs.take k) rfl HTL.out.1 (fun i hi => by rw [List.length_take] at hi; rw [Nat.zero_add, List.getElem_take]; exact HC.out _ HBa.out i (by omega)) (by rw [HTL.out.1, List.length_nil]; omega) (by simp) ?_; intro v2 w2 hv2 hg2; rw [List.nil_append] at hv2; have HV2 := Lib.hid hv2; have HB2 : Hid (Below w.heap.size w w2) := Lib.hid (HBa.out.grown hg2 HBa.out.size (fun q hq => by have := own_base (empty_rowX wr) q hq; have := HB.out.size; omega)); have HS2 : Hid (wr.heap.size ≤ w2.heap.size) := Lib.hid (Nat.le_trans (by simp) hg2.size); clear hv2 hg2; refine hK _ _ ?_))
          go_ret
          exact ⟨⟨q4, k4, rfl, HV4.out.mono HB.out.size⟩, HB4.out⟩
        · have hkn : k = n := by omega
          subst hkn
          by_cases hc : k = c
          · subst hc
            clear hb
            go_wp2_with (first
              | (at_builtin; have _ := HV3; refine wpList_plain rfl fun K hK => ?_; refine wp_app_subX _ _ rfl wr.heap.size v3 _ rfl HV3.out g 0 0 _ (xs.drop k) rfl (by rw [HTL.out.2]; omega) (fun i hi => by exfalso; rw [HTL.out.2] at hi; omega) (by rw [List.length_append, HTL.out.1, HTL.out.2]; show k + 1 + (k - k) ≤ 2000000; omega) HS3.out ?_; intro v4 w4 hv4 hg4; have HV4 := Lib.hid hv4; have HB4 : Hid (Below w.heap.size w w4) := Lib.hid (HB3.out.grown hg4 HB3.out.size (fun q hq => by have := own_base HV3.out q hq; have := HB.out.size; omega)); clear hv4 hg4; obtain ⟨q4, k4, e4⟩ := own_lenX HV4.out; rw [HM.out] at e4; subst e4; refine hK _ _ ?_)
              | (at_builtin; have _ := HV2; refine wpList_plain rfl fun K hK => ?_; refine wp_app_oneX _ _ rfl wr.heap.size v2 _ rfl (HV2.out.alloc _) w2.heap.size j rfl (Arr.fresh w2 9 [.string j]) (by rw [HTL.out.1]; omega) (by rw [World.size_alloc]; have := HS2.out; omega) ?_; intro v3 w3 hv3 hg3; have HV3 := Lib.hid hv3; have HB3 : Hid (Below w.heap.size w w3) := Lib.hid ((HB2.out.alloc HB2.out.size _).grown hg3 (HB2.out.alloc HB2.out.size _).size (fun q hq => by have := own_base HV2.out q hq; have := HB.out.size; omega)); have HS3 : Hid (wr.heap.size ≤ w3.heap.size) := Lib.hid (Nat.le_trans HS2.out (Nat.le_trans (by simp) hg3.size)); clear hv3 hg3; refine hK _ _ ?_)
              | (at_builtin; refine wpList_plain rfl fun K hK => ?_; refine wp_app_subX _ _ rfl wr.heap.size _ [] rfl (empty_rowX wr) g 0 k k (xs.take k) rfl HTL.out.1 (fun i hi => by rw [List.length_take] at hi; rw [Nat.zero_add, List.getElem_take]; exact HC.out _ HBa.out i (by omega)) (by rw [HTL.out.1, List.length_nil]; omega) (by simp) ?_; intro v2 w2 hv2 hg2; rw [List.nil_append] at hv2; have HV2 := Lib.hid hv2; have HB2 : Hid (Below w.heap.size w w2) := Lib.hid (HBa.out.grown hg2 HBa.out.size (fun q hq => by have := own_base (empty_rowX wr) q hq; have := HB.out.size; omega)); have HS2 : Hid (wr.heap.size ≤ w2.heap.size) := Lib.hid (Nat.le_trans (by simp) hg2.size); clear hv2 hg2; refine hK _ _ ?_))
            go_ret
            exact ⟨⟨q4, k4, rfl, HV4.out.mono HB.out.size⟩, HB4.out⟩
          · have q9 : ¬ (c = k) := fun e => hc e.symm
            have q10 : ¬ ((c : Int) = (k : Int)) := by omega
            clear hb
            go_wp2_with (first
              | (at_builtin; have _ := HV3; refine wpList_plain rfl fun K hK => ?_; refine wp_app_subX _ _ rfl wr.heap.size v3 _ rfl HV3.out g k 0 _ (xs.drop k) rfl (by rw [HTL.out.2]; omega) (fun i hi => by rw [List.getElem_drop]; exact HC.out _ HB3.out _ (by rw [List.length_drop] at hi; omega)) (by rw [List.length_append, HTL.out.1, HTL.out.2]; show k + 1 + (k - k) ≤ 2000000; omega) HS3.out ?_; intro v4 w4 hv4 hg4; have HV4 := Lib.hid hv4; have HB4 : Hid (Below w.heap.size w w4) := Lib.hid (HB3.out.grown hg4 HB3.out.size (fun q hq => by have := own_base HV3.out q hq; have := HB.out.size; omega)); clear hv4 hg4; obtain ⟨q4, k4, e4⟩ := own_lenX HV4.out; rw [HM.out] at e4; subst e4; refine hK _ _ ?_)
              | (at_builtin; have _ := HV2; refine wpList_plain rfl fun K hK => ?_; refine wp_app_oneX _ _ rfl wr.heap.size v2 _ rfl (HV2.out.alloc _) w2.heap.size j rfl (Arr.fresh w2 9 [.string j]) (by rw [HTL.out.1]; omega) (by rw [World.size_alloc]; have := HS2.out; omega) ?_; intro v3 w3 hv3 hg3; have HV3 := Lib.hid hv3; have HB3 : Hid (Below w.heap.size w w3) := Lib.hid ((HB2.out.alloc HB2.out.size _).grown hg3 (HB2.out.alloc HB2.out.size _).size (fun q hq => by have := own_base HV2.out q hq; have := HB.out.size; omega)); have HS3 : Hid (wr.heap.size ≤ w3.heap.size) := Lib.hid (Nat.le_trans HS2.out (Nat.le_trans (by simp) hg3.size)); clear hv3 hg3; refine hK _ _ ?_)
              | (at_builtin; refine wpList_plain rfl fun K hK => ?_; refine wp_app_subX _ _ rfl wr.heap.size _ [] rfl (empty_rowX wr) g 0 k c (xs.take k) rfl HTL.out.1 (fun i hi => by rw [List.length_take] at hi; rw [Nat.zero_add, List.getElem_take]; exact HC.out _ HBa.out i (by omega)) (by rw [HTL.out.1, List.length_nil]; omega) (by simp) ?_; intro v2 w2 hv2 hg2; rw [List.nil_append] at hv2; have HV2 := Lib.hid hv2; have HB2 : Hid (Below w.heap.size w w2) := Lib.hid (HBa.out.grown hg2 HBa.out.size (fun q hq => by have := own_base (empty_rowX wr) q hq; have := HB.out.size; omega)); have HS2 : Hid (wr.heap.size ≤ w2.heap.size) := Lib.hid (Nat.le_trans (by simp) hg2.size); clear hv2 hg2; refine hK _ _ ?_))
            go_ret
            exact ⟨⟨q4, k4, rfl, HV4.out.mono HB.out.size⟩, HB4.out⟩
end Go.Proofs.Ytpjmcpfmnlfmdaa
