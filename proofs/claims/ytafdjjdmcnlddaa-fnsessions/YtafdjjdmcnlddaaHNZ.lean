/- Several parts in one text: SeFnS, SeFnA. -/
import Derived.Test.YtafdjjdmcnlddaaHNA
import Derived.Test.YtafdjjdmcnlddaaHNB
import Derived.Test.YtafdjjdmcnlddaaHNX
import Derived.Test.YtafdjjdmcnlddaaHND
import Derived.BigQuiet
namespace Go.Proofs.Ytafdjjdmcnlddaa
set_option linter.unusedSimpArgs false
set_option linter.unusedVariables false
open Go.RowKit Go.Joins


/-- Lists that a law may hold. -/
def SeV (xs : List SeL) : Prop := xs.length ≤ 100 ∧ ∀ x ∈ xs, x.r.size ≤ 100 ∧ x.s.size ≤ 100
theorem sev_ill (c : Int) : SeV (illS c).l := ⟨Nat.zero_le _, fun x hx => by cases hx⟩
theorem SeV.le {xs : List SeL} (h : SeV xs) : xs.length ≤ 1048576 ∧ xs.length ≤ 1000000 ∧ (∀ x ∈ xs, x.r.size ≤ 1048576 ∧ x.s.size ≤ 1048576) ∧ ∀ x ∈ xs, x.r.size ≤ maxLen := by
  have h1 := h.1
  refine ⟨by omega, by omega, fun x hx => ?_, fun x hx => ?_⟩ <;> have := h.2 x hx
  · omega
  · unfold maxLen; omega
theorem sev_bind {xs : List SeL} {r : ByteArray} (h : SeV xs) (h6 : xs.length ≤ 6) (hr : r.size ≤ 100) : SeV (bindR xs r).l := by
  unfold bindR
  split
  · exact sev_ill _
  · split
    · exact sev_ill _
    · split
      · exact sev_ill _
      · split
        · exact sev_ill _
        · rename_i h5
          have hl := h.1
          refine ⟨?_, fun x hx => ?_⟩
          · show (xs.take _ ++ _ :: xs.drop _).length ≤ 100
            rw [List.length_append, List.length_take, List.length_cons, List.length_drop]
            omega
          · rcases List.mem_append.1 hx with hx | hx
            · exact h.2 x (List.mem_of_mem_take hx)
            · rcases List.mem_cons.1 hx with rfl | hx
              · exact ⟨hr, Nat.zero_le _⟩
              · exact h.2 x (List.mem_of_mem_drop hx)
theorem sev_unbind {xs : List SeL} {r : ByteArray} (h : SeV xs) : SeV (unbindR xs r).l := by
  unfold unbindR
  split
  · exact sev_ill _
  · split
    · exact sev_ill _
    · split
      · exact sev_ill _
      · have hl := h.1
        refine ⟨?_, fun x hx => ?_⟩
        · show (xs.take _ ++ xs.drop _).length ≤ 100
          rw [List.length_append, List.length_take, List.length_drop]
          omega
        · rcases List.mem_append.1 hx with hx | hx
          · exact h.2 x (List.mem_of_mem_take hx)
          · exact h.2 x (List.mem_of_mem_drop hx)
theorem sev_with {xs : List SeL} {y : SeL} (h : SeV xs) (hr : y.r.size ≤ 100) (hs : y.s.size ≤ 100) : SeV (withR xs y).l := by
  unfold withR
  split
  · exact sev_ill _
  · split
    · exact sev_ill _
    · split
      · exact sev_ill _
      · split
        · exact sev_ill _
        · refine ⟨by rw [List.length_set]; exact h.1, fun x hx => ?_⟩
          rcases List.mem_or_eq_of_mem_set hx with hx | rfl
          · exact h.2 x hx
          · exact ⟨hr, hs⟩
theorem sev_pres {xs : List SeL} {r : ByteArray} {p : Int} {s : ByteArray} (h : SeV xs) (hr : r.size ≤ 100) (hs : s.size ≤ 100) : SeV (presR xs r p s).l := by
  unfold presR
  split
  · exact sev_ill _
  · exact sev_with h hr hs
theorem chainB {w v W : World} (h1 : Below w.heap.size w v) (h2 : Below v.heap.size v W) : Below w.heap.size w W := h1.trans (h2.mono h1.size)
theorem ba_len (s : ByteArray) : s.toList.length = s.size := by rw [ByteArray.toList_eq]; exact Array.length_toList
theorem ba_some {s : ByteArray} (h : decide (0 < s.size) = true) : s.toList.isEmpty = false := by
  have h1 := of_decide_eq_true h
  rw [← ba_len] at h1
  cases e : s.toList with
  | nil => rw [e] at h1; cases h1
  | cons a l => rfl
theorem ba_none {s : ByteArray} (h : decide (0 < s.size) = false) : s.toList.isEmpty = true := by
  have h1 := of_decide_eq_false h
  rw [← ba_len] at h1
  cases e : s.toList with
  | nil => rfl
  | cons a l => rw [e] at h1; exact absurd (Nat.zero_lt_succ _) h1
theorem so_field (n : Nat) (c : Int) (p : Option Addr) (k : Nat) (W : World) : (Instr.field 27 (.agg #[.slice p n k, .int .i64 c]) 0).run Try.prog W = .ok (.slice p n k) W := by kernel_rfl
set_option maxRecDepth 100000 in
set_option maxHeartbeats 16000000 in
theorem sess_law (w : World) (a0 : Option Addr) (len0 cap0 : Nat) (w0 : SrcRow w w.heap.size a0 len0) (a1 : Option Addr) (len1 cap1 : Nat) (w1 : SrcRow w w.heap.size a1 len1) (h0 : len0 ≤ 1048576) (h1 : len1 ≤ 1048576) :
    Calls Try.prog 3 #[.slice a0 len0 cap0, .slice a1 len1 cap1] w fun e w' => e = .returned (.bool true) ∧ Below w.heap.size w w' := by
  have R0 := Lib.hid (fun W (h : Below w.heap.size w W) => (w0.lift h h.size : SrcRow W W.heap.size a0 len0))
  have R1 := Lib.hid (fun W (h : Below w.heap.size w W) => (w1.lift h h.size : SrcRow W W.heap.size a1 len1))
  clear w0 w1
  go_enter Try.func3, Try.ntmps3
  go_wp2_with fail
  refine (draw_bnd a0 len0 cap0 _ h0 (R0.out _ (Below.refl _ _))).mono ?_
  rintro e v1 ⟨⟨xs, p, k, r, rfl, ho, hl, hw, hr⟩, hb⟩
  have sx : SeV xs := ⟨by omega, hw⟩
  have sb := sev_bind (r := r) sx hl hr
  have i1 := fun W h => impl_bind xs r p k W sx.le.1 (by omega) sx.le.2.2.1 h
  have i2 := fun B W h => spec_bind xs r p k B W sx.le.1 (by omega) sx.le.2.2.1 h
  have j0 := fun p2 q2 c2 d2 W g1 g2 => lw_sess xs p2 q2 c2 d2 W (by have := sx.le.2.1; omega) g1 g2
  have HBB : Hid ((bindR xs r).c = 0 → okB (bindR xs r).l = true ∧ unbindR (bindR xs r).l r = ⟨xs, 0⟩) := Lib.hid bind_back
  obtain ⟨B, hB⟩ : ∃ B, bindR xs r = B := ⟨_, rfl⟩
  rw [hB] at i1 i2 sb HBB
  unfold SoIs at i1 i2
  have i3 := fun p2 k2 W h => impl_unbind B.l r p2 k2 W sb.le.1 (by omega) sb.le.2.2.1 h
  unfold SoIs at i3
  have j1 := fun p2 q2 k2 l2 W g1 g2 => lw_bound B p2 q2 k2 l2 W sb.le.2.1 sb.le.2.2.2 (fun h => (HBB.out h).1) g1 g2
  unfold soV at j1
  obtain ⟨n, hxn⟩ : ∃ n, xs.length = n := ⟨_, rfl⟩
  have HN := Lib.hid hxn
  rw [hxn] at i1 i2 j0 ho ⊢
  have HW1 := Lib.hid (fun W (h : Below v1.heap.size v1 W) => chainB hb h)
  have HP1 := Lib.hid (fun W (h : Below v1.heap.size v1 W) => ho.on h)
  clear hb ho hl hw hr sx sb hxn hB
  go_wp2_with fail
  go_fit (i1 _ (row_own9 (HP1.out _ (Below.refl _ _))))
  rintro e v2 ⟨⟨pb, kb, rfl, hv⟩, hb⟩
  have hA := (Below.refl v2.heap.size v2).alloc (Nat.le_refl _) (.cells #[.slice pb B.l.length kb, .int .i64 B.c] 27)
  have HX2 : Hid (OutS v2.heap.size v1.heap.size (v2.alloc (.cells #[.slice pb B.l.length kb, .int .i64 B.c] 27)) B pb kb) := Lib.hid (OutS.new hv)
  go_wp2_with fail
  obtain ⟨b1, hb1⟩ : ∃ b, v2.heap.size = b := ⟨_, rfl⟩
  obtain ⟨v2a, hv2a⟩ : ∃ v, v2.alloc (.cells #[.slice pb B.l.length kb, .int .i64 B.c] 27) = v := ⟨_, rfl⟩
  rw [hv2a] at hA HX2 ⊢
  rw [hb1] at HX2
  try rw [hb1]
  have HW2 := Lib.hid (fun W (h : Below v2a.heap.size v2a W) => HW1.out W (chainB (chainB hb hA) h))
  have HP2 := Lib.hid (fun W (h : Below v2a.heap.size v2a W) => And.intro (HP1.out W (chainB (chainB hb hA) h)) (HX2.out.on h))
  clear hb hv hA hv2a hb1 HX2 HW1 HP1 i1
  refine (draw_unb a1 len1 cap1 _ h1 (R1.out _ (HW2.out _ (Below.refl _ _)))).mono ?_
  rintro e v3 ⟨⟨ys, q, l, u, rfl, ho, hl, hw, hr⟩, hb⟩
  have sx : SeV ys := ⟨by omega, hw⟩
  have sb := sev_unbind (r := u) sx
  have i4 := fun W h => impl_unbind ys u q l W sx.le.1 (by omega) sx.le.2.2.1 h
  have i5 := fun B W h => spec_unbind ys u q l B W sx.le.1 (by omega) sx.le.2.2.1 h
  have HUB : Hid ((unbindR ys u).c = 0 → okB (unbindR ys u).l = true) := Lib.hid unb_right
  obtain ⟨D, hD⟩ : ∃ D, unbindR ys u = D := ⟨_, rfl⟩
  rw [hD] at i4 i5 sb HUB
  unfold SoIs at i4 i5
  have j2 := fun p2 q2 k2 l2 W g1 g2 => lw_bound D p2 q2 k2 l2 W sb.le.2.1 sb.le.2.2.2 HUB.out g1 g2
  unfold soV at j2
  obtain ⟨m, hym⟩ : ∃ m, ys.length = m := ⟨_, rfl⟩
  rw [hym] at i4 i5 ho ⊢
  have HW3 := Lib.hid (fun W (h : Below v3.heap.size v3 W) => HW2.out W (chainB hb h))
  have HP3 := Lib.hid (fun W (h : Below v3.heap.size v3 W) => And.intro (HP2.out W (chainB hb h)) (ho.on h))
  clear hb ho hl hw hr sx sb hym hD HW2 HP2 HUB
  go_wp2_with fail
  refine (draw_pres a1 len1 cap1 _ h1 (R1.out _ (HW3.out _ (Below.refl _ _)))).mono ?_
  rintro e v4 ⟨⟨zs, p4, k4, nm, pr, sh, rfl, ho, hl, hw, hr, hs⟩, hb⟩
  have sx : SeV zs := ⟨by omega, hw⟩
  have sb := sev_pres (r := nm) (p := pr) (s := sh) sx hr hs
  have sa : SeV (absR zs nm).l := sev_with (y := newS nm) sx hr (Nat.zero_le _)
  have i6 := fun W h => impl_present zs nm pr sh p4 k4 W sx.le.1 (by omega) (by omega) sx.le.2.2.1 h
  have i7 := fun B W h => spec_present zs nm pr sh p4 k4 B W sx.le.1 (by omega) (by omega) sx.le.2.2.1 h
  have i8 := fun W h => impl_absent zs nm p4 k4 W sx.le.1 (by omega) sx.le.2.2.1 h
  have HPR : Hid ((presR zs nm pr sh).c = 0 → okB (presR zs nm pr sh).l = true ∧ anyR (presR zs nm pr sh).l = true ∧ absR (presR zs nm pr sh).l nm = absR zs nm) := Lib.hid abs_pres
  obtain ⟨E, hE⟩ : ∃ E, presR zs nm pr sh = E := ⟨_, rfl⟩
  rw [hE] at i6 i7 sb HPR
  unfold SoIs at i6 i7
  have i9 := fun p2 k2 W h => impl_absent E.l nm p2 k2 W sb.le.1 (by omega) sb.le.2.2.1 h
  have i10 := fun p2 k2 W h => impl_any E.l p2 k2 W sb.le.1 sb.le.2.2.2 h
  have i11 := fun p2 k2 W h => impl_seen E.l p2 k2 W sb.le.1 sb.le.2.2.2 sb.le.2.2.1 h
  have hse := seen_any E.l
  have j3 := fun p2 q2 k2 l2 W g1 g2 => lw_bound E p2 q2 k2 l2 W sb.le.2.1 sb.le.2.2.2 (fun h => (HPR.out h).1) g1 g2
  unfold soV at j3
  obtain ⟨F, hF⟩ : ∃ F, absR zs nm = F := ⟨_, rfl⟩
  rw [hF] at i8 HPR sa
  have j4 := fun p2 q2 c2 d2 W g1 g2 => lw_sess F.l p2 q2 c2 d2 W (by have := sa.le.2.1; omega) g1 g2
  unfold SoIs at i8 i9
  obtain ⟨o, hzo⟩ : ∃ o, zs.length = o := ⟨_, rfl⟩
  rw [hzo] at i6 i7 i8 ho ⊢
  have HW4 := Lib.hid (fun W (h : Below v4.heap.size v4 W) => HW3.out W (chainB hb h))
  have HP4 := Lib.hid (fun W (h : Below v4.heap.size v4 W) => And.intro (HP3.out W (chainB hb h)) (ho.on h))
  have HSE := Lib.hid hse
  clear hb ho hl hw hr hs sx sb sa hzo hE hF HW3 HP3 hse
  go_wp2_with fail
  go_fit (i6 _ (row_own9 (HP4.out _ (Below.refl _ _)).2))
  rintro e v5 ⟨⟨pe, ke, rfl, hv⟩, hb⟩
  have hA := (Below.refl v5.heap.size v5).alloc (Nat.le_refl _) (.cells #[.slice pe E.l.length ke, .int .i64 E.c] 27)
  have HX5 : Hid (OutS v5.heap.size v4.heap.size (v5.alloc (.cells #[.slice pe E.l.length ke, .int .i64 E.c] 27)) E pe ke) := Lib.hid (OutS.new hv)
  go_wp2_with fail
  obtain ⟨b2, hb2⟩ : ∃ b, v5.heap.size = b := ⟨_, rfl⟩
  obtain ⟨v5a, hv5a⟩ : ∃ v, v5.alloc (.cells #[.slice pe E.l.length ke, .int .i64 E.c] 27) = v := ⟨_, rfl⟩
  rw [hv5a] at hA HX5 ⊢
  rw [hb2] at HX5
  try rw [hb2]
  have HW5 := Lib.hid (fun W (h : Below v5a.heap.size v5a W) => HW4.out W (chainB (chainB hb hA) h))
  have HP5 := Lib.hid (fun W (h : Below v5a.heap.size v5a W) => And.intro (HP4.out W (chainB (chainB hb hA) h)) (HX5.out.on h))
  clear hb hv hA hv5a hb2 HX5 HW4 HP4 i6
  refine (draw_abs a0 len0 cap0 _ h0 (R0.out _ (HW5.out _ (Below.refl _ _)))).mono ?_
  rintro e v6 ⟨⟨os, p6, k6, an, rfl, ho, hl, hw, hr⟩, hb⟩
  have sx : SeV os := ⟨by omega, hw⟩
  have sb : SeV (absR os an).l := sev_with (y := newS an) sx hr (Nat.zero_le _)
  have i12 := fun W h => impl_absent os an p6 k6 W sx.le.1 (by omega) sx.le.2.2.1 h
  have i13 := fun B W h => spec_absent os an p6 k6 B W sx.le.1 (by omega) sx.le.2.2.1 h
  have HAB : Hid ((absR os an).c = 0 → okB (absR os an).l = true) := Lib.hid with_right
  obtain ⟨G, hG⟩ : ∃ G, absR os an = G := ⟨_, rfl⟩
  rw [hG] at i12 i13 sb HAB
  unfold SoIs at i12 i13
  have j5 := fun p2 q2 k2 l2 W g1 g2 => lw_bound G p2 q2 k2 l2 W sb.le.2.1 sb.le.2.2.2 HAB.out g1 g2
  unfold soV at j5
  obtain ⟨t, hot⟩ : ∃ t, os.length = t := ⟨_, rfl⟩
  rw [hot] at i12 i13 ho ⊢
  have HW6 := Lib.hid (fun W (h : Below v6.heap.size v6 W) => HW5.out W (chainB hb h))
  have HP6 := Lib.hid (fun W (h : Below v6.heap.size v6 W) => And.intro (HP5.out W (chainB hb h)) (ho.on h))
  clear hb ho hl hw hr sx sb hot hG HW5 HP5 HAB
  go_wp2_with fail
  go_fit (i12 _ (row_own9 (HP6.out _ (Below.refl _ _)).2))
  rintro e v7 ⟨⟨pg, kg, rfl, hv⟩, hb⟩
  have hA := (Below.refl v7.heap.size v7).alloc (Nat.le_refl _) (.cells #[.slice pg G.l.length kg, .int .i64 G.c] 27)
  have HX7 : Hid (OutS v7.heap.size v6.heap.size (v7.alloc (.cells #[.slice pg G.l.length kg, .int .i64 G.c] 27)) G pg kg) := Lib.hid (OutS.new hv)
  go_wp2_with fail
  obtain ⟨b3, hb3⟩ : ∃ b, v7.heap.size = b := ⟨_, rfl⟩
  obtain ⟨vB, hvB⟩ : ∃ v, v7.alloc (.cells #[.slice pg G.l.length kg, .int .i64 G.c] 27) = v := ⟨_, rfl⟩
  rw [hvB] at hA HX7 ⊢
  rw [hb3] at HX7
  try rw [hb3]
  have HW7 := Lib.hid (fun W (h : Below vB.heap.size vB W) => HW6.out W (chainB (chainB hb hA) h))
  have HP7 := Lib.hid (fun W (h : Below vB.heap.size vB W) => And.intro (HP6.out W (chainB (chainB hb hA) h)) (HX7.out.on h))
  clear hb hv hA hvB hb3 HX7 HW6 HP6 i12 R1
  refine region_join [60, 61, 62, 63, 64, 65, 66, 67, 68, 69, 70, 71, 72, 73, 74, 75, 76, 77, 78, 79, 80, 81, 82, 83, 84, 85, 86, 87, 88, 89, 90, 91, 92, 93] (fun vs W => vs 93 = .bool false ∧ Below vB.heap.size vB W) ?_ ?_
  · refine wp_region_held_drew (S := fun W => Below vB.heap.size vB W) (by kernel_rfl) (Below.refl _ _).drew (fun hHeld => ?_)
    have HS0 : Hid (Below vB.heap.size vB vB.drew) := Lib.hid (Below.refl _ _).drew
    generalize vB.drew = wd at HS0 hHeld ⊢
    clear i8 i9 i10 i11 j0 j4 i3 R0 HW7 HSE HPR HBB HN
    refine takeQ (i := 0) (k := 60) (v := .agg #[.slice pb B.l.length kb, .int .i64 B.c]) rfl (by rfl) (by kernel_rfl) (by kernel_rfl) (by kernel_rfl) (fun _ _ _ h => h) (by rfl) ?_ hHeld ?_
    · intro w1 hSw; obtain ⟨⟨m0, m1⟩, _⟩ := (HP7.out _ hSw).1.1.1.1.1.2.two; go_simp
    (try simp only [Act.put, List.setIfInBounds_toArray, List.set_cons_zero, List.set_cons_succ])
    refine takeQ (i := 1) (k := 61) (v := .slice p n k) rfl (by rfl) (by kernel_rfl) (by kernel_rfl) (by kernel_rfl) (fun _ _ _ h => h) (by rfl) ?_ hHeld ?_
    · intro w1 hSw; go_simp
    (try simp only [Act.put, List.setIfInBounds_toArray, List.set_cons_zero, List.set_cons_succ])
    refine takeQ (i := 2) (k := 62) (v := .string r) rfl (by rfl) (by kernel_rfl) (by kernel_rfl) (by kernel_rfl) (fun _ _ _ h => h) (by rfl) ?_ hHeld ?_
    · intro w1 hSw; go_simp
    (try simp only [Act.put, List.setIfInBounds_toArray, List.set_cons_zero, List.set_cons_succ])
    refine wpAnyH_ready (rs := [3]) (by kernel_rfl) (by simp) ?_
    refine AllReadyH.cons rfl (fun K hK => ?_) AllReadyH.nil
    rw [if_pos (by rfl)]
    go_simp
    go_fit (i2 _ _ (HP7.out _ HS0.out).1.1.1.1.1.1)
    rintro e W1r ⟨⟨pz, kz, rfl, hv⟩, hb⟩
    have HS2r := Lib.hid (HS0.out.trans (hb.mono HS0.out.size))
    have RA3r := Lib.hid hv
    clear hb hv
    refine hK.out _ _ HS2r.out (fun hHeld => ?_)
    clear hK K
    (try simp only [Act.put, List.setIfInBounds_toArray, List.set_cons_zero, List.set_cons_succ])
    refine wpAnyH_ready (rs := [4]) (by kernel_rfl) (by simp) ?_
    refine AllReadyH.cons rfl (fun K hK => ?_) AllReadyH.nil
    rw [if_pos (by rfl)]
    go_simp
    go_fit (j1 pb pz kb kz _ (row_own9 (HP7.out _ HS2r.out).1.1.1.1.1.2.2) (row_own9 RA3r.out))
    rintro e W4r ⟨rfl, hb⟩
    have HS5r := Lib.hid (HS2r.out.trans (hb.mono HS2r.out.size))
    have RA6r := Lib.hid (RA3r.out.on hb)
    clear hb
    refine hK.out _ _ HS5r.out (fun hHeld => ?_)
    clear hK K
    (try simp only [Act.put, List.setIfInBounds_toArray, List.set_cons_zero, List.set_cons_succ])
    refine takeQ (i := 5) (k := 65) (v := .bool false) rfl (by rfl) (by kernel_rfl) (by kernel_rfl) (by kernel_rfl) (fun _ _ _ h => h) (by rfl) ?_ hHeld ?_
    · intro w1 hSw; go_simp
    (try simp only [Act.put, List.setIfInBounds_toArray, List.set_cons_zero, List.set_cons_succ])
    refine takeQ (i := 6) (k := 66) (v := .bool false) rfl (by rfl) (by kernel_rfl) (by kernel_rfl) (by kernel_rfl) (fun _ _ _ h => h) (by rfl) ?_ hHeld ?_
    · intro w1 hSw; go_simp
    (try simp only [Act.put, List.setIfInBounds_toArray, List.set_cons_zero, List.set_cons_succ])
    refine takeQ (i := 7) (k := 67) (v := .slice q m l) rfl (by rfl) (by kernel_rfl) (by kernel_rfl) (by kernel_rfl) (fun _ _ _ h => h) (by rfl) ?_ hHeld ?_
    · intro w1 hSw; go_simp
    (try simp only [Act.put, List.setIfInBounds_toArray, List.set_cons_zero, List.set_cons_succ])
    refine takeQ (i := 8) (k := 68) (v := .string u) rfl (by rfl) (by kernel_rfl) (by kernel_rfl) (by kernel_rfl) (fun _ _ _ h => h) (by rfl) ?_ hHeld ?_
    · intro w1 hSw; go_simp
    (try simp only [Act.put, List.setIfInBounds_toArray, List.set_cons_zero, List.set_cons_succ])
    refine takeQ (i := 10) (k := 70) (v := .slice q m l) rfl (by rfl) (by kernel_rfl) (by kernel_rfl) (by kernel_rfl) (fun _ _ _ h => h) (by rfl) ?_ hHeld ?_
    · intro w1 hSw; go_simp
    (try simp only [Act.put, List.setIfInBounds_toArray, List.set_cons_zero, List.set_cons_succ])
    refine takeQ (i := 11) (k := 71) (v := .string u) rfl (by rfl) (by kernel_rfl) (by kernel_rfl) (by kernel_rfl) (fun _ _ _ h => h) (by rfl) ?_ hHeld ?_
    · intro w1 hSw; go_simp
    (try simp only [Act.put, List.setIfInBounds_toArray, List.set_cons_zero, List.set_cons_succ])
    refine wpAnyH_ready (rs := [9]) (by kernel_rfl) (by simp) ?_
    refine AllReadyH.cons rfl (fun K hK => ?_) AllReadyH.nil
    rw [if_pos (by rfl)]
    go_simp
    go_fit (i4 _ (row_own9 (HP7.out _ HS5r.out).1.1.1.1.2))
    rintro e W7r ⟨⟨p9, k9, rfl, hv⟩, hb⟩
    have HS8r := Lib.hid (HS5r.out.trans (hb.mono HS5r.out.size))
    have RA9r := Lib.hid (RA6r.out.on hb)
    have RB10r := Lib.hid hv
    clear hb hv
    refine hK.out _ _ HS8r.out (fun hHeld => ?_)
    clear hK K
    (try simp only [Act.put, List.setIfInBounds_toArray, List.set_cons_zero, List.set_cons_succ])
    refine wpAnyH_ready (rs := [12]) (by kernel_rfl) (by simp) ?_
    refine AllReadyH.cons rfl (fun K hK => ?_) AllReadyH.nil
    rw [if_pos (by rfl)]
    go_simp
    go_fit (i5 _ _ (HP7.out _ HS8r.out).1.1.1.1.2)
    rintro e W11r ⟨⟨p12, k12, rfl, hv⟩, hb⟩
    have HS12r := Lib.hid (HS8r.out.trans (hb.mono HS8r.out.size))
    have RA13r := Lib.hid (RA9r.out.on hb)
    have RB14r := Lib.hid (RB10r.out.on hb)
    have RC15r := Lib.hid hv
    clear hb hv
    refine hK.out _ _ HS12r.out (fun hHeld => ?_)
    clear hK K
    (try simp only [Act.put, List.setIfInBounds_toArray, List.set_cons_zero, List.set_cons_succ])
    refine wpAnyH_ready (rs := [13]) (by kernel_rfl) (by simp) ?_
    refine AllReadyH.cons rfl (fun K hK => ?_) AllReadyH.nil
    rw [if_pos (by rfl)]
    go_simp
    go_fit (j2 p9 p12 k9 k12 _ (row_own9 RB14r.out) (row_own9 RC15r.out))
    rintro e W16r ⟨rfl, hb⟩
    have HS17r := Lib.hid (HS12r.out.trans (hb.mono HS12r.out.size))
    have RA18r := Lib.hid (RA13r.out.on hb)
    have RB19r := Lib.hid (RB14r.out.on hb)
    have RC20r := Lib.hid (RC15r.out.on hb)
    clear hb
    refine hK.out _ _ HS17r.out (fun hHeld => ?_)
    clear hK K
    (try simp only [Act.put, List.setIfInBounds_toArray, List.set_cons_zero, List.set_cons_succ])
    refine takeQ (i := 14) (k := 74) (v := .bool false) rfl (by rfl) (by kernel_rfl) (by kernel_rfl) (by kernel_rfl) (fun _ _ _ h => h) (by rfl) ?_ hHeld ?_
    · intro w1 hSw; go_simp
    (try simp only [Act.put, List.setIfInBounds_toArray, List.set_cons_zero, List.set_cons_succ])
    refine takeQ (i := 15) (k := 75) (v := .bool false) rfl (by rfl) (by kernel_rfl) (by kernel_rfl) (by kernel_rfl) (fun _ _ _ h => h) (by rfl) ?_ hHeld ?_
    · intro w1 hSw; go_simp
    (try simp only [Act.put, List.setIfInBounds_toArray, List.set_cons_zero, List.set_cons_succ])
    refine takeQ (i := 16) (k := 76) (v := .bool false) rfl (by rfl) (by kernel_rfl) (by kernel_rfl) (by kernel_rfl) (fun _ _ _ h => h) (by rfl) ?_ hHeld ?_
    · intro w1 hSw; go_simp
    (try simp only [Act.put, List.setIfInBounds_toArray, List.set_cons_zero, List.set_cons_succ])
    refine takeQ (i := 17) (k := 77) (v := .agg #[.slice pe E.l.length ke, .int .i64 E.c]) rfl (by rfl) (by kernel_rfl) (by kernel_rfl) (by kernel_rfl) (fun _ _ _ h => h) (by rfl) ?_ hHeld ?_
    · intro w1 hSw; obtain ⟨⟨m0, m1⟩, _⟩ := (HP7.out _ hSw).1.1.2.two; go_simp
    (try simp only [Act.put, List.setIfInBounds_toArray, List.set_cons_zero, List.set_cons_succ])
    refine takeQ (i := 18) (k := 78) (v := .slice p4 o k4) rfl (by rfl) (by kernel_rfl) (by kernel_rfl) (by kernel_rfl) (fun _ _ _ h => h) (by rfl) ?_ hHeld ?_
    · intro w1 hSw; go_simp
    (try simp only [Act.put, List.setIfInBounds_toArray, List.set_cons_zero, List.set_cons_succ])
    refine takeQ (i := 19) (k := 79) (v := .string nm) rfl (by rfl) (by kernel_rfl) (by kernel_rfl) (by kernel_rfl) (fun _ _ _ h => h) (by rfl) ?_ hHeld ?_
    · intro w1 hSw; go_simp
    (try simp only [Act.put, List.setIfInBounds_toArray, List.set_cons_zero, List.set_cons_succ])
    refine takeQ (i := 20) (k := 80) (v := .int .i64 pr) rfl (by rfl) (by kernel_rfl) (by kernel_rfl) (by kernel_rfl) (fun _ _ _ h => h) (by rfl) ?_ hHeld ?_
    · intro w1 hSw; go_simp
    (try simp only [Act.put, List.setIfInBounds_toArray, List.set_cons_zero, List.set_cons_succ])
    refine takeQ (i := 21) (k := 81) (v := .string sh) rfl (by rfl) (by kernel_rfl) (by kernel_rfl) (by kernel_rfl) (fun _ _ _ h => h) (by rfl) ?_ hHeld ?_
    · intro w1 hSw; go_simp
    (try simp only [Act.put, List.setIfInBounds_toArray, List.set_cons_zero, List.set_cons_succ])
    refine wpAnyH_ready (rs := [22]) (by kernel_rfl) (by simp) ?_
    refine AllReadyH.cons rfl (fun K hK => ?_) AllReadyH.nil
    rw [if_pos (by rfl)]
    go_simp
    go_fit (i7 _ _ (HP7.out _ HS17r.out).1.1.1.2)
    rintro e W21r ⟨⟨p22, k22, rfl, hv⟩, hb⟩
    have HS22r := Lib.hid (HS17r.out.trans (hb.mono HS17r.out.size))
    have RA23r := Lib.hid (RA18r.out.on hb)
    have RB24r := Lib.hid (RB19r.out.on hb)
    have RC25r := Lib.hid (RC20r.out.on hb)
    have RD26r := Lib.hid hv
    clear hb hv
    refine hK.out _ _ HS22r.out (fun hHeld => ?_)
    clear hK K
    (try simp only [Act.put, List.setIfInBounds_toArray, List.set_cons_zero, List.set_cons_succ])
    refine wpAnyH_ready (rs := [23]) (by kernel_rfl) (by simp) ?_
    refine AllReadyH.cons rfl (fun K hK => ?_) AllReadyH.nil
    rw [if_pos (by rfl)]
    go_simp
    go_fit (j3 pe p22 ke k22 _ (row_own9 (HP7.out _ HS22r.out).1.1.2.2) (row_own9 RD26r.out))
    rintro e W27r ⟨rfl, hb⟩
    have HS28r := Lib.hid (HS22r.out.trans (hb.mono HS22r.out.size))
    have RA29r := Lib.hid (RA23r.out.on hb)
    have RB30r := Lib.hid (RB24r.out.on hb)
    have RC31r := Lib.hid (RC25r.out.on hb)
    have RD32r := Lib.hid (RD26r.out.on hb)
    clear hb
    refine hK.out _ _ HS28r.out (fun hHeld => ?_)
    clear hK K
    (try simp only [Act.put, List.setIfInBounds_toArray, List.set_cons_zero, List.set_cons_succ])
    refine takeQ (i := 24) (k := 84) (v := .bool false) rfl (by rfl) (by kernel_rfl) (by kernel_rfl) (by kernel_rfl) (fun _ _ _ h => h) (by rfl) ?_ hHeld ?_
    · intro w1 hSw; go_simp
    (try simp only [Act.put, List.setIfInBounds_toArray, List.set_cons_zero, List.set_cons_succ])
    refine takeQ (i := 25) (k := 85) (v := .bool false) rfl (by rfl) (by kernel_rfl) (by kernel_rfl) (by kernel_rfl) (fun _ _ _ h => h) (by rfl) ?_ hHeld ?_
    · intro w1 hSw; go_simp
    (try simp only [Act.put, List.setIfInBounds_toArray, List.set_cons_zero, List.set_cons_succ])
    refine takeQ (i := 26) (k := 86) (v := .bool false) rfl (by rfl) (by kernel_rfl) (by kernel_rfl) (by kernel_rfl) (fun _ _ _ h => h) (by rfl) ?_ hHeld ?_
    · intro w1 hSw; go_simp
    (try simp only [Act.put, List.setIfInBounds_toArray, List.set_cons_zero, List.set_cons_succ])
    refine takeQ (i := 27) (k := 87) (v := .agg #[.slice pg G.l.length kg, .int .i64 G.c]) rfl (by rfl) (by kernel_rfl) (by kernel_rfl) (by kernel_rfl) (fun _ _ _ h => h) (by rfl) ?_ hHeld ?_
    · intro w1 hSw; obtain ⟨⟨m0, m1⟩, _⟩ := (HP7.out _ hSw).2.two; go_simp
    (try simp only [Act.put, List.setIfInBounds_toArray, List.set_cons_zero, List.set_cons_succ])
    refine takeQ (i := 28) (k := 88) (v := .slice p6 t k6) rfl (by rfl) (by kernel_rfl) (by kernel_rfl) (by kernel_rfl) (fun _ _ _ h => h) (by rfl) ?_ hHeld ?_
    · intro w1 hSw; go_simp
    (try simp only [Act.put, List.setIfInBounds_toArray, List.set_cons_zero, List.set_cons_succ])
    refine takeQ (i := 29) (k := 89) (v := .string an) rfl (by rfl) (by kernel_rfl) (by kernel_rfl) (by kernel_rfl) (fun _ _ _ h => h) (by rfl) ?_ hHeld ?_
    · intro w1 hSw; go_simp
    (try simp only [Act.put, List.setIfInBounds_toArray, List.set_cons_zero, List.set_cons_succ])
    refine wpAnyH_ready (rs := [30]) (by kernel_rfl) (by simp) ?_
    refine AllReadyH.cons rfl (fun K hK => ?_) AllReadyH.nil
    rw [if_pos (by rfl)]
    go_simp
    go_fit (i13 _ _ (HP7.out _ HS28r.out).1.2)
    rintro e W33r ⟨⟨p30, k30, rfl, hv⟩, hb⟩
    have HS34r := Lib.hid (HS28r.out.trans (hb.mono HS28r.out.size))
    have RA35r := Lib.hid (RA29r.out.on hb)
    have RB36r := Lib.hid (RB30r.out.on hb)
    have RC37r := Lib.hid (RC31r.out.on hb)
    have RD38r := Lib.hid (RD32r.out.on hb)
    have RE39r := Lib.hid hv
    clear hb hv
    refine hK.out _ _ HS34r.out (fun hHeld => ?_)
    clear hK K
    (try simp only [Act.put, List.setIfInBounds_toArray, List.set_cons_zero, List.set_cons_succ])
    refine wpAnyH_ready (rs := [31]) (by kernel_rfl) (by simp) ?_
    refine AllReadyH.cons rfl (fun K hK => ?_) AllReadyH.nil
    rw [if_pos (by rfl)]
    go_simp
    go_fit (j5 pg p30 kg k30 _ (row_own9 (HP7.out _ HS34r.out).2.2) (row_own9 RE39r.out))
    rintro e W40r ⟨rfl, hb⟩
    have HS41r := Lib.hid (HS34r.out.trans (hb.mono HS34r.out.size))
    have RA42r := Lib.hid (RA35r.out.on hb)
    have RB43r := Lib.hid (RB36r.out.on hb)
    have RC44r := Lib.hid (RC37r.out.on hb)
    have RD45r := Lib.hid (RD38r.out.on hb)
    have RE46r := Lib.hid (RE39r.out.on hb)
    clear hb
    refine hK.out _ _ HS41r.out (fun hHeld => ?_)
    clear hK K
    (try simp only [Act.put, List.setIfInBounds_toArray, List.set_cons_zero, List.set_cons_succ])
    refine takeQ (i := 32) (k := 92) (v := .bool false) rfl (by rfl) (by kernel_rfl) (by kernel_rfl) (by kernel_rfl) (fun _ _ _ h => h) (by rfl) ?_ hHeld ?_
    · intro w1 hSw; go_simp
    (try simp only [Act.put, List.setIfInBounds_toArray, List.set_cons_zero, List.set_cons_succ])
    refine takeQ (i := 33) (k := 93) (v := .bool false) rfl (by rfl) (by kernel_rfl) (by kernel_rfl) (by kernel_rfl) (fun _ _ _ h => h) (by rfl) ?_ hHeld ?_
    · intro w1 hSw; go_simp
    (try simp only [Act.put, List.setIfInBounds_toArray, List.set_cons_zero, List.set_cons_succ])
    refine wpAnyH_done (by kernel_rfl) ?_ _
    exact ⟨⟨rfl, HS41r.out⟩, by simp only [putAll, Act.put, List.setIfInBounds_toArray, List.set_cons_zero, List.set_cons_succ]; rfl⟩
  · rintro vs v8 ⟨e93, hS⟩
    have HS8 := Lib.hid hS
    simp only [putAll, Act.put, List.setIfInBounds_toArray, List.set_cons_zero, List.set_cons_succ, e93]
    clear e93 hS i2 i4 i5 i7 i13 j1 j2 j3 j5
    obtain ⟨⟨c0, c1⟩, _⟩ := (HP7.out _ HS8.out).1.1.1.1.1.2.two
    obtain ⟨⟨d0, d1⟩, _⟩ := (HP7.out _ HS8.out).1.1.2.two
    by_cases hc : B.c = 0
    · obtain ⟨g1, g2⟩ := HBB.out hc
      rw [g2] at i3
      dsimp only at i3
      rw [HN.out] at i3
      have q1 : (B.c == 0) = true := by rw [hc]; rfl
      have fld := fun p k W => so_field n 0 p k W
      clear hc g1 g2 HBB HN
      by_cases hce : E.c = 0
      · obtain ⟨g1, g2, g3⟩ := HPR.out hce
        rw [g2] at i10
        rw [g3] at i9
        have q2 : (E.c == 0) = true := by rw [hce]; rfl
        have HSE2 := HSE.out.trans g2
        obtain ⟨sv, hsv⟩ : ∃ s, seenR E.l = s := ⟨_, rfl⟩
        rw [hsv] at i11 HSE2
        have q3 := ba_some HSE2
        have q3b : (sv.toList == []) = false := by cases e : sv.toList with
          | nil => rw [e] at q3; cases q3
          | cons a l => rfl
        have fld2 := fun p k W => so_field F.l.length F.c p k W
        clear hce HPR HSE g1 g2 g3 hsv HSE2
        go_wp2_with (first
          | (go_at_call 24; have _ := HS14; go_fit (j4 p13 p14 k13 k14 _ (row_own9 HV13a.out) (row_own9 HV14.out)); rintro e v15 ⟨rfl, hb⟩; have HS15 := Lib.hid (HS14.out.trans (hb.mono HS14.out.size)); clear hb)
          | (go_at_call 17; have _ := HS13; go_fit (i8 _ (row_own9 (HP7.out _ HS13.out).1.1.1.2)); rintro e v14 ⟨⟨p14, k14, rfl, hv⟩, hb⟩; have HS14 := Lib.hid (HS13.out.trans (hb.mono HS13.out.size)); have HV14 := Lib.hid hv; have HV13a := Lib.hid (HV13.out.on hb); clear hb hv)
          | (go_at_call 17; have _ := HS12; go_fit (i9 pe ke _ (row_own9 (HP7.out _ HS12.out).1.1.2.2)); rintro e v13 ⟨⟨p13, k13, rfl, hv⟩, hb⟩; have HS13 := Lib.hid (HS12.out.trans (hb.mono HS12.out.size)); have HV13 := Lib.hid hv; clear hb hv)
          | (go_at_call 26; have _ := HS11; go_fit (i11 pe ke _ (row_own9 (HP7.out _ HS11.out).1.1.2.2)); rintro e v12 ⟨rfl, hb⟩; have HS12 := Lib.hid (HS11.out.trans (hb.mono HS11.out.size)); clear hb; obtain ⟨⟨d0, d1⟩, _⟩ := (HP7.out _ HS12.out).1.1.2.two)
          | (go_at_call 25; have _ := HS10; go_fit (i10 pe ke _ (row_own9 (HP7.out _ HS10.out).1.1.2.2)); rintro e v11 ⟨rfl, hb⟩; have HS11 := Lib.hid (HS10.out.trans (hb.mono HS10.out.size)); clear hb; obtain ⟨⟨d0, d1⟩, _⟩ := (HP7.out _ HS11.out).1.1.2.two)
          | (go_at_call 24; have _ := HS9; go_fit (j0 p9 p k9 k _ (row_own9 HV9.out) (row_own9 (HP7.out _ HS9.out).1.1.1.1.1.1)); rintro e v10 ⟨rfl, hb⟩; have HS10 := Lib.hid (HS9.out.trans (hb.mono HS9.out.size)); clear hb; obtain ⟨⟨d0, d1⟩, _⟩ := (HP7.out _ HS10.out).1.1.2.two)
          | (go_at_call 20; go_fit (i3 pb kb _ (row_own9 (HP7.out _ HS8.out).1.1.1.1.1.2.2)); rintro e v9 ⟨⟨p9, k9, rfl, hv⟩, hb⟩; have HS9 := Lib.hid (HS8.out.trans (hb.mono HS8.out.size)); have HV9 := Lib.hid hv; clear hb hv))
        refine (draw_seen a0 len0 cap0 _ h0 (R0.out _ (HW7.out _ HS15.out))).mono ?_
        rintro e v20 ⟨⟨ls, pl, kl, rfl, ho, hl, hw⟩, hb⟩
        have sx : SeV ls := ⟨by omega, hw⟩
        have s1 := fun W h => impl_seen ls pl kl W sx.le.1 sx.le.2.2.2 sx.le.2.2.1 h
        have s2 := fun B W h => spec_seen ls pl kl B W sx.le.1 sx.le.2.2.2 sx.le.2.2.1 h
        have s3 := fun W h => impl_any ls pl kl W sx.le.1 sx.le.2.2.2 h
        have s4 := fun W h => spec_any ls pl kl W sx.le.1 sx.le.2.2.2 h
        have s5 := fun W h => impl_seright ls pl kl W sx.le.1 sx.le.2.2.2 h
        have s6 := fun W h => spec_seright ls pl kl W sx.le.1 sx.le.2.2.2 h
        have hse := seen_any ls
        obtain ⟨sv, hsv⟩ : ∃ s, seenR ls = s := ⟨_, rfl⟩
        obtain ⟨bv, hbv⟩ : ∃ b, anyR ls = b := ⟨_, rfl⟩
        obtain ⟨kv, hkv⟩ : ∃ b, okB ls = b := ⟨_, rfl⟩
        rw [hsv] at s1 s2 hse
        rw [hbv] at s3 s4 hse
        rw [hkv] at s5 s6
        obtain ⟨nl, hln⟩ : ∃ n, ls.length = n := ⟨_, rfl⟩
        rw [hln] at s1 s2 s3 s4 s5 s6 ho ⊢
        have HW20 := Lib.hid (fun W (h : Below v20.heap.size v20 W) => HW7.out W (chainB (chainB HS15.out hb) h))
        have HR20 := Lib.hid (fun W (h : Below v20.heap.size v20 W) => row_own9 (ho.on h))
        clear hb ho hl hw sx hsv hbv hkv hln
        have HSV := Lib.hid hse
        clear hse
        cases bv
        · have q4 := ba_none HSV.out
          have q4b : (sv.toList == []) = true := by cases e : sv.toList with
            | nil => rfl
            | cons a l => rw [e] at q4; cases q4
          go_wp2_with fail
          go_fit (s1 _ (HR20.out _ (Below.refl _ _)))
          rintro e v21 ⟨rfl, hb⟩
          have HT21 := Lib.hid hb
          clear hb
          go_wp2_with fail
          go_fit (s2 0 _ (HR20.out _ HT21.out))
          rintro e v22 ⟨rfl, hb⟩
          have HT22 := Lib.hid (HT21.out.trans (hb.mono HT21.out.size))
          clear hb
          go_wp2_with fail
          go_fit (s3 _ (HR20.out _ HT22.out))
          rintro e v23 ⟨rfl, hb⟩
          have HT23 := Lib.hid (HT22.out.trans (hb.mono HT22.out.size))
          clear hb
          go_wp2_with fail
          go_fit (s4 _ (HR20.out _ HT23.out))
          rintro e v24 ⟨rfl, hb⟩
          have HT24 := Lib.hid (HT23.out.trans (hb.mono HT23.out.size))
          clear hb
          go_wp2_with fail
          go_fit (s1 _ (HR20.out _ HT24.out))
          rintro e v25 ⟨rfl, hb⟩
          have HT25 := Lib.hid (HT24.out.trans (hb.mono HT24.out.size))
          clear hb
          go_wp2_with fail
          go_fit (s3 _ (HR20.out _ HT25.out))
          rintro e v26 ⟨rfl, hb⟩
          have HT26 := Lib.hid (HT25.out.trans (hb.mono HT25.out.size))
          clear hb
          go_wp2_with fail
          go_fit (s5 _ (HR20.out _ HT26.out))
          rintro e v27 ⟨rfl, hb⟩
          have HT27 := Lib.hid (HT26.out.trans (hb.mono HT26.out.size))
          clear hb
          go_wp2_with fail
          go_fit (s6 _ (HR20.out _ HT27.out))
          rintro e v28 ⟨rfl, hb⟩
          have HT28 := Lib.hid (HT27.out.trans (hb.mono HT27.out.size))
          clear hb
          go_wp2_with fail
          go_ret
          exact ⟨by simp, HW20.out _ HT28.out⟩
        · have q4 := ba_some HSV.out
          have q4b : (sv.toList == []) = false := by cases e : sv.toList with
            | nil => rw [e] at q4; cases q4
            | cons a l => rfl
          go_wp2_with fail
          go_fit (s1 _ (HR20.out _ (Below.refl _ _)))
          rintro e v21 ⟨rfl, hb⟩
          have HT21 := Lib.hid hb
          clear hb
          go_wp2_with fail
          go_fit (s2 0 _ (HR20.out _ HT21.out))
          rintro e v22 ⟨rfl, hb⟩
          have HT22 := Lib.hid (HT21.out.trans (hb.mono HT21.out.size))
          clear hb
          go_wp2_with fail
          go_fit (s3 _ (HR20.out _ HT22.out))
          rintro e v23 ⟨rfl, hb⟩
          have HT23 := Lib.hid (HT22.out.trans (hb.mono HT22.out.size))
          clear hb
          go_wp2_with fail
          go_fit (s4 _ (HR20.out _ HT23.out))
          rintro e v24 ⟨rfl, hb⟩
          have HT24 := Lib.hid (HT23.out.trans (hb.mono HT23.out.size))
          clear hb
          go_wp2_with fail
          go_fit (s1 _ (HR20.out _ HT24.out))
          rintro e v25 ⟨rfl, hb⟩
          have HT25 := Lib.hid (HT24.out.trans (hb.mono HT24.out.size))
          clear hb
          go_wp2_with fail
          go_fit (s3 _ (HR20.out _ HT25.out))
          rintro e v26 ⟨rfl, hb⟩
          have HT26 := Lib.hid (HT25.out.trans (hb.mono HT25.out.size))
          clear hb
          go_wp2_with fail
          go_fit (s5 _ (HR20.out _ HT26.out))
          rintro e v27 ⟨rfl, hb⟩
          have HT27 := Lib.hid (HT26.out.trans (hb.mono HT26.out.size))
          clear hb
          go_wp2_with fail
          go_fit (s6 _ (HR20.out _ HT27.out))
          rintro e v28 ⟨rfl, hb⟩
          have HT28 := Lib.hid (HT27.out.trans (hb.mono HT27.out.size))
          clear hb
          go_wp2_with fail
          go_ret
          exact ⟨by simp, HW20.out _ HT28.out⟩
      · have q2 : (E.c == 0) = false := by simpa using hce
        clear hce HPR HSE i8 i9 i10 i11 j4
        go_wp2_with (first
          | (go_at_call 24; have _ := HS9; go_fit (j0 p9 p k9 k _ (row_own9 HV9.out) (row_own9 (HP7.out _ HS9.out).1.1.1.1.1.1)); rintro e v10 ⟨rfl, hb⟩; have HS10 := Lib.hid (HS9.out.trans (hb.mono HS9.out.size)); clear hb; obtain ⟨⟨d0, d1⟩, _⟩ := (HP7.out _ HS10.out).1.1.2.two)
          | (go_at_call 20; go_fit (i3 pb kb _ (row_own9 (HP7.out _ HS8.out).1.1.1.1.1.2.2)); rintro e v9 ⟨⟨p9, k9, rfl, hv⟩, hb⟩; have HS9 := Lib.hid (HS8.out.trans (hb.mono HS8.out.size)); have HV9 := Lib.hid hv; clear hb hv))
        refine (draw_seen a0 len0 cap0 _ h0 (R0.out _ (HW7.out _ HS10.out))).mono ?_
        rintro e v20 ⟨⟨ls, pl, kl, rfl, ho, hl, hw⟩, hb⟩
        have sx : SeV ls := ⟨by omega, hw⟩
        have s1 := fun W h => impl_seen ls pl kl W sx.le.1 sx.le.2.2.2 sx.le.2.2.1 h
        have s2 := fun B W h => spec_seen ls pl kl B W sx.le.1 sx.le.2.2.2 sx.le.2.2.1 h
        have s3 := fun W h => impl_any ls pl kl W sx.le.1 sx.le.2.2.2 h
        have s4 := fun W h => spec_any ls pl kl W sx.le.1 sx.le.2.2.2 h
        have s5 := fun W h => impl_seright ls pl kl W sx.le.1 sx.le.2.2.2 h
        have s6 := fun W h => spec_seright ls pl kl W sx.le.1 sx.le.2.2.2 h
        have hse := seen_any ls
        obtain ⟨sv, hsv⟩ : ∃ s, seenR ls = s := ⟨_, rfl⟩
        obtain ⟨bv, hbv⟩ : ∃ b, anyR ls = b := ⟨_, rfl⟩
        obtain ⟨kv, hkv⟩ : ∃ b, okB ls = b := ⟨_, rfl⟩
        rw [hsv] at s1 s2 hse
        rw [hbv] at s3 s4 hse
        rw [hkv] at s5 s6
        obtain ⟨nl, hln⟩ : ∃ n, ls.length = n := ⟨_, rfl⟩
        rw [hln] at s1 s2 s3 s4 s5 s6 ho ⊢
        have HW20 := Lib.hid (fun W (h : Below v20.heap.size v20 W) => HW7.out W (chainB (chainB HS10.out hb) h))
        have HR20 := Lib.hid (fun W (h : Below v20.heap.size v20 W) => row_own9 (ho.on h))
        clear hb ho hl hw sx hsv hbv hkv hln
        have HSV := Lib.hid hse
        clear hse
        cases bv
        · have q4 := ba_none HSV.out
          have q4b : (sv.toList == []) = true := by cases e : sv.toList with
            | nil => rfl
            | cons a l => rw [e] at q4; cases q4
          go_wp2_with fail
          go_fit (s1 _ (HR20.out _ (Below.refl _ _)))
          rintro e v21 ⟨rfl, hb⟩
          have HT21 := Lib.hid hb
          clear hb
          go_wp2_with fail
          go_fit (s2 0 _ (HR20.out _ HT21.out))
          rintro e v22 ⟨rfl, hb⟩
          have HT22 := Lib.hid (HT21.out.trans (hb.mono HT21.out.size))
          clear hb
          go_wp2_with fail
          go_fit (s3 _ (HR20.out _ HT22.out))
          rintro e v23 ⟨rfl, hb⟩
          have HT23 := Lib.hid (HT22.out.trans (hb.mono HT22.out.size))
          clear hb
          go_wp2_with fail
          go_fit (s4 _ (HR20.out _ HT23.out))
          rintro e v24 ⟨rfl, hb⟩
          have HT24 := Lib.hid (HT23.out.trans (hb.mono HT23.out.size))
          clear hb
          go_wp2_with fail
          go_fit (s1 _ (HR20.out _ HT24.out))
          rintro e v25 ⟨rfl, hb⟩
          have HT25 := Lib.hid (HT24.out.trans (hb.mono HT24.out.size))
          clear hb
          go_wp2_with fail
          go_fit (s3 _ (HR20.out _ HT25.out))
          rintro e v26 ⟨rfl, hb⟩
          have HT26 := Lib.hid (HT25.out.trans (hb.mono HT25.out.size))
          clear hb
          go_wp2_with fail
          go_fit (s5 _ (HR20.out _ HT26.out))
          rintro e v27 ⟨rfl, hb⟩
          have HT27 := Lib.hid (HT26.out.trans (hb.mono HT26.out.size))
          clear hb
          go_wp2_with fail
          go_fit (s6 _ (HR20.out _ HT27.out))
          rintro e v28 ⟨rfl, hb⟩
          have HT28 := Lib.hid (HT27.out.trans (hb.mono HT27.out.size))
          clear hb
          go_wp2_with fail
          go_ret
          exact ⟨by simp, HW20.out _ HT28.out⟩
        · have q4 := ba_some HSV.out
          have q4b : (sv.toList == []) = false := by cases e : sv.toList with
            | nil => rw [e] at q4; cases q4
            | cons a l => rfl
          go_wp2_with fail
          go_fit (s1 _ (HR20.out _ (Below.refl _ _)))
          rintro e v21 ⟨rfl, hb⟩
          have HT21 := Lib.hid hb
          clear hb
          go_wp2_with fail
          go_fit (s2 0 _ (HR20.out _ HT21.out))
          rintro e v22 ⟨rfl, hb⟩
          have HT22 := Lib.hid (HT21.out.trans (hb.mono HT21.out.size))
          clear hb
          go_wp2_with fail
          go_fit (s3 _ (HR20.out _ HT22.out))
          rintro e v23 ⟨rfl, hb⟩
          have HT23 := Lib.hid (HT22.out.trans (hb.mono HT22.out.size))
          clear hb
          go_wp2_with fail
          go_fit (s4 _ (HR20.out _ HT23.out))
          rintro e v24 ⟨rfl, hb⟩
          have HT24 := Lib.hid (HT23.out.trans (hb.mono HT23.out.size))
          clear hb
          go_wp2_with fail
          go_fit (s1 _ (HR20.out _ HT24.out))
          rintro e v25 ⟨rfl, hb⟩
          have HT25 := Lib.hid (HT24.out.trans (hb.mono HT24.out.size))
          clear hb
          go_wp2_with fail
          go_fit (s3 _ (HR20.out _ HT25.out))
          rintro e v26 ⟨rfl, hb⟩
          have HT26 := Lib.hid (HT25.out.trans (hb.mono HT25.out.size))
          clear hb
          go_wp2_with fail
          go_fit (s5 _ (HR20.out _ HT26.out))
          rintro e v27 ⟨rfl, hb⟩
          have HT27 := Lib.hid (HT26.out.trans (hb.mono HT26.out.size))
          clear hb
          go_wp2_with fail
          go_fit (s6 _ (HR20.out _ HT27.out))
          rintro e v28 ⟨rfl, hb⟩
          have HT28 := Lib.hid (HT27.out.trans (hb.mono HT27.out.size))
          clear hb
          go_wp2_with fail
          go_ret
          exact ⟨by simp, HW20.out _ HT28.out⟩
    · have q1 : (B.c == 0) = false := by simpa using hc
      clear hc HBB HN i3 j0
      by_cases hce : E.c = 0
      · obtain ⟨g1, g2, g3⟩ := HPR.out hce
        rw [g2] at i10
        rw [g3] at i9
        have q2 : (E.c == 0) = true := by rw [hce]; rfl
        have HSE2 := HSE.out.trans g2
        obtain ⟨sv, hsv⟩ : ∃ s, seenR E.l = s := ⟨_, rfl⟩
        rw [hsv] at i11 HSE2
        have q3 := ba_some HSE2
        have q3b : (sv.toList == []) = false := by cases e : sv.toList with
          | nil => rw [e] at q3; cases q3
          | cons a l => rfl
        have fld2 := fun p k W => so_field F.l.length F.c p k W
        clear hce HPR HSE g1 g2 g3 hsv HSE2
        go_wp2_with (first
          | (go_at_call 24; have _ := HS14; go_fit (j4 p13 p14 k13 k14 _ (row_own9 HV13a.out) (row_own9 HV14.out)); rintro e v15 ⟨rfl, hb⟩; have HS15 := Lib.hid (HS14.out.trans (hb.mono HS14.out.size)); clear hb)
          | (go_at_call 17; have _ := HS13; go_fit (i8 _ (row_own9 (HP7.out _ HS13.out).1.1.1.2)); rintro e v14 ⟨⟨p14, k14, rfl, hv⟩, hb⟩; have HS14 := Lib.hid (HS13.out.trans (hb.mono HS13.out.size)); have HV14 := Lib.hid hv; have HV13a := Lib.hid (HV13.out.on hb); clear hb hv)
          | (go_at_call 17; have _ := HS12; go_fit (i9 pe ke _ (row_own9 (HP7.out _ HS12.out).1.1.2.2)); rintro e v13 ⟨⟨p13, k13, rfl, hv⟩, hb⟩; have HS13 := Lib.hid (HS12.out.trans (hb.mono HS12.out.size)); have HV13 := Lib.hid hv; clear hb hv)
          | (go_at_call 26; have _ := HS11; go_fit (i11 pe ke _ (row_own9 (HP7.out _ HS11.out).1.1.2.2)); rintro e v12 ⟨rfl, hb⟩; have HS12 := Lib.hid (HS11.out.trans (hb.mono HS11.out.size)); clear hb; obtain ⟨⟨d0, d1⟩, _⟩ := (HP7.out _ HS12.out).1.1.2.two)
          | (go_at_call 25; have _ := HS8; go_fit (i10 pe ke _ (row_own9 (HP7.out _ HS8.out).1.1.2.2)); rintro e v11 ⟨rfl, hb⟩; have HS11 := Lib.hid (HS8.out.trans (hb.mono HS8.out.size)); clear hb; obtain ⟨⟨d0, d1⟩, _⟩ := (HP7.out _ HS11.out).1.1.2.two))
        refine (draw_seen a0 len0 cap0 _ h0 (R0.out _ (HW7.out _ HS15.out))).mono ?_
        rintro e v20 ⟨⟨ls, pl, kl, rfl, ho, hl, hw⟩, hb⟩
        have sx : SeV ls := ⟨by omega, hw⟩
        have s1 := fun W h => impl_seen ls pl kl W sx.le.1 sx.le.2.2.2 sx.le.2.2.1 h
        have s2 := fun B W h => spec_seen ls pl kl B W sx.le.1 sx.le.2.2.2 sx.le.2.2.1 h
        have s3 := fun W h => impl_any ls pl kl W sx.le.1 sx.le.2.2.2 h
        have s4 := fun W h => spec_any ls pl kl W sx.le.1 sx.le.2.2.2 h
        have s5 := fun W h => impl_seright ls pl kl W sx.le.1 sx.le.2.2.2 h
        have s6 := fun W h => spec_seright ls pl kl W sx.le.1 sx.le.2.2.2 h
        have hse := seen_any ls
        obtain ⟨sv, hsv⟩ : ∃ s, seenR ls = s := ⟨_, rfl⟩
        obtain ⟨bv, hbv⟩ : ∃ b, anyR ls = b := ⟨_, rfl⟩
        obtain ⟨kv, hkv⟩ : ∃ b, okB ls = b := ⟨_, rfl⟩
        rw [hsv] at s1 s2 hse
        rw [hbv] at s3 s4 hse
        rw [hkv] at s5 s6
        obtain ⟨nl, hln⟩ : ∃ n, ls.length = n := ⟨_, rfl⟩
        rw [hln] at s1 s2 s3 s4 s5 s6 ho ⊢
        have HW20 := Lib.hid (fun W (h : Below v20.heap.size v20 W) => HW7.out W (chainB (chainB HS15.out hb) h))
        have HR20 := Lib.hid (fun W (h : Below v20.heap.size v20 W) => row_own9 (ho.on h))
        clear hb ho hl hw sx hsv hbv hkv hln
        have HSV := Lib.hid hse
        clear hse
        cases bv
        · have q4 := ba_none HSV.out
          have q4b : (sv.toList == []) = true := by cases e : sv.toList with
            | nil => rfl
            | cons a l => rw [e] at q4; cases q4
          go_wp2_with fail
          go_fit (s1 _ (HR20.out _ (Below.refl _ _)))
          rintro e v21 ⟨rfl, hb⟩
          have HT21 := Lib.hid hb
          clear hb
          go_wp2_with fail
          go_fit (s2 0 _ (HR20.out _ HT21.out))
          rintro e v22 ⟨rfl, hb⟩
          have HT22 := Lib.hid (HT21.out.trans (hb.mono HT21.out.size))
          clear hb
          go_wp2_with fail
          go_fit (s3 _ (HR20.out _ HT22.out))
          rintro e v23 ⟨rfl, hb⟩
          have HT23 := Lib.hid (HT22.out.trans (hb.mono HT22.out.size))
          clear hb
          go_wp2_with fail
          go_fit (s4 _ (HR20.out _ HT23.out))
          rintro e v24 ⟨rfl, hb⟩
          have HT24 := Lib.hid (HT23.out.trans (hb.mono HT23.out.size))
          clear hb
          go_wp2_with fail
          go_fit (s1 _ (HR20.out _ HT24.out))
          rintro e v25 ⟨rfl, hb⟩
          have HT25 := Lib.hid (HT24.out.trans (hb.mono HT24.out.size))
          clear hb
          go_wp2_with fail
          go_fit (s3 _ (HR20.out _ HT25.out))
          rintro e v26 ⟨rfl, hb⟩
          have HT26 := Lib.hid (HT25.out.trans (hb.mono HT25.out.size))
          clear hb
          go_wp2_with fail
          go_fit (s5 _ (HR20.out _ HT26.out))
          rintro e v27 ⟨rfl, hb⟩
          have HT27 := Lib.hid (HT26.out.trans (hb.mono HT26.out.size))
          clear hb
          go_wp2_with fail
          go_fit (s6 _ (HR20.out _ HT27.out))
          rintro e v28 ⟨rfl, hb⟩
          have HT28 := Lib.hid (HT27.out.trans (hb.mono HT27.out.size))
          clear hb
          go_wp2_with fail
          go_ret
          exact ⟨by simp, HW20.out _ HT28.out⟩
        · have q4 := ba_some HSV.out
          have q4b : (sv.toList == []) = false := by cases e : sv.toList with
            | nil => rw [e] at q4; cases q4
            | cons a l => rfl
          go_wp2_with fail
          go_fit (s1 _ (HR20.out _ (Below.refl _ _)))
          rintro e v21 ⟨rfl, hb⟩
          have HT21 := Lib.hid hb
          clear hb
          go_wp2_with fail
          go_fit (s2 0 _ (HR20.out _ HT21.out))
          rintro e v22 ⟨rfl, hb⟩
          have HT22 := Lib.hid (HT21.out.trans (hb.mono HT21.out.size))
          clear hb
          go_wp2_with fail
          go_fit (s3 _ (HR20.out _ HT22.out))
          rintro e v23 ⟨rfl, hb⟩
          have HT23 := Lib.hid (HT22.out.trans (hb.mono HT22.out.size))
          clear hb
          go_wp2_with fail
          go_fit (s4 _ (HR20.out _ HT23.out))
          rintro e v24 ⟨rfl, hb⟩
          have HT24 := Lib.hid (HT23.out.trans (hb.mono HT23.out.size))
          clear hb
          go_wp2_with fail
          go_fit (s1 _ (HR20.out _ HT24.out))
          rintro e v25 ⟨rfl, hb⟩
          have HT25 := Lib.hid (HT24.out.trans (hb.mono HT24.out.size))
          clear hb
          go_wp2_with fail
          go_fit (s3 _ (HR20.out _ HT25.out))
          rintro e v26 ⟨rfl, hb⟩
          have HT26 := Lib.hid (HT25.out.trans (hb.mono HT25.out.size))
          clear hb
          go_wp2_with fail
          go_fit (s5 _ (HR20.out _ HT26.out))
          rintro e v27 ⟨rfl, hb⟩
          have HT27 := Lib.hid (HT26.out.trans (hb.mono HT26.out.size))
          clear hb
          go_wp2_with fail
          go_fit (s6 _ (HR20.out _ HT27.out))
          rintro e v28 ⟨rfl, hb⟩
          have HT28 := Lib.hid (HT27.out.trans (hb.mono HT27.out.size))
          clear hb
          go_wp2_with fail
          go_ret
          exact ⟨by simp, HW20.out _ HT28.out⟩
      · have q2 : (E.c == 0) = false := by simpa using hce
        clear hce HPR HSE i8 i9 i10 i11 j4
        go_wp2_with fail
        refine (draw_seen a0 len0 cap0 _ h0 (R0.out _ (HW7.out _ HS8.out))).mono ?_
        rintro e v20 ⟨⟨ls, pl, kl, rfl, ho, hl, hw⟩, hb⟩
        have sx : SeV ls := ⟨by omega, hw⟩
        have s1 := fun W h => impl_seen ls pl kl W sx.le.1 sx.le.2.2.2 sx.le.2.2.1 h
        have s2 := fun B W h => spec_seen ls pl kl B W sx.le.1 sx.le.2.2.2 sx.le.2.2.1 h
        have s3 := fun W h => impl_any ls pl kl W sx.le.1 sx.le.2.2.2 h
        have s4 := fun W h => spec_any ls pl kl W sx.le.1 sx.le.2.2.2 h
        have s5 := fun W h => impl_seright ls pl kl W sx.le.1 sx.le.2.2.2 h
        have s6 := fun W h => spec_seright ls pl kl W sx.le.1 sx.le.2.2.2 h
        have hse := seen_any ls
        obtain ⟨sv, hsv⟩ : ∃ s, seenR ls = s := ⟨_, rfl⟩
        obtain ⟨bv, hbv⟩ : ∃ b, anyR ls = b := ⟨_, rfl⟩
        obtain ⟨kv, hkv⟩ : ∃ b, okB ls = b := ⟨_, rfl⟩
        rw [hsv] at s1 s2 hse
        rw [hbv] at s3 s4 hse
        rw [hkv] at s5 s6
        obtain ⟨nl, hln⟩ : ∃ n, ls.length = n := ⟨_, rfl⟩
        rw [hln] at s1 s2 s3 s4 s5 s6 ho ⊢
        have HW20 := Lib.hid (fun W (h : Below v20.heap.size v20 W) => HW7.out W (chainB (chainB HS8.out hb) h))
        have HR20 := Lib.hid (fun W (h : Below v20.heap.size v20 W) => row_own9 (ho.on h))
        clear hb ho hl hw sx hsv hbv hkv hln
        have HSV := Lib.hid hse
        clear hse
        cases bv
        · have q4 := ba_none HSV.out
          have q4b : (sv.toList == []) = true := by cases e : sv.toList with
            | nil => rfl
            | cons a l => rw [e] at q4; cases q4
          go_wp2_with fail
          go_fit (s1 _ (HR20.out _ (Below.refl _ _)))
          rintro e v21 ⟨rfl, hb⟩
          have HT21 := Lib.hid hb
          clear hb
          go_wp2_with fail
          go_fit (s2 0 _ (HR20.out _ HT21.out))
          rintro e v22 ⟨rfl, hb⟩
          have HT22 := Lib.hid (HT21.out.trans (hb.mono HT21.out.size))
          clear hb
          go_wp2_with fail
          go_fit (s3 _ (HR20.out _ HT22.out))
          rintro e v23 ⟨rfl, hb⟩
          have HT23 := Lib.hid (HT22.out.trans (hb.mono HT22.out.size))
          clear hb
          go_wp2_with fail
          go_fit (s4 _ (HR20.out _ HT23.out))
          rintro e v24 ⟨rfl, hb⟩
          have HT24 := Lib.hid (HT23.out.trans (hb.mono HT23.out.size))
          clear hb
          go_wp2_with fail
          go_fit (s1 _ (HR20.out _ HT24.out))
          rintro e v25 ⟨rfl, hb⟩
          have HT25 := Lib.hid (HT24.out.trans (hb.mono HT24.out.size))
          clear hb
          go_wp2_with fail
          go_fit (s3 _ (HR20.out _ HT25.out))
          rintro e v26 ⟨rfl, hb⟩
          have HT26 := Lib.hid (HT25.out.trans (hb.mono HT25.out.size))
          clear hb
          go_wp2_with fail
          go_fit (s5 _ (HR20.out _ HT26.out))
          rintro e v27 ⟨rfl, hb⟩
          have HT27 := Lib.hid (HT26.out.trans (hb.mono HT26.out.size))
          clear hb
          go_wp2_with fail
          go_fit (s6 _ (HR20.out _ HT27.out))
          rintro e v28 ⟨rfl, hb⟩
          have HT28 := Lib.hid (HT27.out.trans (hb.mono HT27.out.size))
          clear hb
          go_wp2_with fail
          go_ret
          exact ⟨by simp, HW20.out _ HT28.out⟩
        · have q4 := ba_some HSV.out
          have q4b : (sv.toList == []) = false := by cases e : sv.toList with
            | nil => rw [e] at q4; cases q4
            | cons a l => rfl
          go_wp2_with fail
          go_fit (s1 _ (HR20.out _ (Below.refl _ _)))
          rintro e v21 ⟨rfl, hb⟩
          have HT21 := Lib.hid hb
          clear hb
          go_wp2_with fail
          go_fit (s2 0 _ (HR20.out _ HT21.out))
          rintro e v22 ⟨rfl, hb⟩
          have HT22 := Lib.hid (HT21.out.trans (hb.mono HT21.out.size))
          clear hb
          go_wp2_with fail
          go_fit (s3 _ (HR20.out _ HT22.out))
          rintro e v23 ⟨rfl, hb⟩
          have HT23 := Lib.hid (HT22.out.trans (hb.mono HT22.out.size))
          clear hb
          go_wp2_with fail
          go_fit (s4 _ (HR20.out _ HT23.out))
          rintro e v24 ⟨rfl, hb⟩
          have HT24 := Lib.hid (HT23.out.trans (hb.mono HT23.out.size))
          clear hb
          go_wp2_with fail
          go_fit (s1 _ (HR20.out _ HT24.out))
          rintro e v25 ⟨rfl, hb⟩
          have HT25 := Lib.hid (HT24.out.trans (hb.mono HT24.out.size))
          clear hb
          go_wp2_with fail
          go_fit (s3 _ (HR20.out _ HT25.out))
          rintro e v26 ⟨rfl, hb⟩
          have HT26 := Lib.hid (HT25.out.trans (hb.mono HT25.out.size))
          clear hb
          go_wp2_with fail
          go_fit (s5 _ (HR20.out _ HT26.out))
          rintro e v27 ⟨rfl, hb⟩
          have HT27 := Lib.hid (HT26.out.trans (hb.mono HT26.out.size))
          clear hb
          go_wp2_with fail
          go_fit (s6 _ (HR20.out _ HT27.out))
          rintro e v28 ⟨rfl, hb⟩
          have HT28 := Lib.hid (HT27.out.trans (hb.mono HT27.out.size))
          clear hb
          go_wp2_with fail
          go_ret
          exact ⟨by simp, HW20.out _ HT28.out⟩
end Go.Proofs.Ytafdjjdmcnlddaa

namespace Go.Proofs.Ytafdjjdmcnlddaa
set_option linter.unusedSimpArgs false
set_option linter.unusedVariables false
open Go.RowKit Go.Joins

set_option maxRecDepth 100000 in
set_option maxHeartbeats 1000000 in
theorem sess_all (w : World) (a0 : Option Addr) (len0 cap0 : Nat) (w0 : SrcRow w w.heap.size a0 len0) (a1 : Option Addr) (len1 cap1 : Nat) (w1 : SrcRow w w.heap.size a1 len1) :
    Calls Try.prog 3 #[.slice a0 len0 cap0, .slice a1 len1 cap1] w fun e w' => e = .returned (.bool true) ∧ Below w.heap.size w w' := by
  by_cases hb0 : 1048576 < len0
  · clear w0 w1
    go_enter Try.func3, Try.ntmps3
    go_wp2
    all_goals (go_ret; exact ⟨rfl, Below.refl _ _⟩)
  · by_cases hb1 : 1048576 < len1
    · clear w0 w1
      go_enter Try.func3, Try.ntmps3
      go_wp2
      all_goals (go_ret; exact ⟨rfl, Below.refl _ _⟩)
    · exact sess_law w a0 len0 cap0 w0 a1 len1 cap1 w1 (by omega) (by omega)
end Go.Proofs.Ytafdjjdmcnlddaa
