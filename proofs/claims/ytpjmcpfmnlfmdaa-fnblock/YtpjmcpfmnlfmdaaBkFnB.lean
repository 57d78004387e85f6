/- FnBlock's walk. -/
import Derived.Test.YtpjmcpfmnlfmdaaBkAddI
import Derived.Test.YtpjmcpfmnlfmdaaBkDraw
import Derived.Test.YtpjmcpfmnlfmdaaBkLw
import Derived.Test.YtpjmcpfmnlfmdaaBkBlk
import Derived.Test.YtpjmcpfmnlfmdaaEdgeBase
namespace Go.Proofs.Ytpjmcpfmnlfmdaa
set_option linter.unusedSimpArgs false
set_option linter.unusedVariables false
open Go.RowKit Go.Joins

theorem bo_field (R : BoL) (p : Option Addr) (k : Nat) (W : World) : (Instr.field 27 (.agg #[.slice p R.l.length k, .int .i64 R.c]) 0).run Try.prog W = .ok (.slice p R.l.length k) W := by kernel_rfl
theorem bo_field2 (n : Nat) (p : Option Addr) (k : Nat) (W : World) : (Instr.field 27 (.agg #[.slice p n k, .int .i64 0]) 0).run Try.prog W = .ok (.slice p n k) W := by kernel_rfl
theorem txw_of {xs : List ByteArray} (h : TxW xs) : xs.length ≤ 1048576 ∧ (∀ x ∈ xs, x.size ≤ 2000000) ∧ (∀ x ∈ xs, x.size ≤ 1048576) ∧ ∀ x ∈ xs, x.size ≤ maxLen := by
  have h1 := h.1
  refine ⟨by omega, fun x hx => ?_, fun x hx => ?_, fun x hx => ?_⟩ <;> have := h.2 x hx
  · omega
  · omega
  · unfold maxLen; omega
theorem jid_good {j : ByteArray} (h : addrB j = true) : jidB (rdL j) (rdD j) (rdR j) = true := by
  obtain ⟨h1, h2, h3⟩ := rd_good h
  rw [h1, h2, h3]
  unfold addrB goodR at h
  simp only [Bool.and_eq_true] at h
  exact h.1.2
theorem blk_mem {xs : List ByteArray} {j : ByteArray} (hk : bkB xs = true) (ha : addrB j = true) (hm : j ∈ xs) : blkB xs j = true := by
  unfold blkB anyM
  rw [hk, ha, Bool.true_and, Bool.true_and, List.any_eq_true]
  exact ⟨j, hm, match_self (jid_good ha)⟩
theorem add_okc {xs : List ByteArray} {j : ByteArray} : (addR xs j).c = 0 → bkB (addR xs j).l = true := fun h => (add_blk h).1
/-- The drawn answer's box. -/
def XbW (w W : World) (b : Nat) (R : BoL) (p : Option Addr) (k : Nat) : Prop := Arr W b 27 [.slice p R.l.length k, .int .i64 R.c] ∧ Below w.heap.size w W
theorem XbW.on {w W W2 : World} {b : Nat} {R : BoL} {p : Option Addr} {k : Nat} (h : XbW w W b R p k) (hb : Below W.heap.size W W2) : XbW w W2 b R p k := ⟨arrX_on h.1 hb, h.2.trans (hb.mono h.2.size)⟩
set_option maxRecDepth 100000 in
set_option maxHeartbeats 8000000 in
theorem block_law (w : World) (a0 : Option Addr) (len0 cap0 : Nat) (w0 : SrcRow w w.heap.size a0 len0) (a1 : Option Addr) (len1 cap1 : Nat) (w1 : SrcRow w w.heap.size a1 len1) (h0 : len0 ≤ 1048576) (h1 : len1 ≤ 1048576) (hm : MaxL w) :
    Calls Try.prog 3 #[.slice a0 len0 cap0, .slice a1 len1 cap1] w fun e w' => e = .returned (.bool true) ∧ Below w.heap.size w w' := by
  have HM := Lib.hid (fun W (h : Below w.heap.size w W) => hm.below h hm.pos)
  have R0 := Lib.hid w0
  have R1 := Lib.hid (fun W (h : Below w.heap.size w W) => (w1.lift h h.size : SrcRow W W.heap.size a1 len1))
  clear w0 w1 hm
  go_enter Try.func3, Try.ntmps3
  go_wp2_with fail
  refine (draw_badd a0 len0 cap0 _ h0 R0.out).mono ?_
  rintro e v1 ⟨⟨xs, p, k, j, rfl, ho, hxl, hxw, hjw⟩, hb1⟩
  have HB1 := Lib.hid hb1
  have HX1 := Lib.hid ho
  have hxw2 : ∀ x ∈ xs, x.size ≤ 1048576 := fun x hx => by have := hxw x hx; omega
  have i1 := fun W h hm => impl_blockadd xs j p k W (by omega) (by omega) hxw2 h hm
  have i2 := fun B W h => spec_blockadd xs j p k B W (by omega) (by omega) hxw2 h
  have HXX : Hid (xs.length ≤ 9 ∧ (∀ x ∈ xs, x.size ≤ 100)) := Lib.hid ⟨hxl, hxw⟩
  unfold BoIs at i1 i2
  have hRl : (addR xs j).l.length ≤ 1048576 ∧ ∀ x ∈ (addR xs j).l, x.size ≤ 100 := by
    unfold addR illB
    split
    · exact ⟨by simp, fun x hx => by cases hx⟩
    · split
      · exact ⟨by simp, fun x hx => by cases hx⟩
      · split
        · exact ⟨by simp, fun x hx => by cases hx⟩
        · split
          · exact ⟨by simp, fun x hx => by cases hx⟩
          · refine ⟨?_, fun x hx => ?_⟩
            · show (xs.take _ ++ [j] ++ xs.drop _).length ≤ 1048576
              simp only [List.length_append, List.length_take, List.length_drop, List.length_cons, List.length_nil]
              omega
            · rcases List.mem_append.1 hx with hx | hx
              · rcases List.mem_append.1 hx with hx | hx
                · exact hxw x (List.mem_of_mem_take hx)
                · obtain rfl := List.mem_singleton.1 hx
                  exact hjw
              · exact hxw x (List.mem_of_mem_drop hx)
  have HAD : Hid ((addR xs j).c = 0 → bkB (addR xs j).l = true ∧ addrB j = true ∧ j ∈ (addR xs j).l ∧ delR (addR xs j).l j = ⟨xs, 0⟩) := Lib.hid add_blk
  obtain ⟨R, hR⟩ : ∃ R, addR xs j = R := ⟨_, rfl⟩
  rw [hR] at i1 i2 hRl HAD
  have j1 := fun p q k l W hp hq => lw_blocks R p q k l W hRl.1 (fun x hx => by have := hRl.2 x hx; omega) (fun h => (HAD.out h).1) hp hq
  unfold boV at j1
  have i3 := fun p k W h hm => impl_blocked R.l j p k W hRl.1 (by unfold maxLen; omega) (fun x hx => by have := hRl.2 x hx; unfold maxLen; omega) h hm
  have i4 := fun p k W h hm => impl_blockdel R.l j p k W hRl.1 (by omega) (fun x hx => by have := hRl.2 x hx; omega) h hm
  have i5 := fun p q k l W hp hq => lw_texts xs p q k l W (by omega) hp hq
  unfold BoIs at i4
  obtain ⟨n, hxn⟩ : ∃ n, xs.length = n := ⟨_, rfl⟩
  have HN := Lib.hid hxn
  rw [hxn] at i1 i2 i5 HX1 ⊢
  clear hb1 ho hxl hxw hjw hxw2 hR hRl hxn h0
  go_wp2_with (go_at_call 11; go_fit (i1 _ (row_ownX HX1.out) (HM.out _ HB1.out)); rintro e v2 ⟨⟨p2, k2, rfl, hv⟩, hb⟩; have HB2 := Lib.hid (HB1.out.trans (hb.mono HB1.out.size)); have HX2 := Lib.hid (HX1.out.on hb); have HR2 := Lib.hid hv; clear hb hv)
  have HB2a := Lib.hid (HB2.out.alloc HB2.out.size (.cells #[.slice p2 R.l.length k2, .int .i64 R.c] 27))
  have HX2a := Lib.hid (HX2.out.alloc (.cells #[.slice p2 R.l.length k2, .int .i64 R.c] 27))
  have HR2a := Lib.hid (HR2.out.alloc (.cells #[.slice p2 R.l.length k2, .int .i64 R.c] 27))
  have HA2a := Lib.hid (Arr.fresh v2 27 [.slice p2 R.l.length k2, .int .i64 R.c])
  refine (draw_bdel a1 len1 cap1 _ h1 (R1.out _ HB2a.out)).mono ?_
  rintro e v3 ⟨⟨ys, q, l, u, rfl, ho, hyl, hyw, huw⟩, hb3⟩
  have HB3 := Lib.hid (HB2a.out.trans (hb3.mono HB2a.out.size))
  have HX3 := Lib.hid (HX2a.out.on hb3)
  have HR3 := Lib.hid (HR2a.out.on hb3)
  have HA3 := Lib.hid (arrX_on HA2a.out hb3)
  have HY3 := Lib.hid ho
  have hyw2 : ∀ x ∈ ys, x.size ≤ 1048576 := fun x hx => by have := hyw x hx; omega
  have k1 := fun W h hm => impl_blockdel ys u q l W (by omega) (by omega) hyw2 h hm
  have k2' := fun B W h => spec_blockdel ys u q l B W (by omega) (by omega) hyw2 h
  have k3 := fun W h hm => impl_blocked ys u q l W (by omega) (by unfold maxLen; omega) (tx_max hyw2) h hm
  have k4 := fun W h => spec_blocked ys u q l W (by omega) (by omega) (tx_two hyw2) h
  have k5 := fun W h hm => impl_bkright ys q l W (by omega) (tx_max hyw2) h hm
  have k6 := fun W h => spec_bkright ys q l W (by omega) (tx_two hyw2) h
  unfold BoIs at k1 k2'
  have hDl : (delR ys u).l.length ≤ 1048576 ∧ ∀ x ∈ (delR ys u).l, x.size ≤ 100 := by
    unfold delR illB
    split
    · exact ⟨by simp, fun x hx => by cases hx⟩
    · split
      · exact ⟨by simp, fun x hx => by cases hx⟩
      · split
        · exact ⟨by simp, fun x hx => by cases hx⟩
        · refine ⟨?_, fun x hx => ?_⟩
          · show (ys.take _ ++ ys.drop _).length ≤ 1048576
            simp only [List.length_append, List.length_take, List.length_drop]
            omega
          · rcases List.mem_append.1 hx with hx | hx
            · exact hyw x (List.mem_of_mem_take hx)
            · exact hyw x (List.mem_of_mem_drop hx)
  have hDok : (delR ys u).c = 0 → bkB (delR ys u).l = true := del_ok
  obtain ⟨D, hD⟩ : ∃ D, delR ys u = D := ⟨_, rfl⟩
  rw [hD] at k1 k2' hDl hDok
  have j2 := fun p q k l W hp hq => lw_blocks D p q k l W hDl.1 (fun x hx => by have := hDl.2 x hx; omega) hDok hp hq
  unfold boV at j2
  obtain ⟨bb, hbb⟩ : ∃ b, blkB ys u = b := ⟨_, rfl⟩
  obtain ⟨br, hbr⟩ : ∃ b, bkB ys = b := ⟨_, rfl⟩
  rw [hbb] at k3 k4
  rw [hbr] at k5 k6
  obtain ⟨m, hym⟩ : ∃ m, ys.length = m := ⟨_, rfl⟩
  rw [hym] at k1 k2' k3 k4 k5 k6 HY3 ⊢
  have HP3 := Lib.hid (fun W (h : Below v3.heap.size v3 W) => (And.intro (HX3.out.on h) (And.intro (HR3.out.on h) (And.intro (arrX_on HA3.out h) (HY3.out.on h)))))
  have HM3 := Lib.hid (fun W (h : Below v3.heap.size v3 W) => HM.out W (HB3.out.trans (h.mono HB3.out.size)))
  clear hb3 ho hyl hyw huw hyw2 hD hDl hDok hbb hbr hym h1 HX1 HX2 HR2 HX2a HR2a HA2a
  go_wp2_with fail
  refine region_join [31, 32, 33, 34, 35, 36, 37, 38, 39, 40, 41, 42, 43, 44, 45, 46, 47, 48, 49, 50, 51, 52, 53, 54, 55, 56, 57, 58, 59, 60, 61, 62] (fun vs W => vs 62 = .bool false ∧ Below v3.heap.size v3 W) ?_ ?_
  · refine wp_region_held_drew (S := fun W => Below v3.heap.size v3 W) (by kernel_rfl) (Below.refl _ _).drew (fun hHeld => ?_)
    have HS0 : Hid (Below v3.heap.size v3 v3.drew) := Lib.hid (Below.refl _ _).drew
    generalize v3.drew = wd at HS0 hHeld ⊢
    refine takeQ (i := 0) (k := 31) (v := .agg #[.slice p2 R.l.length k2, .int .i64 R.c]) rfl (by rfl) (by kernel_rfl) (by kernel_rfl) (by kernel_rfl) (fun _ _ _ h => h) (by rfl) ?_ hHeld ?_
    · intro w1 hSw; obtain ⟨⟨m0, m1⟩, _⟩ := arrX_two (HP3.out _ hSw).2.2.1; go_simp
    (try simp only [Act.put, List.setIfInBounds_toArray, List.set_cons_zero, List.set_cons_succ])
    refine takeQ (i := 1) (k := 32) (v := .slice p n k) rfl (by rfl) (by kernel_rfl) (by kernel_rfl) (by kernel_rfl) (fun _ _ _ h => h) (by rfl) ?_ hHeld ?_
    · intro w1 hSw; go_simp
    (try simp only [Act.put, List.setIfInBounds_toArray, List.set_cons_zero, List.set_cons_succ])
    refine takeQ (i := 2) (k := 33) (v := .string j) rfl (by rfl) (by kernel_rfl) (by kernel_rfl) (by kernel_rfl) (fun _ _ _ h => h) (by rfl) ?_ hHeld ?_
    · intro w1 hSw; go_simp
    (try simp only [Act.put, List.setIfInBounds_toArray, List.set_cons_zero, List.set_cons_succ])
    refine wpAnyH_ready (rs := [3]) (by kernel_rfl) (by simp) ?_
    refine AllReadyH.cons rfl (fun K hK => ?_) AllReadyH.nil
    rw [if_pos (by rfl)]
    go_simp
    go_fit (i2 _ _ (HP3.out _ HS0.out).1)
    rintro e W1r ⟨⟨pa, ka, rfl, hv⟩, hb⟩
    have HS2r := Lib.hid (HS0.out.trans (hb.mono HS0.out.size))
    have RA3r := Lib.hid hv
    clear hb hv
    refine hK.out _ _ HS2r.out (fun hHeld => ?_)
    clear hK K
    (try simp only [Act.put, List.setIfInBounds_toArray, List.set_cons_zero, List.set_cons_succ])
    refine wpAnyH_ready (rs := [4]) (by kernel_rfl) (by simp) ?_
    refine AllReadyH.cons rfl (fun K hK => ?_) AllReadyH.nil
    rw [if_pos (by rfl)]
    go_simp
    go_fit (j1 p2 pa k2 ka _ (row_ownX (HP3.out _ HS2r.out).2.1) (row_ownX RA3r.out))
    rintro e W4r ⟨rfl, hb⟩
    have HS5r := Lib.hid (HS2r.out.trans (hb.mono HS2r.out.size))
    have RA6r := Lib.hid (RA3r.out.on hb)
    clear hb
    refine hK.out _ _ HS5r.out (fun hHeld => ?_)
    clear hK K
    (try simp only [Act.put, List.setIfInBounds_toArray, List.set_cons_zero, List.set_cons_succ])
    refine takeQ (i := 5) (k := 36) (v := .bool false) rfl (by rfl) (by kernel_rfl) (by kernel_rfl) (by kernel_rfl) (fun _ _ _ h => h) (by rfl) ?_ hHeld ?_
    · intro w1 hSw; go_simp
    (try simp only [Act.put, List.setIfInBounds_toArray, List.set_cons_zero, List.set_cons_succ])
    refine takeQ (i := 6) (k := 37) (v := .bool false) rfl (by rfl) (by kernel_rfl) (by kernel_rfl) (by kernel_rfl) (fun _ _ _ h => h) (by rfl) ?_ hHeld ?_
    · intro w1 hSw; go_simp
    (try simp only [Act.put, List.setIfInBounds_toArray, List.set_cons_zero, List.set_cons_succ])
    refine takeQ (i := 7) (k := 38) (v := .slice q m l) rfl (by rfl) (by kernel_rfl) (by kernel_rfl) (by kernel_rfl) (fun _ _ _ h => h) (by rfl) ?_ hHeld ?_
    · intro w1 hSw; go_simp
    (try simp only [Act.put, List.setIfInBounds_toArray, List.set_cons_zero, List.set_cons_succ])
    refine takeQ (i := 8) (k := 39) (v := .string u) rfl (by rfl) (by kernel_rfl) (by kernel_rfl) (by kernel_rfl) (fun _ _ _ h => h) (by rfl) ?_ hHeld ?_
    · intro w1 hSw; go_simp
    (try simp only [Act.put, List.setIfInBounds_toArray, List.set_cons_zero, List.set_cons_succ])
    refine takeQ (i := 10) (k := 41) (v := .slice q m l) rfl (by rfl) (by kernel_rfl) (by kernel_rfl) (by kernel_rfl) (fun _ _ _ h => h) (by rfl) ?_ hHeld ?_
    · intro w1 hSw; go_simp
    (try simp only [Act.put, List.setIfInBounds_toArray, List.set_cons_zero, List.set_cons_succ])
    refine takeQ (i := 11) (k := 42) (v := .string u) rfl (by rfl) (by kernel_rfl) (by kernel_rfl) (by kernel_rfl) (fun _ _ _ h => h) (by rfl) ?_ hHeld ?_
    · intro w1 hSw; go_simp
    (try simp only [Act.put, List.setIfInBounds_toArray, List.set_cons_zero, List.set_cons_succ])
    refine wpAnyH_ready (rs := [9]) (by kernel_rfl) (by simp) ?_
    refine AllReadyH.cons rfl (fun K hK => ?_) AllReadyH.nil
    rw [if_pos (by rfl)]
    go_simp
    go_fit (k1 _ (row_ownX (HP3.out _ HS5r.out).2.2.2) (HM3.out _ HS5r.out))
    rintro e W7r ⟨⟨pb, kb, rfl, hv⟩, hb⟩
    have HS8r := Lib.hid (HS5r.out.trans (hb.mono HS5r.out.size))
    have RA9r := Lib.hid (RA6r.out.on hb)
    have RB10r := Lib.hid hv
    clear hb hv
    refine hK.out _ _ HS8r.out (fun hHeld => ?_)
    clear hK K
    (try simp only [Act.put, List.setIfInBounds_toArray, List.set_cons_zero, List.set_cons_succ])
    refine wpAnyH_ready (rs := [12]) (by kernel_rfl) (by simp) ?_
    refine AllReadyH.cons rfl (fun K hK => ?_) AllReadyH.nil
    rw [if_pos (by rfl)]
    go_simp
    go_fit (k2' _ _ (HP3.out _ HS8r.out).2.2.2)
    rintro e W11r ⟨⟨pc, kc, rfl, hv⟩, hb⟩
    have HS12r := Lib.hid (HS8r.out.trans (hb.mono HS8r.out.size))
    have RA13r := Lib.hid (RA9r.out.on hb)
    have RB14r := Lib.hid (RB10r.out.on hb)
    have RC15r := Lib.hid hv
    clear hb hv
    refine hK.out _ _ HS12r.out (fun hHeld => ?_)
    clear hK K
    (try simp only [Act.put, List.setIfInBounds_toArray, List.set_cons_zero, List.set_cons_succ])
    refine wpAnyH_ready (rs := [13]) (by kernel_rfl) (by simp) ?_
    refine AllReadyH.cons rfl (fun K hK => ?_) AllReadyH.nil
    rw [if_pos (by rfl)]
    go_simp
    go_fit (j2 pb pc kb kc _ (row_ownX RB14r.out) (row_ownX RC15r.out))
    rintro e W16r ⟨rfl, hb⟩
    have HS17r := Lib.hid (HS12r.out.trans (hb.mono HS12r.out.size))
    have RA18r := Lib.hid (RA13r.out.on hb)
    have RB19r := Lib.hid (RB14r.out.on hb)
    have RC20r := Lib.hid (RC15r.out.on hb)
    clear hb
    refine hK.out _ _ HS17r.out (fun hHeld => ?_)
    clear hK K
    (try simp only [Act.put, List.setIfInBounds_toArray, List.set_cons_zero, List.set_cons_succ])
    refine takeQ (i := 14) (k := 45) (v := .bool false) rfl (by rfl) (by kernel_rfl) (by kernel_rfl) (by kernel_rfl) (fun _ _ _ h => h) (by rfl) ?_ hHeld ?_
    · intro w1 hSw; go_simp
    (try simp only [Act.put, List.setIfInBounds_toArray, List.set_cons_zero, List.set_cons_succ])
    refine takeQ (i := 15) (k := 46) (v := .bool false) rfl (by rfl) (by kernel_rfl) (by kernel_rfl) (by kernel_rfl) (fun _ _ _ h => h) (by rfl) ?_ hHeld ?_
    · intro w1 hSw; go_simp
    (try simp only [Act.put, List.setIfInBounds_toArray, List.set_cons_zero, List.set_cons_succ])
    refine takeQ (i := 16) (k := 47) (v := .bool false) rfl (by rfl) (by kernel_rfl) (by kernel_rfl) (by kernel_rfl) (fun _ _ _ h => h) (by rfl) ?_ hHeld ?_
    · intro w1 hSw; go_simp
    (try simp only [Act.put, List.setIfInBounds_toArray, List.set_cons_zero, List.set_cons_succ])
    refine takeQ (i := 17) (k := 48) (v := .slice q m l) rfl (by rfl) (by kernel_rfl) (by kernel_rfl) (by kernel_rfl) (fun _ _ _ h => h) (by rfl) ?_ hHeld ?_
    · intro w1 hSw; go_simp
    (try simp only [Act.put, List.setIfInBounds_toArray, List.set_cons_zero, List.set_cons_succ])
    refine takeQ (i := 18) (k := 49) (v := .string u) rfl (by rfl) (by kernel_rfl) (by kernel_rfl) (by kernel_rfl) (fun _ _ _ h => h) (by rfl) ?_ hHeld ?_
    · intro w1 hSw; go_simp
    (try simp only [Act.put, List.setIfInBounds_toArray, List.set_cons_zero, List.set_cons_succ])
    refine takeQ (i := 20) (k := 51) (v := .slice q m l) rfl (by rfl) (by kernel_rfl) (by kernel_rfl) (by kernel_rfl) (fun _ _ _ h => h) (by rfl) ?_ hHeld ?_
    · intro w1 hSw; go_simp
    (try simp only [Act.put, List.setIfInBounds_toArray, List.set_cons_zero, List.set_cons_succ])
    refine takeQ (i := 21) (k := 52) (v := .string u) rfl (by rfl) (by kernel_rfl) (by kernel_rfl) (by kernel_rfl) (fun _ _ _ h => h) (by rfl) ?_ hHeld ?_
    · intro w1 hSw; go_simp
    (try simp only [Act.put, List.setIfInBounds_toArray, List.set_cons_zero, List.set_cons_succ])
    refine wpAnyH_ready (rs := [19]) (by kernel_rfl) (by simp) ?_
    refine AllReadyH.cons rfl (fun K hK => ?_) AllReadyH.nil
    rw [if_pos (by rfl)]
    go_simp
    go_fit (k3 _ (row_ownX (HP3.out _ HS17r.out).2.2.2) (HM3.out _ HS17r.out))
    rintro e W21r ⟨rfl, hb⟩
    have HS22r := Lib.hid (HS17r.out.trans (hb.mono HS17r.out.size))
    have RA23r := Lib.hid (RA18r.out.on hb)
    have RB24r := Lib.hid (RB19r.out.on hb)
    have RC25r := Lib.hid (RC20r.out.on hb)
    clear hb
    refine hK.out _ _ HS22r.out (fun hHeld => ?_)
    clear hK K
    (try simp only [Act.put, List.setIfInBounds_toArray, List.set_cons_zero, List.set_cons_succ])
    refine wpAnyH_ready (rs := [22]) (by kernel_rfl) (by simp) ?_
    refine AllReadyH.cons rfl (fun K hK => ?_) AllReadyH.nil
    rw [if_pos (by rfl)]
    go_simp
    go_fit (k4 _ (row_ownX (HP3.out _ HS22r.out).2.2.2))
    rintro e W26r ⟨rfl, hb⟩
    have HS27r := Lib.hid (HS22r.out.trans (hb.mono HS22r.out.size))
    have RA28r := Lib.hid (RA23r.out.on hb)
    have RB29r := Lib.hid (RB24r.out.on hb)
    have RC30r := Lib.hid (RC25r.out.on hb)
    clear hb
    refine hK.out _ _ HS27r.out (fun hHeld => ?_)
    clear hK K
    (try simp only [Act.put, List.setIfInBounds_toArray, List.set_cons_zero, List.set_cons_succ])
    refine takeQ (i := 23) (k := 54) (v := .bool false) rfl (by rfl) (by kernel_rfl) (by kernel_rfl) (by kernel_rfl) (fun _ _ _ h => h) (by rfl) ?_ hHeld ?_
    · intro w1 hSw; go_simp
    (try simp only [Act.put, List.setIfInBounds_toArray, List.set_cons_zero, List.set_cons_succ])
    refine takeQ (i := 24) (k := 55) (v := .bool false) rfl (by rfl) (by kernel_rfl) (by kernel_rfl) (by kernel_rfl) (fun _ _ _ h => h) (by rfl) ?_ hHeld ?_
    · intro w1 hSw; go_simp
    (try simp only [Act.put, List.setIfInBounds_toArray, List.set_cons_zero, List.set_cons_succ])
    refine takeQ (i := 25) (k := 56) (v := .bool false) rfl (by rfl) (by kernel_rfl) (by kernel_rfl) (by kernel_rfl) (fun _ _ _ h => h) (by rfl) ?_ hHeld ?_
    · intro w1 hSw; go_simp
    (try simp only [Act.put, List.setIfInBounds_toArray, List.set_cons_zero, List.set_cons_succ])
    refine takeQ (i := 26) (k := 57) (v := .slice q m l) rfl (by rfl) (by kernel_rfl) (by kernel_rfl) (by kernel_rfl) (fun _ _ _ h => h) (by rfl) ?_ hHeld ?_
    · intro w1 hSw; go_simp
    (try simp only [Act.put, List.setIfInBounds_toArray, List.set_cons_zero, List.set_cons_succ])
    refine takeQ (i := 28) (k := 59) (v := .slice q m l) rfl (by rfl) (by kernel_rfl) (by kernel_rfl) (by kernel_rfl) (fun _ _ _ h => h) (by rfl) ?_ hHeld ?_
    · intro w1 hSw; go_simp
    (try simp only [Act.put, List.setIfInBounds_toArray, List.set_cons_zero, List.set_cons_succ])
    refine wpAnyH_ready (rs := [27]) (by kernel_rfl) (by simp) ?_
    refine AllReadyH.cons rfl (fun K hK => ?_) AllReadyH.nil
    rw [if_pos (by rfl)]
    go_simp
    go_fit (k5 _ (row_ownX (HP3.out _ HS27r.out).2.2.2) (HM3.out _ HS27r.out))
    rintro e W31r ⟨rfl, hb⟩
    have HS32r := Lib.hid (HS27r.out.trans (hb.mono HS27r.out.size))
    have RA33r := Lib.hid (RA28r.out.on hb)
    have RB34r := Lib.hid (RB29r.out.on hb)
    have RC35r := Lib.hid (RC30r.out.on hb)
    clear hb
    refine hK.out _ _ HS32r.out (fun hHeld => ?_)
    clear hK K
    (try simp only [Act.put, List.setIfInBounds_toArray, List.set_cons_zero, List.set_cons_succ])
    refine wpAnyH_ready (rs := [29]) (by kernel_rfl) (by simp) ?_
    refine AllReadyH.cons rfl (fun K hK => ?_) AllReadyH.nil
    rw [if_pos (by rfl)]
    go_simp
    go_fit (k6 _ (row_ownX (HP3.out _ HS32r.out).2.2.2))
    rintro e W36r ⟨rfl, hb⟩
    have HS37r := Lib.hid (HS32r.out.trans (hb.mono HS32r.out.size))
    have RA38r := Lib.hid (RA33r.out.on hb)
    have RB39r := Lib.hid (RB34r.out.on hb)
    have RC40r := Lib.hid (RC35r.out.on hb)
    clear hb
    refine hK.out _ _ HS37r.out (fun hHeld => ?_)
    clear hK K
    (try simp only [Act.put, List.setIfInBounds_toArray, List.set_cons_zero, List.set_cons_succ])
    refine takeQ (i := 30) (k := 61) (v := .bool false) rfl (by rfl) (by kernel_rfl) (by kernel_rfl) (by kernel_rfl) (fun _ _ _ h => h) (by rfl) ?_ hHeld ?_
    · intro w1 hSw; go_simp
    (try simp only [Act.put, List.setIfInBounds_toArray, List.set_cons_zero, List.set_cons_succ])
    refine takeQ (i := 31) (k := 62) (v := .bool false) rfl (by rfl) (by kernel_rfl) (by kernel_rfl) (by kernel_rfl) (fun _ _ _ h => h) (by rfl) ?_ hHeld ?_
    · intro w1 hSw; go_simp
    (try simp only [Act.put, List.setIfInBounds_toArray, List.set_cons_zero, List.set_cons_succ])
    refine wpAnyH_done (by kernel_rfl) ?_ _
    exact ⟨⟨rfl, HS37r.out⟩, by simp only [putAll, Act.put, List.setIfInBounds_toArray, List.set_cons_zero, List.set_cons_succ]; rfl⟩
  · rintro vs v4 ⟨e62, hS⟩
    have HB4 := Lib.hid (HB3.out.trans (hS.mono HB3.out.size))
    obtain ⟨hX4, hR4, hA4, hY4⟩ := HP3.out _ hS
    have HX4 := Lib.hid hX4
    have HR4 := Lib.hid hR4
    have HA4 := Lib.hid hA4
    simp only [putAll, Act.put, List.setIfInBounds_toArray, List.set_cons_zero, List.set_cons_succ, e62]
    clear e62 hS hX4 hR4 hA4 hY4 j1 j2 k1 k2' k3 k4 k5 k6
    obtain ⟨⟨c0, c1⟩, f0, f1⟩ := arrX_two HA4.out
    by_cases hc : R.c = 0
    · obtain ⟨g1, g2, g3, g4⟩ := HAD.out hc
      have g5 := blk_mem g1 g2 g3
      rw [g5] at i3
      rw [g4] at i4
      dsimp only at i4
      rw [HN.out] at i4
      have q1 : (R.c != 0) = false := by rw [hc]; rfl
      have fld := fun p k W => bo_field2 n p k W
      clear g1 g2 g3 g4 g5 hc HAD
      go_wp2_with (first
        | (go_at_call 21; have _ := HB6; go_fit (i5 _ _ _ _ _ (row_ownX HD6.out) (row_ownX HX6.out)); rintro e v7 ⟨rfl, hb⟩; have HB7 := Lib.hid (HB6.out.trans (hb.mono HB6.out.size)); clear hb)
        | (go_at_call 15; have _ := HB5; go_fit (i4 p2 k2 _ (row_ownX HR5.out) (HM.out _ HB5.out)); rintro e v6 ⟨⟨p6, k6, rfl, hv⟩, hb⟩; have HB6 := Lib.hid (HB5.out.trans (hb.mono HB5.out.size)); have HX6 := Lib.hid (HX5.out.on hb); have HD6 := Lib.hid hv; clear hb hv)
        | (go_at_call 17; go_fit (i3 p2 k2 _ (row_ownX HR4.out) (HM.out _ HB4.out)); rintro e v5 ⟨rfl, hb⟩; have HB5 := Lib.hid (HB4.out.trans (hb.mono HB4.out.size)); have HX5 := Lib.hid (HX4.out.on hb); have HR5 := Lib.hid (HR4.out.on hb); have HA5 := Lib.hid (arrX_on HA4.out hb); clear hb; obtain ⟨⟨c0, c1⟩, f0, f1⟩ := arrX_two HA5.out))
      go_ret
      exact ⟨rfl, HB7.out⟩
    · have q1 : (R.c != 0) = true := by simpa using hc
      go_wp2_with fail
      go_ret
      exact ⟨rfl, HB4.out⟩
end Go.Proofs.Ytpjmcpfmnlfmdaa
