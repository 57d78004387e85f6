/- FnJid's walk. -/
import Derived.Test.YtddefjnnehjjkaaJidDraws5
import Derived.Test.YtddefjnnehjjkaaJidReadMore
import Derived.Test.YtddefjnnehjjkaaJidHeld
import Derived.Test.YtddefjnnehjjkaaLwAt
import Derived.Deep.RegionHeld3
namespace Go.Proofs.Ytddefjnnehjjkaa
set_option linter.unusedSimpArgs false
set_option linter.unusedVariables false
open Go.RowKit

theorem takeH {P : Program} {ops : Array Oper} {Q : Exit → Act → World → Prop} {md : Region.Mode} {S : World → Prop} {i k : Nat} {oi : Oper} {v : Value} {fuel : Nat} {listed : Array Bool} {a : Act} {w : World} (hi : ops[i]? = some oi) (hd : oi.dst = some k)
    (hs : Region.noSelect ops = true) (hf : Region.free md ops listed i = true) (hr : (Region.ready md ops listed).contains i = true) (hQ : ∀ c a w, Q (.panic c) (a.put (some k) v) w → Q (.panic c) a w)
    (hw : Region.wanted oi (yielded ops a.tmps) = true) (hv : ∀ w, S w → (execOp a.eval oi).run P w = .ok (.value v) w) (hS : S w) (h : wpAnyH P md ops Q S fuel (listed.setIfInBounds i true) (a.put (some k) v) w) : wpAnyH P md ops Q S (fuel + 1) listed a w := by
  rw [← hd] at hQ h
  exact wpAnyH_take hi hs hf hr hQ (Or.inl ⟨hw, hv⟩) hS h
theorem skipH {P : Program} {ops : Array Oper} {Q : Exit → Act → World → Prop} {md : Region.Mode} {S : World → Prop} {i k : Nat} {oi : Oper} {fuel : Nat} {listed : Array Bool} {a : Act} {w : World} (hi : ops[i]? = some oi) (hd : oi.dst = some k)
    (hs : Region.noSelect ops = true) (hf : Region.free md ops listed i = true) (hr : (Region.ready md ops listed).contains i = true) (hQ : ∀ c a w, Q (.panic c) (a.put (some k) undef) w → Q (.panic c) a w)
    (hw : Region.wanted oi (yielded ops a.tmps) = false) (hS : S w) (h : wpAnyH P md ops Q S fuel (listed.setIfInBounds i true) (a.put (some k) undef) w) : wpAnyH P md ops Q S (fuel + 1) listed a w := by
  rw [← hd] at hQ h
  exact wpAnyH_take hi hs hf hr hQ (Or.inr ⟨hw, rfl⟩) hS h
theorem held_four {w W : World} {a b c d : Value} {t : Nat} (h : Below (w.alloc (.cells #[a, b, c, d] t)).heap.size (w.alloc (.cells #[a, b, c, d] t)) W) :
    (W.cell? ⟨w.heap.size, 0, none⟩ = some a ∧ W.cell? ⟨w.heap.size, 1, none⟩ = some b ∧ W.cell? ⟨w.heap.size, 2, none⟩ = some c ∧ W.cell? ⟨w.heap.size, 3, none⟩ = some d) ∧ Below (w.alloc (.cells #[a, b, c, d] t)).heap.size (w.alloc (.cells #[a, b, c, d] t)) W :=
  ⟨(four_kept h).1, h⟩
theorem bat_on {w w2 : World} {g cap : Nat} {l : List UInt8} (h : BAt w g cap l) (hb : Below w.heap.size w w2) : BAt w2 g cap l := by
  obtain ⟨h1, h2, h3, h4⟩ := h
  exact ⟨h1, Nat.lt_of_lt_of_le h2 hb.size, fun j hj => (hb.cell (p := ⟨g, j, none⟩) h2).trans (h3 j hj), fun j hj => by rw [hb.cell (p := ⟨g, j, none⟩) h2, hb.frozen (p := ⟨g, j, none⟩) h2]; exact h4 j hj⟩
theorem up_low {c : UInt8} (h1 : 97 ≤ (c.toNat : Int)) (h2 : (c.toNat : Int) ≤ 122) : lowC (UInt8.ofNat (c.toNat - 32)) = c ∧ UInt8.ofNat (c.toNat - 32) ≠ 47 ∧ Value.int .u8 ((c.toNat : Int) - 32) = byteV (UInt8.ofNat (c.toNat - 32)) := by
  have hk : ∀ x : Fin 256, 97 ≤ x.val → x.val ≤ 122 → lowC (UInt8.ofNat (x.val - 32)) = UInt8.ofNat x.val ∧ UInt8.ofNat (x.val - 32) ≠ 47 := by decide +kernel
  have := hk ⟨c.toNat, c.toNat_lt⟩ (by simp; omega) (by simp; omega)
  simp only [UInt8.ofNat_toNat] at this
  exact ⟨this.1, this.2, byteV_ofNat (by omega) (by omega)⟩
/-- The buffer behind k bytes. -/
theorem buf_at {P T : List UInt8} {k : Nat} (hP : P.length = k) (hk : k < T.length) : (P ++ T.drop k)[k]'(by simp; omega) = T[k] := by
  subst hP
  rw [List.getElem_append_right (Nat.le_refl _)]
  simp
theorem buf_set {P T : List UInt8} {k : Nat} (hP : P.length = k) (hk : k < T.length) (b : UInt8) : (P ++ T.drop k).set k b = (P ++ [b]) ++ T.drop (k + 1) := by
  subst hP
  rw [List.set_append_right _ _ (Nat.le_refl _), Nat.sub_self, List.drop_eq_getElem_cons hk, List.set_cons_zero, List.append_assoc]
  rfl
theorem buf_next {P T : List UInt8} {k : Nat} (hk : k < T.length) : P ++ T.drop k = (P ++ [T[k]]) ++ T.drop (k + 1) := by
  rw [List.drop_eq_getElem_cons hk, List.append_assoc]
  rfl
theorem take_next {P H : List UInt8} {k : Nat} {b : UInt8} (hk : k < H.length) (hP : P.map lowC = H.take k) (hb : lowC b = H[k]) : (P ++ [b]).map lowC = H.take (k + 1) := by
  rw [List.map_append, hP, List.take_succ_eq_append_getElem hk]
  simp [hb]
theorem no_next {P : List UInt8} {b : UInt8} (h : ∀ x ∈ P, x ≠ 47) (hb : b ≠ 47) : ∀ x ∈ P ++ [b], x ≠ 47 := by
  intro x hx
  rcases List.mem_append.1 hx with h1 | h1
  · exact h x h1
  · rw [List.mem_singleton.1 h1]; exact hb
abbrev JidS (X : World) (n : Nat) (l d r : ByteArray) (gb cap len : Nat) (U : ByteArray) (L : List UInt8) (W : World) : Prop :=
  (W.cell? ⟨n, 0, none⟩ = some (.string l) ∧ W.cell? ⟨n, 1, none⟩ = some (.string d) ∧ W.cell? ⟨n, 2, none⟩ = some (.string r) ∧ (convert 22 9 (.slice (some ⟨gb, 0, none⟩) len cap)).run Try.prog W = .ok (.string U) W) ∧ (Below X.heap.size X W ∧ BAt W gb cap L)
theorem jidS {w W : World} {l d r : ByteArray} {gb cap len : Nat} {U : ByteArray} {L : List UInt8} (hl : L.length = len) (hU : U = strOf L) (hb : Below (w.alloc (.cells #[.string l, .string d, .string r] 24)).heap.size (w.alloc (.cells #[.string l, .string d, .string r] 24)) W) (hA : BAt W gb cap L) :
    JidS (w.alloc (.cells #[.string l, .string d, .string r] 24)) w.heap.size l d r gb cap len U L W := by
  obtain ⟨c0, c1, c2⟩ := (three_kept hb).1
  have h := hA.str
  rw [hl, ← hU] at h
  exact ⟨⟨c0, c1, c2, h⟩, hb, hA⟩
theorem jidS_on {w W w2 : World} {l d r : ByteArray} {gb cap len : Nat} {U : ByteArray} {L : List UInt8} {S : Prop} (hl : L.length = len) (hU : U = strOf L) (h : S ∧ (Below (w.alloc (.cells #[.string l, .string d, .string r] 24)).heap.size (w.alloc (.cells #[.string l, .string d, .string r] 24)) W ∧ BAt W gb cap L)) (h2 : Below W.heap.size W w2) :
    JidS (w.alloc (.cells #[.string l, .string d, .string r] 24)) w.heap.size l d r gb cap len U L w2 :=
  jidS hl hU (h.2.1.trans (h2.mono h.2.1.size)) (bat_on h.2.2 h2)
theorem held_one {w W : World} {a b c : Value} {t : Nat} (h : Below (w.alloc (.cells #[a, b, c] t)).heap.size (w.alloc (.cells #[a, b, c] t)) W) :
    (W.cell? ⟨w.heap.size, 0, none⟩ = some a ∧ W.cell? ⟨w.heap.size, 1, none⟩ = some b ∧ W.cell? ⟨w.heap.size, 2, none⟩ = some c) ∧ Below (w.alloc (.cells #[a, b, c] t)).heap.size (w.alloc (.cells #[a, b, c] t)) W :=
  ⟨(three_kept h).1, h⟩
set_option maxRecDepth 100000 in
set_option maxHeartbeats 8000000 in
theorem jid_law (a0 : Option Addr) (len0 cap0 : Nat) (a1 : Option Addr) (len1 cap1 : Nat) (w : World) (h0 : len0 ≤ 1048576) (h1 : len1 ≤ 1048576) (r0 : SrcRow w w.heap.size a0 len0) (r1 : SrcRow w w.heap.size a1 len1) (hm : MaxL w) :
    Calls Try.prog 3 #[.slice a0 len0 cap0, .slice a1 len1 cap1] w fun e w' => e = .returned (.bool true) ∧ Below w.heap.size w w' := by
  have R0 := Lib.hid r0
  have R1 := Lib.hid r1
  clear r0 r1
  go_enter Try.func3, Try.ntmps3
  go_wp2_with fail
  refine (draw_jidtext a0 len0 cap0 _ h0 R0.out).mono ?_
  rintro e w1 ⟨⟨_, rfl, l, d, r, rfl, hl, hd, hr⟩, hbw⟩
  have xl : l.size ≤ maxLen := by unfold maxLen; omega
  have xd : d.size ≤ maxLen := by unfold maxLen; omega
  have xr : r.size ≤ maxLen := by unfold maxLen; omega
  have hmw := hm.below hbw hm.pos
  have HM := Lib.hid (fun W (h : Below (w1.alloc (.cells #[.string l, .string d, .string r] 24)).heap.size (w1.alloc (.cells #[.string l, .string d, .string r] 24)) W) => hmw.below (below_one h) hmw.pos)
  have hb : Below (w1.alloc (.cells #[.string l, .string d, .string r] 24)).heap.size (w1.alloc (.cells #[.string l, .string d, .string r] 24)) (w1.alloc (.cells #[.string l, .string d, .string r] 24)) := Below.refl _ _
  have f1 := fun w => impl_text l d r w xl xd xr
  have f2 := fun w => spec_text l d r w xl xd xr
  have f3 := fun w => impl_right l d r w xl xd xr
  have f4 := fun w => spec_right l d r w xl xd xr
  have f5 := fun w => impl_bare l d r w xl xd xr
  have f6 := fun w => spec_bare l d r w xl xd xr
  obtain ⟨x, y, hx1, hx2⟩ := bare_twice l d r
  have hxs : x.size ≤ maxLen ∧ y.size ≤ maxLen := by
    unfold bareV at hx1
    split at hx1
    · simp at hx1
      obtain ⟨rfl, rfl⟩ := hx1
      exact ⟨xl, xd⟩
    · simp at hx1
      obtain ⟨rfl, rfl⟩ := hx1
      exact ⟨by unfold maxLen; decide, by unfold maxLen; decide⟩
  have f7 := fun w => impl_bare x y ⟨#[]⟩ w hxs.1 hxs.2 (by unfold maxLen; decide)
  rw [hx1] at f5 f6
  rw [hx2] at f7
  obtain ⟨b, pb⟩ : ∃ v, jidB l d r = v := ⟨_, rfl⟩
  rw [pb] at f3 f4
  obtain ⟨t, pt⟩ : ∃ t, t = jidTextS l d r := ⟨_, rfl⟩
  rw [← pt] at f1 f2
  have PB := Lib.hid pb
  have PT := Lib.hid pt
  clear pb pt hx1 hx2 hxs xl xd xr
  go_wp2_with (first
    | (go_at_call 12; go_fit (f1 _ (HM.out _ hb)); rintro e w2 ⟨rfl, hb2⟩; replace hb := hb.trans (hb2.mono hb.size); clear hb2))
  go_region_held3 (fun W => (W.cell? ⟨w1.heap.size, 0, none⟩ = some (.string l) ∧ W.cell? ⟨w1.heap.size, 1, none⟩ = some (.string d) ∧ W.cell? ⟨w1.heap.size, 2, none⟩ = some (.string r)) ∧ Below (w1.alloc (.cells #[.string l, .string d, .string r] 24)).heap.size (w1.alloc (.cells #[.string l, .string d, .string r] 24)) W)
    (with_reducible first | assumption | exact held_one hbN | exact held_one hb.drew)
    (first
      | (go_at_call 13; go_fit (f2 _); rintro e wm ⟨rfl, hb2⟩; have hbN := held_on (by assumption) hb2)
      | (go_at_call 14; go_fit (f3 _ (HM.out _ (And.right (by assumption)))); rintro e wm ⟨rfl, hb2⟩; have hbN := held_on (by assumption) hb2)
      | (go_at_call 15; go_fit (f4 _); rintro e wm ⟨rfl, hb2⟩; have hbN := held_on (by assumption) hb2)
      | (go_at_call 16; go_fit (f5 _ (HM.out _ (And.right (by assumption)))); rintro e wm ⟨rfl, hb2⟩; have hbN := held_on (by assumption) hb2)
      | (go_at_call 17; go_fit (f6 _); rintro e wm ⟨rfl, hb2⟩; have hbN := held_on (by assumption) hb2)
      | (go_at_call 16; go_fit (f7 _ (HM.out _ (And.right (by assumption)))); rintro e wm ⟨rfl, hb2⟩; have hbN := held_on (by assumption) hb2))
  cases b
  · have ht0 : t = ByteArray.empty := PT.out.trans (jidTextS_no PB.out)
    have hn := empty_of (s := t) (by rw [ht0]; rfl)
    obtain ⟨n1, n2⟩ := hn
    clear ht0 f1 f2 f3 f4 f5 f6 f7 HM hb
    have hbT : Below w.heap.size w _ := hbw.trans ((below_one hbN).mono hbw.size)
    clear hbN
    go_wp2_with fail
    refine (draw_jidread a1 len1 cap1 _ h1 (R1.out.lift hbT hbT.size)).mono ?_
    rintro e w5 ⟨⟨_, rfl, u, rfl, hu⟩, hbd⟩
    have hb5 := hbT.trans (hbd.mono hbT.size)
    have hm5 := hm.below hb5 hm.pos
    have yu : u.size ≤ maxLen := by unfold maxLen; omega
    have g1 := impl_read u w5 yu hm5
    have g2 := fun w => spec_read u w yu
    obtain ⟨xl, xd, xr, c, hv⟩ := readV_form u
    have hright : c = 0 → jidB xl xd xr = true := fun h => readV_right u (by rw [hv, h])
    rw [hv] at g1 g2
    unfold jo at g1 g2
    clear hv hbT hbd yu hu
    go_wp2_with (first | (go_at_call 19; go_fit g1; rintro e w6 ⟨rfl, hb6⟩))
    replace hb6 := hb5.trans (hb6.mono hb5.size)
    clear g1 hb5
    by_cases hc : c = 0
    · subst hc
      have hj := hright rfl
      obtain ⟨s1, s2, s3⟩ := right_le hj
      have g3 := fun w => impl_right xl xd xr w (by unfold maxLen; omega) (by unfold maxLen; omega) (by unfold maxLen; omega)
      rw [hj] at g3
      have hm6 := hm.below hb6 hm.pos
      have HM3 := Lib.hid (fun W (h : Below (w6.alloc (.cells #[.string xl, .string xd, .string xr, .int .i64 0] 31)).heap.size (w6.alloc (.cells #[.string xl, .string xd, .string xr, .int .i64 0] 31)) W) => hm6.below (below_one h) hm6.pos)
      clear hj hright hm5 hm6 s1 s2 s3
      go_region_held3 (fun W => (W.cell? ⟨w6.heap.size, 0, none⟩ = some (.string xl) ∧ W.cell? ⟨w6.heap.size, 1, none⟩ = some (.string xd) ∧ W.cell? ⟨w6.heap.size, 2, none⟩ = some (.string xr) ∧ W.cell? ⟨w6.heap.size, 3, none⟩ = some (.int .i64 0)) ∧ Below (w6.alloc (.cells #[.string xl, .string xd, .string xr, .int .i64 0] 31)).heap.size (w6.alloc (.cells #[.string xl, .string xd, .string xr, .int .i64 0] 31)) W)
        (with_reducible first | assumption | exact held_four hbM | exact held_four (Below.refl _ _).drew)
        (first
          | (go_at_call 21; go_fit (g2 _); rintro e wm ⟨rfl, hb2⟩; have hbM := held_on (by assumption) hb2)
          | (go_at_call 14; go_fit (g3 _ (HM3.out _ (And.right (by assumption)))); rintro e wm ⟨rfl, hb2⟩; have hbM := held_on (by assumption) hb2))
      all_goals
        go_wp2
        go_ret
        exact ⟨rfl, hb6.trans ((below_one hbM).mono hb6.size)⟩
    · have hcb : (c == 0) = false := beq_eq_false_iff_ne.2 hc
      clear hright hm5
      refine wp_region_held_drew (S := (fun W => (W.cell? ⟨w6.heap.size, 0, none⟩ = some (.string xl) ∧ W.cell? ⟨w6.heap.size, 1, none⟩ = some (.string xd) ∧ W.cell? ⟨w6.heap.size, 2, none⟩ = some (.string xr) ∧ W.cell? ⟨w6.heap.size, 3, none⟩ = some (.int .i64 c)) ∧ Below (w6.alloc (.cells #[.string xl, .string xd, .string xr, .int .i64 c] 31)).heap.size (w6.alloc (.cells #[.string xl, .string xd, .string xr, .int .i64 c] 31)) W)) (by kernel_rfl) (held_four (Below.refl _ _).drew) (fun hHeld => ?_)
      refine takeH (i := 0) (k := 109) (v := .agg #[.string xl, .string xd, .string xr, .int .i64 c]) rfl (by rfl) (by kernel_rfl) (by kernel_rfl) (by kernel_rfl) (fun _ _ _ h => h) (by rfl) ?_ hHeld ?_
      · intro w hSw
        (try dsimp only at hSw)
        go_simp
      (try simp only [Act.put, List.setIfInBounds_toArray, List.set_cons_zero, List.set_cons_succ])
      refine takeH (i := 1) (k := 110) (v := .string u) rfl (by rfl) (by kernel_rfl) (by kernel_rfl) (by kernel_rfl) (fun _ _ _ h => h) (by rfl) ?_ hHeld ?_
      · intro w hSw
        (try dsimp only at hSw)
        go_simp
      (try simp only [Act.put, List.setIfInBounds_toArray, List.set_cons_zero, List.set_cons_succ])
      refine wpAnyH_ready (rs := [2]) (by kernel_rfl) (by simp) ?_
      refine AllReadyH.cons rfl (fun K hK => ?_) AllReadyH.nil
      rw [if_pos (by rfl)]
      go_simp
      go_fit (g2 _)
      rintro e wm ⟨rfl, hb2⟩
      have hbM := held_on hHeld hb2
      clear hb2
      refine hK.out _ _ (held_four hbM) (fun hHeld => ?_)
      clear hK K
      (try simp only [Act.put, List.setIfInBounds_toArray, List.set_cons_zero, List.set_cons_succ])
      refine takeH (i := 3) (k := 112) (v := .bool true) rfl (by rfl) (by kernel_rfl) (by kernel_rfl) (by kernel_rfl) (fun _ _ _ h => h) (by rfl) ?_ hHeld ?_
      · intro w hSw
        (try dsimp only at hSw)
        go_simp
      (try simp only [Act.put, List.setIfInBounds_toArray, List.set_cons_zero, List.set_cons_succ])
      refine takeH (i := 4) (k := 113) (v := .bool true) rfl (by rfl) (by kernel_rfl) (by kernel_rfl) (by kernel_rfl) (fun _ _ _ h => h) (by rfl) ?_ hHeld ?_
      · intro w hSw
        (try dsimp only at hSw)
        go_simp
      (try simp only [Act.put, List.setIfInBounds_toArray, List.set_cons_zero, List.set_cons_succ])
      refine takeH (i := 5) (k := 114) (v := .pointer (some ⟨w6.heap.size, 3, none⟩)) rfl (by rfl) (by kernel_rfl) (by kernel_rfl) (by kernel_rfl) (fun _ _ _ h => h) (by rfl) ?_ hHeld ?_
      · intro w hSw
        (try dsimp only at hSw)
        go_simp
      (try simp only [Act.put, List.setIfInBounds_toArray, List.set_cons_zero, List.set_cons_succ])
      refine takeH (i := 6) (k := 115) (v := .int .i64 c) rfl (by rfl) (by kernel_rfl) (by kernel_rfl) (by kernel_rfl) (fun _ _ _ h => h) (by rfl) ?_ hHeld ?_
      · intro w hSw
        (try dsimp only at hSw)
        go_simp
      (try simp only [Act.put, List.setIfInBounds_toArray, List.set_cons_zero, List.set_cons_succ])
      refine takeH (i := 7) (k := 116) (v := .bool true) rfl (by rfl) (by kernel_rfl) (by kernel_rfl) (by kernel_rfl) (fun _ _ _ h => h) (by rfl) ?_ hHeld ?_
      · intro w hSw
        (try dsimp only at hSw)
        go_simp
      (try simp only [Act.put, List.setIfInBounds_toArray, List.set_cons_zero, List.set_cons_succ])
      refine takeH (i := 8) (k := 117) (v := .bool true) rfl (by rfl) (by kernel_rfl) (by kernel_rfl) (by kernel_rfl) (fun _ _ _ h => h) (by rfl) ?_ hHeld ?_
      · intro w hSw
        (try dsimp only at hSw)
        go_simp
      (try simp only [Act.put, List.setIfInBounds_toArray, List.set_cons_zero, List.set_cons_succ])
      refine skipH (i := 9) (k := 118) rfl (by rfl) (by kernel_rfl) (by kernel_rfl) (by kernel_rfl) (fun _ _ _ h => h) (by rfl) hHeld ?_
      (try simp only [Act.put, List.setIfInBounds_toArray, List.set_cons_zero, List.set_cons_succ])
      refine skipH (i := 10) (k := 119) rfl (by rfl) (by kernel_rfl) (by kernel_rfl) (by kernel_rfl) (fun _ _ _ h => h) (by rfl) hHeld ?_
      (try simp only [Act.put, List.setIfInBounds_toArray, List.set_cons_zero, List.set_cons_succ])
      refine skipH (i := 11) (k := 120) rfl (by rfl) (by kernel_rfl) (by kernel_rfl) (by kernel_rfl) (fun _ _ _ h => h) (by rfl) hHeld ?_
      (try simp only [Act.put, List.setIfInBounds_toArray, List.set_cons_zero, List.set_cons_succ])
      refine takeH (i := 12) (k := 121) (v := .bool true) rfl (by rfl) (by kernel_rfl) (by kernel_rfl) (by kernel_rfl) (fun _ _ _ h => h) (by rfl) ?_ hHeld ?_
      · intro w hSw
        (try dsimp only at hSw)
        go_simp
      (try simp only [Act.put, List.setIfInBounds_toArray, List.set_cons_zero, List.set_cons_succ])
      refine takeH (i := 13) (k := 122) (v := .bool true) rfl (by rfl) (by kernel_rfl) (by kernel_rfl) (by kernel_rfl) (fun _ _ _ h => h) (by rfl) ?_ hHeld ?_
      · intro w hSw
        (try dsimp only at hSw)
        go_simp
      (try simp only [Act.put, List.setIfInBounds_toArray, List.set_cons_zero, List.set_cons_succ])
      refine takeH (i := 14) (k := 4) (v := .bool true) rfl (by rfl) (by kernel_rfl) (by kernel_rfl) (by kernel_rfl) (fun _ _ _ h => h) (by rfl) ?_ hHeld ?_
      · intro w hSw
        (try dsimp only at hSw)
        go_simp
      (try simp only [Act.put, List.setIfInBounds_toArray, List.set_cons_zero, List.set_cons_succ])
      refine wpAnyH_done (by kernel_rfl) ?_ _
      go_wp2
      go_ret
      exact ⟨rfl, hb6.trans ((below_one hbM).mono hb6.size)⟩
  · have ht : t = jidT l d r := PT.out.trans (jidTextS_yes PB.out)
    have hts := text_some PB.out
    rw [← ht] at hts
    have n1 := ne_nil hts.1
    have n2 := not_empty hts.1
    have q1 := readV_text PB.out
    rw [← ht] at q1
    have hT := textJ_form l d r
    rw [← ht] at hT
    obtain ⟨hH1, hH2⟩ := head_low PB.out
    have Q2 := Lib.hid (fun P hP hn => readV_upper PB.out P hP hn)
    have hlen : t.data.toList.length = t.size := size_data t
    obtain ⟨H, hH⟩ : ∃ H, H = headJ l d := ⟨_, rfl⟩
    obtain ⟨E, hE⟩ : ∃ E, E = (if r.size = 0 then [] else 47 :: r.data.toList) := ⟨_, rfl⟩
    obtain ⟨T, hT0⟩ : ∃ T, T = t.data.toList := ⟨_, rfl⟩
    rw [← hH] at hH1 hH2 Q2 hT
    rw [← hE] at Q2 hT
    rw [← hT0] at hT hlen
    have hEf : E = [] ∨ ∃ E', E = 47 :: E' := by
      rw [hE]
      split
      · exact .inl rfl
      · exact .inr ⟨_, rfl⟩
    have HT0 := Lib.hid hT0
    have HT := Lib.hid hT
    have HH1 := Lib.hid hH1
    have HH2 := Lib.hid hH2
    have HEf := Lib.hid hEf
    have hTl : T.length ≤ 100 := by omega
    have hHT : H.length ≤ T.length := by rw [hT]; simp
    have hread := fun W hm => impl_read t W (by unfold maxLen; omega) hm
    rw [q1] at hread
    unfold jo at hread
    have hg0 : t.size = T.length := hlen.symm
    have HG0 := Lib.hid hg0
    clear hT0 hT hH1 hH2 hEf hlen q1 ht hH hE hts f1 f2 f3 f4 f5 f6 f7 hb hg0
    go_wp2_with (first | (refine wpList_bytes _ rfl _ rfl t rfl ?_; intro v0 w3 ho3 hb3; rw [← HT0.out] at ho3; obtain ⟨gb, cap, rfl, hgB, hgz, hcap, hc3, ht3⟩ := ho3; have HA3 : Hid (BAt w3 gb cap T) := Lib.hid ⟨hcap, hgz, hc3, ht3⟩; have HB3 := Lib.hid (hbN.trans (hb3.mono hbN.size)); have HGB := Lib.hid (Nat.le_trans hbN.size hgB); clear hb3 hc3 ht3 hgB hgz hbN))
    go_loopw [8] (fun i wr => ∃ (k : Nat) (P : List UInt8), i = .int .i64 (k : Int) ∧ P.length = k ∧ k ≤ H.length ∧ P.map lowC = H.take k ∧ (∀ x ∈ P, x ≠ 47) ∧ BAt wr gb cap (P ++ T.drop k) ∧ Below (w1.alloc (.cells #[.string l, .string d, .string r] 24)).heap.size (w1.alloc (.cells #[.string l, .string d, .string r] 24)) wr) (fun i _ => T.length - (intOf i).toNat)
    case atStart => exact ⟨0, [], rfl, rfl, Nat.zero_le _, rfl, by simp, by simpa using HA3.out, HB3.out⟩
    case round =>
      clear HA3 HB3
      obtain ⟨k, P, rfl, hPl, hkH, hPm, hPn, hA, hbel⟩ := hrel
      have HPl := Lib.hid hPl
      have HPm := Lib.hid hPm
      have HPn := Lib.hid hPn
      have HA := Lib.hid hA
      have HBel := Lib.hid hbel
      by_cases hkl : k < H.length
      · have hkT : k < T.length := by omega
        have hTk : T[k] = H[k] := by
          have h : T[k]? = H[k]? := by rw [HT.out, List.getElem?_append_left hkl]
          rw [List.getElem?_eq_getElem hkT, List.getElem?_eq_getElem hkl] at h
          exact Option.some.inj h
        have hcell : wr.cell? ⟨gb, k, none⟩ = some (.int .u8 (H[k].toNat : Int)) := by
          have h := hA.2.2.1 k (by simp; omega)
          rw [buf_at hPl hkT, hTk] at h
          exact h
        have hfz : wr.frozen? ⟨gb, k, none⟩ = false := (hA.2.2.2 k (by omega)).2
        have h47 : H[k] ≠ 47 := HH2.out _ (List.getElem_mem hkl)
        have h47' : ¬ ((H[k].toNat : Int) = 47) := fun e => h47 (UInt8.toNat_inj.1 (by show H[k].toNat = 47; omega))
        have hlow : lowC H[k] = H[k] := by
          have h : (H.map lowC)[k]? = H[k]? := by rw [HH1.out]
          rw [List.getElem?_map, List.getElem?_eq_getElem hkl] at h
          simpa using h
        have H47 := Lib.hid h47
        have HLow := Lib.hid hlow
        have HTk := Lib.hid hTk
        have HRow := Lib.hid (R1.out.lift (hbw.trans ((below_one hbel).mono hbw.size)) (hbw.trans ((below_one hbel).mono hbw.size)).size)
        clear hPl hPm hPn hA hbel h47 hlow hTk
        have hb0 : 0 ≤ (H[k].toNat : Int) := by omega
        have hb1 : (H[k].toNat : Int) ≤ 255 := by have := byte_le H[k]; omega
        have stay : ∃ (k_1 : Nat) (P : List UInt8), Value.int .i64 ((k : Int) + 1) = .int .i64 (k_1 : Int) ∧ P.length = k_1 ∧ k_1 ≤ H.length ∧ P.map lowC = H.take k_1 ∧ (∀ x ∈ P, x ≠ 47) ∧ BAt wr gb cap (P ++ T.drop k_1) ∧ Below (w1.alloc (.cells #[.string l, .string d, .string r] 24)).heap.size (w1.alloc (.cells #[.string l, .string d, .string r] 24)) wr :=
          ⟨k + 1, P ++ [H[k]], by go_num, by rw [List.length_append, HPl.out]; rfl, by omega, take_next hkl HPm.out HLow.out, no_next HPn.out H47.out, by have h := HA.out; rw [buf_next hkT, HTk.out] at h; exact h, HBel.out⟩
        have HStay := Lib.hid stay
        clear stay
        by_cases g1 : 97 ≤ (H[k].toNat : Int)
        · by_cases g2 : (H[k].toNat : Int) ≤ 122
          · go_wp2_with (first | (go_at_call 18; go_fit (lw_at a1 len1 cap1 k 2 _ h1 HRow.out (by omega) (by omega) (by omega)); rintro e w4 ⟨⟨_, rfl, rr, rfl, z0, z1⟩, rfl⟩))
            · go_roundw
              case rel =>
                obtain ⟨u1, u2, u3⟩ := up_low g1 g2
                exact ⟨k + 1, P ++ [UInt8.ofNat (H[k].toNat - 32)], by go_num, by rw [List.length_append, HPl.out]; rfl, by omega, take_next hkl HPm.out u1, no_next HPn.out u2, by rw [u3, ← buf_set HPl.out hkT]; exact HA.out.put (by simp; have := HPl.out; omega) _, HBel.out.setCell HGB.out _⟩
              case measure => simp [intOf]; omega
            · go_roundw
              case rel => exact HStay.out
              case measure => simp [intOf]; omega
          · go_wp2
            go_roundw
            case rel => exact HStay.out
            case measure => simp [intOf]; omega
        · go_wp2
          go_roundw
          case rel => exact HStay.out
          case measure => simp [intOf]; omega
      · obtain rfl : k = H.length := by omega
        rw [List.take_length] at hPm
        obtain ⟨L, hL⟩ : ∃ L, L = P ++ T.drop H.length := ⟨_, rfl⟩
        obtain ⟨U, hU⟩ : ∃ U, U = strOf L := ⟨_, rfl⟩
        have hdrop : T.drop H.length = E := by rw [HT.out]; simp
        have hLl : L.length = T.length := by rw [hL, List.length_append, List.length_drop, hPl]; omega
        have hq2 : jidReadV U = jo l d r 0 := by rw [hU, hL, hdrop]; exact Q2.out P hPm hPn
        have hUs : U.size ≤ 1000 := by rw [hU, strOf_size]; omega
        have hread2 := fun W hm => impl_read U W (by unfold maxLen; omega) hm
        rw [hq2] at hread2
        unfold jo at hread2
        rw [← hL] at hA
        have HS14 : Hid (JidS (w1.alloc (.cells #[.string l, .string d, .string r] 24)) w1.heap.size l d r gb cap T.length U L wr.drew) := Lib.hid (jidS hLl hU hbel.drew hA)
        have HLl := Lib.hid hLl
        have HU := Lib.hid hU
        have hstop : H.length = T.length ∨ ∃ h : H.length < T.length, wr.cell? ⟨gb, H.length, none⟩ = some (.int .u8 47) := by
          rcases HEf.out with e | ⟨E', e⟩
          · left
            have h := congrArg List.length HT.out
            rw [e] at h
            simpa using h.symm
          · right
            have h := congrArg List.length HT.out
            rw [e] at h
            simp at h
            have hlt : H.length < T.length := by omega
            refine ⟨hlt, ?_⟩
            have hc := hA.2.2.1 H.length (by omega)
            have hx : L[H.length]'(by omega) = 47 := by
              have h2 : L[H.length]? = some 47 := by
                rw [hL, hdrop, e, List.getElem?_append_right (by omega), hPl, Nat.sub_self]
                rfl
              rw [List.getElem?_eq_getElem (by omega)] at h2
              exact Option.some.inj h2
            rw [hx] at hc
            exact hc
        clear HPl HPm HPn HA HBel hPl hPm hPn hA hbel hL hU hq2 hdrop hLl HEf Q2
        rcases hstop with hstop | ⟨hstop, hc47⟩
        · have hnl : ¬ (H.length < T.length) := by omega
          go_wp2
          go_region_held3 (fun W => (W.cell? ⟨w1.heap.size, 0, none⟩ = some (.string l) ∧ W.cell? ⟨w1.heap.size, 1, none⟩ = some (.string d) ∧ W.cell? ⟨w1.heap.size, 2, none⟩ = some (.string r) ∧ (convert 22 9 (.slice (some ⟨gb, 0, none⟩) T.length cap)).run Try.prog W = .ok (.string U) W) ∧ (Below (w1.alloc (.cells #[.string l, .string d, .string r] 24)).heap.size (w1.alloc (.cells #[.string l, .string d, .string r] 24)) W ∧ BAt W gb cap L))
            (with_reducible first | assumption | exact HS14.out | exact hq)
            (first
              | (go_at_call 19; go_fit (hread _ (HM.out _ (And.left (And.right (by assumption))))); rintro e wm ⟨rfl, hb2⟩; have hq := jidS_on HLl.out HU.out (by assumption) hb2)
              | (go_at_call 19; go_fit (hread2 _ (HM.out _ (And.left (And.right (by assumption))))); rintro e wm ⟨rfl, hb2⟩; have hq := jidS_on HLl.out HU.out (by assumption) hb2))
          all_goals
            have hbN := hq.2.1
            clear hq HS14 hread hread2 HM
            have hbT : Below w.heap.size w _ := hbw.trans ((below_one hbN).mono hbw.size)
            clear hbN
            go_wp2_with fail
            refine (draw_jidread a1 len1 cap1 _ h1 (R1.out.lift hbT hbT.size)).mono ?_
            rintro e w5 ⟨⟨_, rfl, u, rfl, hu⟩, hbd⟩
            have hb5 := hbT.trans (hbd.mono hbT.size)
            have hm5 := hm.below hb5 hm.pos
            have yu : u.size ≤ maxLen := by unfold maxLen; omega
            have g1 := impl_read u w5 yu hm5
            have g2 := fun w => spec_read u w yu
            obtain ⟨xl, xd, xr, c, hv⟩ := readV_form u
            have hright : c = 0 → jidB xl xd xr = true := fun h => readV_right u (by rw [hv, h])
            rw [hv] at g1 g2
            unfold jo at g1 g2
            clear hv hbT hbd yu hu
            go_wp2_with (first | (go_at_call 19; go_fit g1; rintro e w6 ⟨rfl, hb6⟩))
            replace hb6 := hb5.trans (hb6.mono hb5.size)
            clear g1 hb5
            by_cases hc : c = 0
            · subst hc
              have hj := hright rfl
              obtain ⟨s1, s2, s3⟩ := right_le hj
              have g3 := fun w => impl_right xl xd xr w (by unfold maxLen; omega) (by unfold maxLen; omega) (by unfold maxLen; omega)
              rw [hj] at g3
              have hm6 := hm.below hb6 hm.pos
              have HM3 := Lib.hid (fun W (h : Below (w6.alloc (.cells #[.string xl, .string xd, .string xr, .int .i64 0] 31)).heap.size (w6.alloc (.cells #[.string xl, .string xd, .string xr, .int .i64 0] 31)) W) => hm6.below (below_one h) hm6.pos)
              clear hj hright hm5 hm6 s1 s2 s3
              go_region_held3 (fun W => (W.cell? ⟨w6.heap.size, 0, none⟩ = some (.string xl) ∧ W.cell? ⟨w6.heap.size, 1, none⟩ = some (.string xd) ∧ W.cell? ⟨w6.heap.size, 2, none⟩ = some (.string xr) ∧ W.cell? ⟨w6.heap.size, 3, none⟩ = some (.int .i64 0)) ∧ Below (w6.alloc (.cells #[.string xl, .string xd, .string xr, .int .i64 0] 31)).heap.size (w6.alloc (.cells #[.string xl, .string xd, .string xr, .int .i64 0] 31)) W)
                (with_reducible first | assumption | exact held_four hbM | exact held_four (Below.refl _ _).drew)
                (first
                  | (go_at_call 21; go_fit (g2 _); rintro e wm ⟨rfl, hb2⟩; have hbM := held_on (by assumption) hb2)
                  | (go_at_call 14; go_fit (g3 _ (HM3.out _ (And.right (by assumption)))); rintro e wm ⟨rfl, hb2⟩; have hbM := held_on (by assumption) hb2))
              all_goals
                go_wp2
                go_ret
                exact ⟨rfl, hb6.trans ((below_one hbM).mono hb6.size)⟩
            · have hcb : (c == 0) = false := beq_eq_false_iff_ne.2 hc
              clear hright hm5
              refine wp_region_held_drew (S := (fun W => (W.cell? ⟨w6.heap.size, 0, none⟩ = some (.string xl) ∧ W.cell? ⟨w6.heap.size, 1, none⟩ = some (.string xd) ∧ W.cell? ⟨w6.heap.size, 2, none⟩ = some (.string xr) ∧ W.cell? ⟨w6.heap.size, 3, none⟩ = some (.int .i64 c)) ∧ Below (w6.alloc (.cells #[.string xl, .string xd, .string xr, .int .i64 c] 31)).heap.size (w6.alloc (.cells #[.string xl, .string xd, .string xr, .int .i64 c] 31)) W)) (by kernel_rfl) (held_four (Below.refl _ _).drew) (fun hHeld => ?_)
              refine takeH (i := 0) (k := 109) (v := .agg #[.string xl, .string xd, .string xr, .int .i64 c]) rfl (by rfl) (by kernel_rfl) (by kernel_rfl) (by kernel_rfl) (fun _ _ _ h => h) (by rfl) ?_ hHeld ?_
              · intro w hSw
                (try dsimp only at hSw)
                go_simp
              (try simp only [Act.put, List.setIfInBounds_toArray, List.set_cons_zero, List.set_cons_succ])
              refine takeH (i := 1) (k := 110) (v := .string u) rfl (by rfl) (by kernel_rfl) (by kernel_rfl) (by kernel_rfl) (fun _ _ _ h => h) (by rfl) ?_ hHeld ?_
              · intro w hSw
                (try dsimp only at hSw)
                go_simp
              (try simp only [Act.put, List.setIfInBounds_toArray, List.set_cons_zero, List.set_cons_succ])
              refine wpAnyH_ready (rs := [2]) (by kernel_rfl) (by simp) ?_
              refine AllReadyH.cons rfl (fun K hK => ?_) AllReadyH.nil
              rw [if_pos (by rfl)]
              go_simp
              go_fit (g2 _)
              rintro e wm ⟨rfl, hb2⟩
              have hbM := held_on hHeld hb2
              clear hb2
              refine hK.out _ _ (held_four hbM) (fun hHeld => ?_)
              clear hK K
              (try simp only [Act.put, List.setIfInBounds_toArray, List.set_cons_zero, List.set_cons_succ])
              refine takeH (i := 3) (k := 112) (v := .bool true) rfl (by rfl) (by kernel_rfl) (by kernel_rfl) (by kernel_rfl) (fun _ _ _ h => h) (by rfl) ?_ hHeld ?_
              · intro w hSw
                (try dsimp only at hSw)
                go_simp
              (try simp only [Act.put, List.setIfInBounds_toArray, List.set_cons_zero, List.set_cons_succ])
              refine takeH (i := 4) (k := 113) (v := .bool true) rfl (by rfl) (by kernel_rfl) (by kernel_rfl) (by kernel_rfl) (fun _ _ _ h => h) (by rfl) ?_ hHeld ?_
              · intro w hSw
                (try dsimp only at hSw)
                go_simp
              (try simp only [Act.put, List.setIfInBounds_toArray, List.set_cons_zero, List.set_cons_succ])
              refine takeH (i := 5) (k := 114) (v := .pointer (some ⟨w6.heap.size, 3, none⟩)) rfl (by rfl) (by kernel_rfl) (by kernel_rfl) (by kernel_rfl) (fun _ _ _ h => h) (by rfl) ?_ hHeld ?_
              · intro w hSw
                (try dsimp only at hSw)
                go_simp
              (try simp only [Act.put, List.setIfInBounds_toArray, List.set_cons_zero, List.set_cons_succ])
              refine takeH (i := 6) (k := 115) (v := .int .i64 c) rfl (by rfl) (by kernel_rfl) (by kernel_rfl) (by kernel_rfl) (fun _ _ _ h => h) (by rfl) ?_ hHeld ?_
              · intro w hSw
                (try dsimp only at hSw)
                go_simp
              (try simp only [Act.put, List.setIfInBounds_toArray, List.set_cons_zero, List.set_cons_succ])
              refine takeH (i := 7) (k := 116) (v := .bool true) rfl (by rfl) (by kernel_rfl) (by kernel_rfl) (by kernel_rfl) (fun _ _ _ h => h) (by rfl) ?_ hHeld ?_
              · intro w hSw
                (try dsimp only at hSw)
                go_simp
              (try simp only [Act.put, List.setIfInBounds_toArray, List.set_cons_zero, List.set_cons_succ])
              refine takeH (i := 8) (k := 117) (v := .bool true) rfl (by rfl) (by kernel_rfl) (by kernel_rfl) (by kernel_rfl) (fun _ _ _ h => h) (by rfl) ?_ hHeld ?_
              · intro w hSw
                (try dsimp only at hSw)
                go_simp
              (try simp only [Act.put, List.setIfInBounds_toArray, List.set_cons_zero, List.set_cons_succ])
              refine skipH (i := 9) (k := 118) rfl (by rfl) (by kernel_rfl) (by kernel_rfl) (by kernel_rfl) (fun _ _ _ h => h) (by rfl) hHeld ?_
              (try simp only [Act.put, List.setIfInBounds_toArray, List.set_cons_zero, List.set_cons_succ])
              refine skipH (i := 10) (k := 119) rfl (by rfl) (by kernel_rfl) (by kernel_rfl) (by kernel_rfl) (fun _ _ _ h => h) (by rfl) hHeld ?_
              (try simp only [Act.put, List.setIfInBounds_toArray, List.set_cons_zero, List.set_cons_succ])
              refine skipH (i := 11) (k := 120) rfl (by rfl) (by kernel_rfl) (by kernel_rfl) (by kernel_rfl) (fun _ _ _ h => h) (by rfl) hHeld ?_
              (try simp only [Act.put, List.setIfInBounds_toArray, List.set_cons_zero, List.set_cons_succ])
              refine takeH (i := 12) (k := 121) (v := .bool true) rfl (by rfl) (by kernel_rfl) (by kernel_rfl) (by kernel_rfl) (fun _ _ _ h => h) (by rfl) ?_ hHeld ?_
              · intro w hSw
                (try dsimp only at hSw)
                go_simp
              (try simp only [Act.put, List.setIfInBounds_toArray, List.set_cons_zero, List.set_cons_succ])
              refine takeH (i := 13) (k := 122) (v := .bool true) rfl (by rfl) (by kernel_rfl) (by kernel_rfl) (by kernel_rfl) (fun _ _ _ h => h) (by rfl) ?_ hHeld ?_
              · intro w hSw
                (try dsimp only at hSw)
                go_simp
              (try simp only [Act.put, List.setIfInBounds_toArray, List.set_cons_zero, List.set_cons_succ])
              refine takeH (i := 14) (k := 4) (v := .bool true) rfl (by rfl) (by kernel_rfl) (by kernel_rfl) (by kernel_rfl) (fun _ _ _ h => h) (by rfl) ?_ hHeld ?_
              · intro w hSw
                (try dsimp only at hSw)
                go_simp
              (try simp only [Act.put, List.setIfInBounds_toArray, List.set_cons_zero, List.set_cons_succ])
              refine wpAnyH_done (by kernel_rfl) ?_ _
              go_wp2
              go_ret
              exact ⟨rfl, hb6.trans ((below_one hbM).mono hb6.size)⟩
        · have h47b : (47 : Int) = 47 := rfl
          go_wp2
          go_region_held3 (fun W => (W.cell? ⟨w1.heap.size, 0, none⟩ = some (.string l) ∧ W.cell? ⟨w1.heap.size, 1, none⟩ = some (.string d) ∧ W.cell? ⟨w1.heap.size, 2, none⟩ = some (.string r) ∧ (convert 22 9 (.slice (some ⟨gb, 0, none⟩) T.length cap)).run Try.prog W = .ok (.string U) W) ∧ (Below (w1.alloc (.cells #[.string l, .string d, .string r] 24)).heap.size (w1.alloc (.cells #[.string l, .string d, .string r] 24)) W ∧ BAt W gb cap L))
            (with_reducible first | assumption | exact HS14.out | exact hq)
            (first
              | (go_at_call 19; go_fit (hread _ (HM.out _ (And.left (And.right (by assumption))))); rintro e wm ⟨rfl, hb2⟩; have hq := jidS_on HLl.out HU.out (by assumption) hb2)
              | (go_at_call 19; go_fit (hread2 _ (HM.out _ (And.left (And.right (by assumption))))); rintro e wm ⟨rfl, hb2⟩; have hq := jidS_on HLl.out HU.out (by assumption) hb2))
          all_goals
            have hbN := hq.2.1
            clear hq HS14 hread hread2 HM
            have hbT : Below w.heap.size w _ := hbw.trans ((below_one hbN).mono hbw.size)
            clear hbN
            go_wp2_with fail
            refine (draw_jidread a1 len1 cap1 _ h1 (R1.out.lift hbT hbT.size)).mono ?_
            rintro e w5 ⟨⟨_, rfl, u, rfl, hu⟩, hbd⟩
            have hb5 := hbT.trans (hbd.mono hbT.size)
            have hm5 := hm.below hb5 hm.pos
            have yu : u.size ≤ maxLen := by unfold maxLen; omega
            have g1 := impl_read u w5 yu hm5
            have g2 := fun w => spec_read u w yu
            obtain ⟨xl, xd, xr, c, hv⟩ := readV_form u
            have hright : c = 0 → jidB xl xd xr = true := fun h => readV_right u (by rw [hv, h])
            rw [hv] at g1 g2
            unfold jo at g1 g2
            clear hv hbT hbd yu hu
            go_wp2_with (first | (go_at_call 19; go_fit g1; rintro e w6 ⟨rfl, hb6⟩))
            replace hb6 := hb5.trans (hb6.mono hb5.size)
            clear g1 hb5
            by_cases hc : c = 0
            · subst hc
              have hj := hright rfl
              obtain ⟨s1, s2, s3⟩ := right_le hj
              have g3 := fun w => impl_right xl xd xr w (by unfold maxLen; omega) (by unfold maxLen; omega) (by unfold maxLen; omega)
              rw [hj] at g3
              have hm6 := hm.below hb6 hm.pos
              have HM3 := Lib.hid (fun W (h : Below (w6.alloc (.cells #[.string xl, .string xd, .string xr, .int .i64 0] 31)).heap.size (w6.alloc (.cells #[.string xl, .string xd, .string xr, .int .i64 0] 31)) W) => hm6.below (below_one h) hm6.pos)
              clear hj hright hm5 hm6 s1 s2 s3
              go_region_held3 (fun W => (W.cell? ⟨w6.heap.size, 0, none⟩ = some (.string xl) ∧ W.cell? ⟨w6.heap.size, 1, none⟩ = some (.string xd) ∧ W.cell? ⟨w6.heap.size, 2, none⟩ = some (.string xr) ∧ W.cell? ⟨w6.heap.size, 3, none⟩ = some (.int .i64 0)) ∧ Below (w6.alloc (.cells #[.string xl, .string xd, .string xr, .int .i64 0] 31)).heap.size (w6.alloc (.cells #[.string xl, .string xd, .string xr, .int .i64 0] 31)) W)
                (with_reducible first | assumption | exact held_four hbM | exact held_four (Below.refl _ _).drew)
                (first
                  | (go_at_call 21; go_fit (g2 _); rintro e wm ⟨rfl, hb2⟩; have hbM := held_on (by assumption) hb2)
                  | (go_at_call 14; go_fit (g3 _ (HM3.out _ (And.right (by assumption)))); rintro e wm ⟨rfl, hb2⟩; have hbM := held_on (by assumption) hb2))
              all_goals
                go_wp2
                go_ret
                exact ⟨rfl, hb6.trans ((below_one hbM).mono hb6.size)⟩
            · have hcb : (c == 0) = false := beq_eq_false_iff_ne.2 hc
              clear hright hm5
              refine wp_region_held_drew (S := (fun W => (W.cell? ⟨w6.heap.size, 0, none⟩ = some (.string xl) ∧ W.cell? ⟨w6.heap.size, 1, none⟩ = some (.string xd) ∧ W.cell? ⟨w6.heap.size, 2, none⟩ = some (.string xr) ∧ W.cell? ⟨w6.heap.size, 3, none⟩ = some (.int .i64 c)) ∧ Below (w6.alloc (.cells #[.string xl, .string xd, .string xr, .int .i64 c] 31)).heap.size (w6.alloc (.cells #[.string xl, .string xd, .string xr, .int .i64 c] 31)) W)) (by kernel_rfl) (held_four (Below.refl _ _).drew) (fun hHeld => ?_)
              refine takeH (i := 0) (k := 109) (v := .agg #[.string xl, .string xd, .string xr, .int .i64 c]) rfl (by rfl) (by kernel_rfl) (by kernel_rfl) (by kernel_rfl) (fun _ _ _ h => h) (by rfl) ?_ hHeld ?_
              · intro w hSw
                (try dsimp only at hSw)
                go_simp
              (try simp only [Act.put, List.setIfInBounds_toArray, List.set_cons_zero, List.set_cons_succ])
              refine takeH (i := 1) (k := 110) (v := .string u) rfl (by rfl) (by kernel_rfl) (by kernel_rfl) (by kernel_rfl) (fun _ _ _ h => h) (by rfl) ?_ hHeld ?_
              · intro w hSw
                (try dsimp only at hSw)
                go_simp
              (try simp only [Act.put, List.setIfInBounds_toArray, List.set_cons_zero, List.set_cons_succ])
              refine wpAnyH_ready (rs := [2]) (by kernel_rfl) (by simp) ?_
              refine AllReadyH.cons rfl (fun K hK => ?_) AllReadyH.nil
              rw [if_pos (by rfl)]
              go_simp
              go_fit (g2 _)
              rintro e wm ⟨rfl, hb2⟩
              have hbM := held_on hHeld hb2
              clear hb2
              refine hK.out _ _ (held_four hbM) (fun hHeld => ?_)
              clear hK K
              (try simp only [Act.put, List.setIfInBounds_toArray, List.set_cons_zero, List.set_cons_succ])
              refine takeH (i := 3) (k := 112) (v := .bool true) rfl (by rfl) (by kernel_rfl) (by kernel_rfl) (by kernel_rfl) (fun _ _ _ h => h) (by rfl) ?_ hHeld ?_
              · intro w hSw
                (try dsimp only at hSw)
                go_simp
              (try simp only [Act.put, List.setIfInBounds_toArray, List.set_cons_zero, List.set_cons_succ])
              refine takeH (i := 4) (k := 113) (v := .bool true) rfl (by rfl) (by kernel_rfl) (by kernel_rfl) (by kernel_rfl) (fun _ _ _ h => h) (by rfl) ?_ hHeld ?_
              · intro w hSw
                (try dsimp only at hSw)
                go_simp
              (try simp only [Act.put, List.setIfInBounds_toArray, List.set_cons_zero, List.set_cons_succ])
              refine takeH (i := 5) (k := 114) (v := .pointer (some ⟨w6.heap.size, 3, none⟩)) rfl (by rfl) (by kernel_rfl) (by kernel_rfl) (by kernel_rfl) (fun _ _ _ h => h) (by rfl) ?_ hHeld ?_
              · intro w hSw
                (try dsimp only at hSw)
                go_simp
              (try simp only [Act.put, List.setIfInBounds_toArray, List.set_cons_zero, List.set_cons_succ])
              refine takeH (i := 6) (k := 115) (v := .int .i64 c) rfl (by rfl) (by kernel_rfl) (by kernel_rfl) (by kernel_rfl) (fun _ _ _ h => h) (by rfl) ?_ hHeld ?_
              · intro w hSw
                (try dsimp only at hSw)
                go_simp
              (try simp only [Act.put, List.setIfInBounds_toArray, List.set_cons_zero, List.set_cons_succ])
              refine takeH (i := 7) (k := 116) (v := .bool true) rfl (by rfl) (by kernel_rfl) (by kernel_rfl) (by kernel_rfl) (fun _ _ _ h => h) (by rfl) ?_ hHeld ?_
              · intro w hSw
                (try dsimp only at hSw)
                go_simp
              (try simp only [Act.put, List.setIfInBounds_toArray, List.set_cons_zero, List.set_cons_succ])
              refine takeH (i := 8) (k := 117) (v := .bool true) rfl (by rfl) (by kernel_rfl) (by kernel_rfl) (by kernel_rfl) (fun _ _ _ h => h) (by rfl) ?_ hHeld ?_
              · intro w hSw
                (try dsimp only at hSw)
                go_simp
              (try simp only [Act.put, List.setIfInBounds_toArray, List.set_cons_zero, List.set_cons_succ])
              refine skipH (i := 9) (k := 118) rfl (by rfl) (by kernel_rfl) (by kernel_rfl) (by kernel_rfl) (fun _ _ _ h => h) (by rfl) hHeld ?_
              (try simp only [Act.put, List.setIfInBounds_toArray, List.set_cons_zero, List.set_cons_succ])
              refine skipH (i := 10) (k := 119) rfl (by rfl) (by kernel_rfl) (by kernel_rfl) (by kernel_rfl) (fun _ _ _ h => h) (by rfl) hHeld ?_
              (try simp only [Act.put, List.setIfInBounds_toArray, List.set_cons_zero, List.set_cons_succ])
              refine skipH (i := 11) (k := 120) rfl (by rfl) (by kernel_rfl) (by kernel_rfl) (by kernel_rfl) (fun _ _ _ h => h) (by rfl) hHeld ?_
              (try simp only [Act.put, List.setIfInBounds_toArray, List.set_cons_zero, List.set_cons_succ])
              refine takeH (i := 12) (k := 121) (v := .bool true) rfl (by rfl) (by kernel_rfl) (by kernel_rfl) (by kernel_rfl) (fun _ _ _ h => h) (by rfl) ?_ hHeld ?_
              · intro w hSw
                (try dsimp only at hSw)
                go_simp
              (try simp only [Act.put, List.setIfInBounds_toArray, List.set_cons_zero, List.set_cons_succ])
              refine takeH (i := 13) (k := 122) (v := .bool true) rfl (by rfl) (by kernel_rfl) (by kernel_rfl) (by kernel_rfl) (fun _ _ _ h => h) (by rfl) ?_ hHeld ?_
              · intro w hSw
                (try dsimp only at hSw)
                go_simp
              (try simp only [Act.put, List.setIfInBounds_toArray, List.set_cons_zero, List.set_cons_succ])
              refine takeH (i := 14) (k := 4) (v := .bool true) rfl (by rfl) (by kernel_rfl) (by kernel_rfl) (by kernel_rfl) (fun _ _ _ h => h) (by rfl) ?_ hHeld ?_
              · intro w hSw
                (try dsimp only at hSw)
                go_simp
              (try simp only [Act.put, List.setIfInBounds_toArray, List.set_cons_zero, List.set_cons_succ])
              refine wpAnyH_done (by kernel_rfl) ?_ _
              go_wp2
              go_ret
              exact ⟨rfl, hb6.trans ((below_one hbM).mono hb6.size)⟩
end Go.Proofs.Ytddefjnnehjjkaa
