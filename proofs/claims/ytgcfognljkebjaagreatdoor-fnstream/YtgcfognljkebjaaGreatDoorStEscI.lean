/- What impl.Escape answers. -/
import Derived.Test.YtgcfognljkebjaaGreatDoorStRows
namespace Go.Proofs.YtgcfognljkebjaaGreatDoor
set_option linter.unusedSimpArgs false
set_option linter.unusedVariables false
open Go.RowKit Go.Maps

/-- What stands at each round of Escape: the map at M, the iterator at it, the parts from it + 1 on. -/
def EscW (w : World) (s : ByteArray) (M it pos : Nat) (v : Value) (ps : List ByteArray) (W : World) : Prop :=
  W.ownsMap Tryz.prog 21 formElem M 5 formsD ∧ W.heap[it]? = some (.stringIter s pos) ∧ OwnS W (it + 1) v ps ∧ Below w.heap.size w W
theorem EscW.grow {w : World} {s : ByteArray} {M it pos : Nat} {v v' : Value} {ps ps' : List ByteArray} {W W' : World} {row : Option Nat} (h : EscW w s M it pos v ps W) (hM : M < it) (hw : w.heap.size ≤ it) (hg : W.grownBy W' row) (hr : ∀ k, row = some k → it < k) (ho : OwnS W' (it + 1) v' ps') : EscW w s M it pos v' ps' W' := by
  have hne : ∀ b, b ≤ it → some b ≠ row := fun b hb e => by have := hr b e.symm; omega
  have hlt : it < W.heap.size := (Array.getElem?_eq_some_iff.1 h.2.1).1
  exact ⟨h.1.kept hg (hne M (by omega)), (hg.block it hlt (hne it (Nat.le_refl _))).trans h.2.1, ho, h.2.2.2.grown hg h.2.2.2.size (fun k hk => by have := hr k hk; omega)⟩
theorem EscW.alloc {w : World} {s : ByteArray} {M it pos : Nat} {v : Value} {ps : List ByteArray} {W : World} (h : EscW w s M it pos v ps W) (hM : M < it) (hw : w.heap.size ≤ it) (o : Obj) : EscW w s M it pos v ps (W.alloc o) :=
  h.grow hM hw (World.grownBy_alloc W o none) (fun k hk => by cases hk) (h.2.2.1.alloc o)
theorem EscW.drew {w : World} {s : ByteArray} {M it pos : Nat} {v : Value} {ps : List ByteArray} {W : World} (h : EscW w s M it pos v ps W) : EscW w s M it pos v ps W.drew := ⟨h.1, h.2.1, h.2.2.1, h.2.2.2.drew⟩
theorem EscW.step {w : World} {s : ByteArray} {M it pos : Nat} {v : Value} {ps : List ByteArray} {W : World} (h : EscW w s M it pos v ps W) (hM : M < it) (hw : w.heap.size ≤ it) (p : Nat) : EscW w s M it p v ps (W.iterAt it s p) :=
  ⟨ownsMap_iterAt h.1 (by omega) s p, Lib.iterAt_heap W it s pos p h.2.1, h.2.2.1.iterAt (Nat.lt_succ_self _) s p, Lib.below_iterAt h.2.2.2 hw s p⟩
theorem iter_pos {w : World} {s : ByteArray} {M it pos : Nat} {v : Value} {ps : List ByteArray} {W : World} (h : EscW w s M it pos v ps W) : W.iterPos it = pos := by simp only [World.iterPos, h.2.1]
theorem take_flat (s : ByteArray) (i j : Nat) (hij : i ≤ j) (hj : j ≤ s.size) (hno : ∀ k (h : k < s.size), i ≤ k → k < j → markB s[k].toNat = false) : escL (s.data.toList.take j) = escL (s.data.toList.take i) ++ (s.extract i j).data.toList := by
  rw [ext_toList s i j hij hj]
  have e : s.data.toList.take j = s.data.toList.take i ++ (s.data.toList.take j).drop i := by
    have := List.take_append_drop i (s.data.toList.take j)
    rw [List.take_take, Nat.min_eq_left hij] at this
    exact this.symm
  rw [e, escL_append, ← e]
  congr 1
  apply escL_none
  intro c hc
  obtain ⟨k, hk, rfl⟩ := List.getElem_of_mem hc
  simp only [List.getElem_drop, List.getElem_take]
  have hk' : i + k < j := by simp at hk; omega
  exact hno (i + k) (by omega) (by omega) hk'
theorem two_at (w : World) (a b : ByteArray) (t : Nat) : ∀ j (h : j < [a, b].length), (w.alloc (.cells #[.string a, .string b] t)).cell? ⟨w.heap.size, j, none⟩ = some (.string [a, b][j]) := by
  intro j h
  rw [(Arr.fresh w t [.string a, .string b]).cell]
  match j, h with
  | 0, _ => rfl
  | 1, _ => rfl
theorem one_at' (w : World) (a : ByteArray) (t : Nat) : ∀ j (h : j < [a].length), (w.alloc (.cells #[.string a] t)).cell? ⟨w.heap.size, j, none⟩ = some (.string [a][j]) := by
  intro j h
  match j, h with
  | 0, _ => exact one_at w a t
set_option maxRecDepth 100000 in
set_option maxHeartbeats 1000000 in
theorem impl_esc (s : ByteArray) (w : World) (hs : s.size ≤ 2000) : Calls Tryz.prog 131 #[.string s] w fun e w' => e = .returned (.string (strOf (escL s.data.toList))) ∧ Below w.heap.size w w' := by
  have hlen : s.data.toList.length = s.size := size_data s
  have i1 := impl_forms w
  go_enter Tryz.func131, Tryz.ntmps131
  go_wp2_with (first
    | (go_at_call 149; go_fit i1; rintro e w1 ⟨rfl, hown, hb⟩))
  have hlt1 : w.heap.size < w1.heap.size := hown.lt
  have HO : Hid (EscW w s w.heap.size w1.heap.size 0 (.slice none 0 0) [] (w1.iter s 0)) := Lib.hid ⟨hown.alloc _, World.iter_heap w1 s 0, World.ownsRow_nil _ _ _ _, hb.alloc hb.size _⟩
  clear hown hb i1
  go_loopw [4, 5] (fun v f wr => ∃ (pos frm : Nat) (ps : List ByteArray), pos ≤ s.size ∧ frm ≤ pos ∧ f = .int .i64 frm ∧ ps.length ≤ 2 * frm ∧ EscW w s w.heap.size w1.heap.size pos v ps wr ∧ flat ps = escL (s.data.toList.take frm) ∧ (∀ j (h : j < s.size), frm ≤ j → j < pos → markB s[j].toNat = false)) (fun _ _ wr => s.size - wr.iterPos w1.heap.size)
  case atStart => exact ⟨0, 0, [], Nat.zero_le _, Nat.zero_le _, rfl, Nat.le_refl _, HO.out, rfl, fun _ _ _ h => absurd h (Nat.not_lt_zero _)⟩
  case round =>
    clear HO
    obtain ⟨pos, frm, ps, hk, hfp, rfl, hpl, hE, hfl, hno⟩ := hrel
    have hw1 : w.heap.size ≤ w1.heap.size := Nat.le_of_lt hlt1
    have hI := hE.2.1
    have hO := hE.2.2.1
    have HFL := Lib.hid hfl
    have HNO := Lib.hid hno
    clear hfl hno
    have hsz : w1.heap.size < wr.heap.size := (Array.getElem?_eq_some_iff.1 hI).1
    by_cases hlt : pos < s.size
    · have hnx : ∀ ty, (Instr.next (.pointer (some ⟨w1.heap.size, 0, none⟩)) true ty).run Tryz.prog wr = _ := fun ty => Lib.run_next_any_at wr w1.heap.size s pos ty hI hlt
      have hd1 := decode_le s pos
      have hE2 := hE.step hlt1 hw1 (pos + (Utf8.decode s pos).2)
      have hpos := iter_pos hE
      have HSPL : Hid (markB (Utf8.decode s pos).1 = true ∧ (Utf8.decode s pos).2 = 1 ∧ (Utf8.decode s pos).1 = (s[pos]'hlt).toNat ∨ markB (Utf8.decode s pos).1 = false ∧ 1 ≤ (Utf8.decode s pos).2 ∧ pos + (Utf8.decode s pos).2 ≤ s.size ∧ ∀ j (hj : j < s.size), pos ≤ j → j < pos + (Utf8.decode s pos).2 → markB (s[j]'hj).toNat = false) := Lib.hid (by
        by_cases ha : (s[pos]'hlt).toNat < 128
        · rw [decode_ascii s pos hlt ha]
          cases hmk : markB ((s[pos]'hlt).toNat : Int)
          · exact .inr ⟨rfl, Nat.le_refl _, hlt, fun j hj h1 h2 => by
              obtain rfl : j = pos := by dsimp only at h2; omega
              exact hmk⟩
          · exact .inl ⟨rfl, rfl, rfl⟩
        · have ha' : 128 ≤ (s[pos]'hlt).toNat := by omega
          have hhi := decode_high s pos hlt ha'
          obtain ⟨d1, d2⟩ := decode_wide s pos hlt ha'
          have big : ∀ z : Nat, 128 ≤ z → markB (z : Int) = false := fun z hz => by unfold markB; simp; omega
          exact .inr ⟨big _ hhi.1, hhi.2, d1, fun j hj h1 h2 => big _ (d2 j hj h1 h2)⟩)
      obtain ⟨r, hr⟩ : ∃ r, r = (Utf8.decode s pos).1 := ⟨_, rfl⟩
      obtain ⟨n, hn⟩ : ∃ n, n = (Utf8.decode s pos).2 := ⟨_, rfl⟩
      rw [← hr, ← hn] at hnx HSPL
      rw [← hr] at hd1
      rw [← hn] at hE2
      have hwf : (Lit.int .i32 (r : Int)).wf = true := by simp [Lit.wf, IntKind.min, IntKind.max, IntKind.signed, IntKind.bits]; omega
      obtain ⟨W, hW⟩ : ∃ W, wr.iterAt w1.heap.size s (pos + n) = W := ⟨_, rfl⟩
      rw [hW] at hnx hE2
      have hM2 := hE2.1
      have hsz2 : w1.heap.size < W.heap.size := (Array.getElem?_eq_some_iff.1 hE2.2.1).1
      clear hI hO hW hr hn hE
      cases hmk : markB r
      · rw [hmk] at HSPL
        obtain ⟨s1, s2, s3⟩ : 1 ≤ n ∧ pos + n ≤ s.size ∧ Hid (∀ j (hj : j < s.size), pos ≤ j → j < pos + n → markB (s[j]'hj).toNat = false) := by
          rcases HSPL.out with ⟨h, _⟩ | ⟨_, h1, h2, h3⟩
          · cases h
          · exact ⟨h1, h2, Lib.hid h3⟩
        clear HSPL
        go_wp2_with (first
          | (at_lookup; refine wpList_lookup_form _ rfl _ _ rfl w.heap.size rfl hM2 r rfl hwf ?_; rw [hmk])
          | go_in)
        go_roundw
        case rel => exact ⟨pos + n, frm, ps, s2, by omega, rfl, hpl, hE2.alloc hlt1 hw1 _, HFL.out, fun j hj h1 h2 => by
          by_cases e : j < pos
          · exact HNO.out j hj h1 e
          · exact s3.out j hj (by omega) h2⟩
        case measure =>
          rw [iter_pos (hE2.alloc hlt1 hw1 _), hpos]
          omega
      · have hone : n = 1 ∧ r = (s[pos]'hlt).toNat := by
          rcases HSPL.out with ⟨_, h1, h2⟩ | ⟨h, _⟩
          · exact ⟨h1, h2⟩
          · rw [hmk] at h; cases h
        obtain ⟨rfl, hrs⟩ := hone
        clear HSPL
        have HRS := Lib.hid hrs
        clear hrs
        have b1 : (frm : Int) ≤ (pos : Int) := by omega
        have b2 : (pos : Int) ≤ (s.size : Int) := by omega
        have b3 : (0 : Int) ≤ (frm : Int) := by omega
        obtain ⟨X, hX⟩ : ∃ X, X = strOf (formL r) := ⟨_, rfl⟩
        have HX := Lib.hid hX
        clear hX
        go_wp2_with (first
          | (at_lookup; refine wpList_lookup_form _ rfl _ _ rfl w.heap.size rfl hM2 r rfl hwf ?_; rw [hmk, ← HX.out])
          | go_in)
        have hE3 := (hE2.alloc hlt1 hw1 (.cells #[.string X] 180)).drew
        have hcell : (W.alloc (.cells #[.string X] 180)).drew.cell? ⟨W.heap.size, 0, none⟩ = some (.string X) := one_at_d W X _
        refine wp_region_held_drew (S := (fun W => True)) (by kernel_rfl) trivial (fun hHeld => ?_)
        generalize (W.alloc (.cells #[.string X] 180)).drew = V at hE3 hcell ⊢
        refine takeH (i := 0) (k := 27) (v := u4) rfl (by rfl) (by kernel_rfl) (by kernel_rfl) (by kernel_rfl) (fun _ _ _ h => h) (by rfl) ?_ hHeld ?_
        · intro w hSw; (try dsimp only at hSw); go_simp
        (try simp only [Act.put, List.setIfInBounds_toArray, List.set_cons_zero, List.set_cons_succ])
        refine takeH (i := 1) (k := 28) (v := .string s) rfl (by rfl) (by kernel_rfl) (by kernel_rfl) (by kernel_rfl) (fun _ _ _ h => h) (by rfl) ?_ hHeld ?_
        · intro w hSw; (try dsimp only at hSw); go_simp
        (try simp only [Act.put, List.setIfInBounds_toArray, List.set_cons_zero, List.set_cons_succ])
        refine takeH (i := 2) (k := 29) (v := .int .i64 frm) rfl (by rfl) (by kernel_rfl) (by kernel_rfl) (by kernel_rfl) (fun _ _ _ h => h) (by rfl) ?_ hHeld ?_
        · intro w hSw; (try dsimp only at hSw); go_simp
        (try simp only [Act.put, List.setIfInBounds_toArray, List.set_cons_zero, List.set_cons_succ])
        refine takeH (i := 3) (k := 30) (v := .int .i64 pos) rfl (by rfl) (by kernel_rfl) (by kernel_rfl) (by kernel_rfl) (fun _ _ _ h => h) (by rfl) ?_ hHeld ?_
        · intro w hSw; (try dsimp only at hSw); go_simp
        (try simp only [Act.put, List.setIfInBounds_toArray, List.set_cons_zero, List.set_cons_succ])
        refine takeH (i := 4) (k := 31) (v := .string (s.extract frm pos)) rfl (by rfl) (by kernel_rfl) (by kernel_rfl) (by kernel_rfl) (fun _ _ _ h => h) (by rfl) ?_ hHeld ?_
        · intro w hSw; (try dsimp only at hSw); go_simp
        (try simp only [Act.put, List.setIfInBounds_toArray, List.set_cons_zero, List.set_cons_succ])
        refine takeH (i := 5) (k := 32) (v := .pointer (some ⟨W.heap.size, 0, none⟩)) rfl (by rfl) (by kernel_rfl) (by kernel_rfl) (by kernel_rfl) (fun _ _ _ h => h) (by rfl) ?_ hHeld ?_
        · intro w hSw; (try dsimp only at hSw); go_simp
        (try simp only [Act.put, List.setIfInBounds_toArray, List.set_cons_zero, List.set_cons_succ])
        refine wpAnyH_ready (rs := [6]) (by kernel_rfl) (by simp) ?_
        refine AllReadyH.cons rfl (fun K hK => ?_) AllReadyH.nil
        rw [if_pos (by rfl)]
        go_simp
        refine hK.out _ _ (trivial) (fun hHeld => ?_)
        clear hK K
        (try simp only [Act.put, List.setIfInBounds_toArray, List.set_cons_zero, List.set_cons_succ])
        refine wpAnyH_ready (rs := [7]) (by kernel_rfl) (by simp) ?_
        refine AllReadyH.cons rfl (fun K hK => ?_) AllReadyH.nil
        rw [if_pos (by rfl)]
        go_simp
        refine hK.out _ _ (trivial) (fun hHeld => ?_)
        clear hK K
        (try simp only [Act.put, List.setIfInBounds_toArray, List.set_cons_zero, List.set_cons_succ])
        have hsz3 : w1.heap.size < V.heap.size := (Array.getElem?_eq_some_iff.1 hE3.2.1).1
        refine wpAnyH_ready (rs := [8]) (by kernel_rfl) (by simp) ?_
        refine AllReadyH.cons rfl (fun K hK => ?_) AllReadyH.nil
        rw [if_pos (by rfl)]
        refine wp_app_strs _ _ rfl (w1.heap.size + 1) u4 ps rfl (hE3.2.2.1.alloc _) V.heap.size 2 [s.extract frm pos, X] rfl rfl (two_at V _ _ _) (by omega) (by simp; omega) ?_
        intro v1 w3 ho3 hg3 hk3
        have hE4 : EscW w s w.heap.size w1.heap.size (pos + 1) v1 (ps ++ [s.extract frm pos, X]) w3 := (hE3.alloc hlt1 hw1 _).grow hlt1 hw1 hg3 (fun k hk => (hk3 k hk).1) ho3
        clear ho3 hg3 hk3
        refine hK.out _ _ (trivial) (fun hHeld => ?_)
        clear hK K
        (try simp only [Act.put, List.setIfInBounds_toArray, List.set_cons_zero, List.set_cons_succ])
        refine takeH (i := 9) (k := 4) (v := v1) rfl (by rfl) (by kernel_rfl) (by kernel_rfl) (by kernel_rfl) (fun _ _ _ h => h) (by rfl) ?_ hHeld ?_
        · intro w hSw; (try dsimp only at hSw); go_simp
        (try simp only [Act.put, List.setIfInBounds_toArray, List.set_cons_zero, List.set_cons_succ])
        refine wpAnyH_done (by kernel_rfl) ?_ _
        clear hE3 hcell hE2 hM2
        go_wp2
        go_roundw
        case rel =>
          refine ⟨pos + 1, pos + 1, ps ++ [s.extract frm pos, X], hlt, Nat.le_refl _, by go_num, by simp; omega, hE4, ?_, fun j hj h1 h2 => absurd h1 (by omega)⟩
          rw [escL_take s pos hlt, take_flat s frm pos hfp hk HNO.out, flat_app, HFL.out, escC_mark (by rw [← HRS.out]; exact hmk), ← HRS.out, HX.out]
          simp [flat, strOf_data]
        case measure =>
          rw [iter_pos hE4, hpos]
          omega
    · have hnx : ∀ ty, (Instr.next (.pointer (some ⟨w1.heap.size, 0, none⟩)) true ty).run Tryz.prog wr = _ := fun ty => Lib.run_next_end_at wr w1.heap.size s pos ty hI hlt
      have b1 : (frm : Int) ≤ (s.size : Int) := by omega
      have HTOT : Hid (flat (ps ++ [s.extract frm s.size]) = escL s.data.toList) := Lib.hid (by
        obtain rfl : pos = s.size := by omega
        have := take_flat s frm s.size (by omega) (Nat.le_refl _) HNO.out
        rw [List.take_of_length_le (by omega)] at this
        rw [this, flat_app, HFL.out]
        simp [flat])
      have HLE := Lib.hid (escL_len s.data.toList)
      have hB := hE.2.2.2
      go_wp2_with (first
        | (at_builtin; refine app_strs _ rfl _ _ rfl (w1.heap.size + 1) _ _ rfl (hO.alloc _) wr.heap.size 1 [s.extract frm s.size] rfl rfl (one_at' _ _ _) (by omega) (by simp; omega) ?_; intro v1 w2 ho2 hg2 hk2; replace hB := (hB.alloc hB.size _).grown hg2 (by simp; have := hB.size; omega) (fun k hk => by have := (hk2 k hk).1; omega); clear hg2 hk2)
        | (go_at_call 26; go_fit (joined_own ho2 (by simp) (by simp; omega) (by rw [HTOT.out]; have := HLE.out; omega)); rintro e w3 ⟨rfl, hb3⟩))
      go_ret
      exact ⟨by rw [HTOT.out]; rfl, hB.trans (hb3.mono hB.size)⟩
theorem impl_escape (s : ByteArray) (w : World) (hs : s.size ≤ maxLen) : Calls Tryz.prog 131 #[.string s] w fun e w' => e = .returned (.string (escS s)) ∧ Below w.heap.size w w' := by
  unfold maxLen at hs
  unfold escS
  by_cases h : 2000 < s.size
  · rw [if_pos h]
    go_enter Tryz.func131, Tryz.ntmps131
    go_wp2
    go_ret
    exact ⟨rfl, Below.refl _ _⟩
  · rw [if_neg h]
    exact impl_esc s w (by omega)
end Go.Proofs.YtgcfognljkebjaaGreatDoor
