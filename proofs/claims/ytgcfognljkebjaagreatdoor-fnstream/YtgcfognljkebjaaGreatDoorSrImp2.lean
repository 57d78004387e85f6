/- What impl.stanzaParts answers. -/
import Derived.Test.YtgcfognljkebjaaGreatDoorSrImp1
namespace Go.Proofs.YtgcfognljkebjaaGreatDoor
set_option linter.unusedSimpArgs false
set_option linter.unusedVariables false
open Go.RowKit Go.Joins

def plI (T : List UInt8) : List UInt8 := if 20000 < T.length then [] else if okP T = true then (unAll T).all else []
theorem impl_plainT (T : List UInt8) (w : World) (hs : T.length ≤ 2000000) : Calls Tryz.prog 122 #[.string (strOf T)] w fun e w' => (∃ c, e = .returned (.agg #[.string (strOf (plI T)), .int .i64 0, .int .i64 c])) ∧ Below w.heap.size w w' := by
  refine (impl_plain (strOf T) w (by rw [strOf_size]; unfold maxLen; omega)).mono ?_
  rintro e w' ⟨rfl, hb⟩
  refine ⟨?_, hb⟩
  unfold plnV plI
  rw [strOf_size, strOf_data]
  split
  · exact ⟨2, rfl⟩
  · split
    · exact ⟨0, rfl⟩
    · exact ⟨3, rfl⟩
theorem plI_le (T : List UInt8) : (plI T).length ≤ T.length := by
  unfold plI
  split
  · simp
  · split
    · exact unAll_len T
    · simp
theorem plI_esc {b : List UInt8} (h : b.length ≤ 400) : plI (escL b) = b := by
  have hl := escL_len b
  obtain ⟨h1, h2⟩ := okP_esc (T := escL b) rfl
  unfold plI
  rw [if_neg (by omega), h1, if_pos (by simp; omega), h2]
theorem trimB_le (l : List UInt8) (c : UInt8) : (Lib.trimB l c).length ≤ l.length := by
  unfold Lib.trimB Lib.trimRightB Lib.trimLeftB
  refine Nat.le_trans ((List.dropWhile_sublist _).length_le) ?_
  rw [List.length_reverse]
  exact Nat.le_trans ((List.dropWhile_sublist _).length_le) (by rw [List.length_reverse]; exact Nat.le_refl _)
theorem trimPre_le (l p : List UInt8) : (Lib.trimPrefix l p).length ≤ l.length := by
  unfold Lib.trimPrefix
  split
  · simp
  · exact Nat.le_refl _
theorem trimSuf_le (l p : List UInt8) : (Lib.trimSuffix l p).length ≤ l.length := by
  unfold Lib.trimSuffix
  split
  · simp
  · exact Nat.le_refl _
theorem splitK_le (sep : List UInt8) : ∀ (k : Nat) (s : List UInt8), ∀ f ∈ Lib.splitK sep 0 k s, f.length ≤ s.length
  | 0, s, f, hf => by
    unfold Lib.splitK at hf
    rw [List.mem_singleton] at hf
    rw [hf]
    exact Nat.le_refl _
  | k + 1, s, f, hf => by
    unfold Lib.splitK at hf
    split at hf
    · rw [List.mem_singleton] at hf
      rw [hf]
      exact Nat.le_refl _
    · rcases List.mem_cons.1 hf with rfl | hf
      · simp; omega
      · have := splitK_le sep k _ f hf
        simp at this
        omega
/-- The box that is read into, the box of the answer, the words. -/
def SBox (w W : World) (g : Nat) (x : StL) (ws : List ByteArray) : Prop := Arr W g 70 (stC x) ∧ Arr W w.heap.size 70 (stC zeroL) ∧ Arr W (w.heap.size + 1) 9 (ws.map Value.string) ∧ Below w.heap.size w W ∧ w.heap.size + 1 < g
theorem SBox.on {w W W2 : World} {g : Nat} {x : StL} {ws : List ByteArray} (h : SBox w W g x ws) (hb : Below W.heap.size W W2) : SBox w W2 g x ws :=
  ⟨arr_below h.1 hb, arr_below h.2.1 hb, arr_below h.2.2.1 hb, h.2.2.2.1.trans (hb.mono h.2.2.2.1.size), h.2.2.2.2⟩
theorem SBox.trim {w W W2 : World} {g : Nat} {x : StL} {ws : List ByteArray} (h : SBox w W g x ws) (hb : W2 = W ∨ W2 = W.drew) : SBox w W2 g x ws := by
  rcases hb with rfl | rfl
  · exact h
  · exact h.on (Below.refl _ _).drew
theorem SBox.put {w W : World} {g : Nat} {x y : StL} {ws : List ByteArray} (h : SBox w W g x ws) (i : Nat) (v : Value) (e : (stC x).set i v = stC y) : SBox w (W.setCell ⟨g, i, none⟩ v) g y ws :=
  ⟨e ▸ h.1.put i v, arr_other h.2.1 _ _ _ (by have := h.2.2.2.2; omega), arr_other h.2.2.1 _ _ _ (by have := h.2.2.2.2; omega), h.2.2.2.1.setCell (p := ⟨g, i, none⟩) (by show w.heap.size ≤ g; have := h.2.2.2.2; omega) v, h.2.2.2.2⟩
theorem SBox.all {w W : World} {g : Nat} {x : StL} {ws : List ByteArray} (h : SBox w W g x ws) (y : StL) : SBox w ((((((W.setCell ⟨g, 0, none⟩ (.string (strOf y.k))).setCell ⟨g, 1, none⟩ (.string (strOf y.t))).setCell ⟨g, 2, none⟩ (.string (strOf y.f))).setCell ⟨g, 3, none⟩ (.string (strOf y.o))).setCell ⟨g, 4, none⟩ (.int .i64 y.n)).setCell ⟨g, 5, none⟩ (.string (strOf y.b))) g y ws := by
  have h0 := h.put (y := { x with k := y.k }) 0 (.string (strOf y.k)) rfl
  have h1 := h0.put (y := { x with k := y.k, t := y.t }) 1 (.string (strOf y.t)) rfl
  have h2 := h1.put (y := { x with k := y.k, t := y.t, f := y.f }) 2 (.string (strOf y.f)) rfl
  have h3 := h2.put (y := { x with k := y.k, t := y.t, f := y.f, o := y.o }) 3 (.string (strOf y.o)) rfl
  have h4 := h3.put (y := { x with k := y.k, t := y.t, f := y.f, o := y.o, n := y.n }) 4 (.int .i64 y.n) rfl
  exact h4.put (y := y) 5 (.string (strOf y.b)) rfl
theorem SBox.word {w W : World} {g : Nat} {x : StL} {ws : List ByteArray} (h : SBox w W g x ws) (k : Nat) (hk : k < ws.length) : W.cell? ⟨w.heap.size + 1, k, none⟩ = some (.string ws[k]) := by
  rw [h.2.2.1.cell, List.getElem?_map, List.getElem?_eq_getElem hk]
  rfl
theorem parts_start {w w4 : World} {nd : Nat} {ws : List Value} {o : Obj} (hb : Below ((((w.alloc (.cells (stC zeroL).toArray 70)).drewN nd).alloc (.cells ws.toArray 9)).alloc o).heap.size ((((w.alloc (.cells (stC zeroL).toArray 70)).drewN nd).alloc (.cells ws.toArray 9)).alloc o) w4) :
    Arr w4 w.heap.size 70 (stC zeroL) ∧ Arr w4 (w.heap.size + 1) 9 ws ∧ Below w.heap.size w w4 ∧ w.heap.size + 1 < w4.heap.size := by
  obtain ⟨W1, hW1⟩ : ∃ W1, W1 = (w.alloc (.cells (stC zeroL).toArray 70)).drewN nd := ⟨_, rfl⟩
  have hsz : W1.heap.size = w.heap.size + 1 := by rw [hW1]; exact World.size_alloc ..
  have hA : Arr W1 w.heap.size 70 (stC zeroL) := by rw [hW1]; exact Arr.fresh w 70 (stC zeroL)
  have hB : Below w.heap.size w W1 := by rw [hW1]; exact below_drewN ((Below.refl _ _).alloc (Nat.le_refl _) _) nd
  rw [← hW1] at hb
  have h2 := below_one hb
  have h1 := below_one h2
  have hC : Arr w4 W1.heap.size 9 ws := (h2.block _ (by simp)).trans (Arr.fresh W1 9 ws)
  rw [hsz] at hC
  exact ⟨arr_below hA h1, hC, hB.trans (h1.mono (by omega)), arr_lt hC⟩
theorem parts_cell (w : World) (nd : Nat) (ws : Array Value) (w0 : ByteArray) : ((((w.alloc (.cells (stC zeroL).toArray 70)).drewN nd).alloc (.cells ws 9)).alloc (.cells #[.string w0] 9)).cell? ⟨w.heap.size + 1 + 1, 0, none⟩ = some (.string w0) := by
  have := one_at (((w.alloc (.cells (stC zeroL).toArray 70)).drewN nd).alloc (.cells ws 9)) w0 9
  rw [World.size_alloc, show ((w.alloc (.cells (stC zeroL).toArray 70)).drewN nd).heap.size = w.heap.size + 1 from World.size_alloc ..] at this
  exact this
theorem words_data (st : List UInt8) : (Lib.splitB ⟨#[32]⟩ 0 (Lib.countB (strOf st) ⟨#[32]⟩) (strOf st)).map (·.data.toList) = Lib.split st [32] := by
  rw [Lib.splitB_data, strOf_data]
  rfl
theorem withI_k (x : StL) (N V : List UInt8) : (withI numI x N V).k = x.k := by
  unfold withI
  repeat' split
  all_goals rfl
theorem foldI_k : ∀ (l : List (List UInt8)) (x : StL), (l.foldl (fieldI numI) x).k = x.k
  | [], x => rfl
  | F :: l, x => by
    rw [List.foldl_cons, foldI_k l]
    exact withI_k _ _ _
set_option maxRecDepth 100000 in
set_option maxHeartbeats 4000000 in
theorem impl_stparts (s : ByteArray) (w : World) (hs : s.size ≤ 20000) (hm : MaxL w) (hE : ErrV w) :
    Calls Tryz.prog 108 #[.string s] w fun e w' => e = .returned (stLV (rdI numI plI s.data.toList)) ∧ Below w.heap.size w w' := by
  have hlen := size_data s
  obtain ⟨X, hX⟩ : ∃ X, X = rdI numI plI s.data.toList := ⟨_, rfl⟩
  rw [← hX]
  have HX := Lib.hid hX
  clear hX
  obtain ⟨m, hm0⟩ := hm
  have hmA : ∀ W, Below w.heap.size w W → W.cell? ⟨0, 0, none⟩ = some (.int .i64 m) := fun W h => (h.cell (p := ⟨0, 0, none⟩) (lt_of_cellJ hm0)).trans hm0
  have HM := Lib.hid hmA
  have HER := Lib.hid (fun (W : World) (h : Below w.heap.size w W) => hE.below h)
  clear hmA hm0 hE
  have c1 := cut_le s.data.toList 62
  have i1 : ∀ W, Below w.heap.size w W → _ := fun W h => Tryz.strings_Cut s ⟨#[62]⟩ m W (by omega) (HM.out W h)
  rw [show (⟨#[62]⟩ : ByteArray).data.toList = [62] from rfl] at i1
  have HW1 : Hid (wordsI s.data.toList = Lib.split (Lib.trimSuffix (Lib.trimPrefix (Lib.cut s.data.toList [62]).1 [60]) [47]) [32]) := Lib.hid rfl
  have HX2 : Hid (X = { (wordsI s.data.toList).tail.foldl (fieldI numI) { zeroL with k := (wordsI s.data.toList).headD [] } with b := plI (Lib.trimSuffix (Lib.cut s.data.toList [62]).2.1 (60 :: 47 :: ((wordsI s.data.toList).headD [] ++ [62]))) }) := HX
  obtain ⟨A, R, z, hcut⟩ : ∃ A R z, Lib.cut s.data.toList [62] = (A, R, z) := ⟨_, _, _, rfl⟩
  rw [hcut] at i1 HW1 HX2 c1
  dsimp only at i1 HW1 HX2 c1
  simp only [strOf_back] at i1
  have i2 := fun W => Tryz.strings_TrimPrefix (strOf A) ⟨#[60]⟩ W
  rw [strOf_data, show (⟨#[60]⟩ : ByteArray).data.toList = [60] from rfl] at i2
  simp only [strOf_back] at i2
  have l2 := trimPre_le A [60]
  obtain ⟨B, hB⟩ : ∃ B, Lib.trimPrefix A [60] = B := ⟨_, rfl⟩
  rw [hB] at i2 HW1 l2
  have i3 := fun W => Tryz.strings_TrimSuffix (strOf B) ⟨#[47]⟩ W (by rw [strOf_size]; omega)
  rw [strOf_data, show (⟨#[47]⟩ : ByteArray).data.toList = [47] from rfl] at i3
  simp only [strOf_back] at i3
  have l3 := trimSuf_le B [47]
  obtain ⟨C, hC⟩ : ∃ C, Lib.trimSuffix B [47] = C := ⟨_, rfl⟩
  rw [hC] at i3 HW1 l3
  have i4 : ∀ W, Below w.heap.size w W → _ := fun W h => Tryz.strings_Split (strOf C) ⟨#[32]⟩ m W (by rw [strOf_size]; omega) (HM.out W h) (by decide)
  have hwd := words_data C
  have hwl := Lib.splitB_all ⟨#[32]⟩ (by decide) 0 (Lib.countB (strOf C) ⟨#[32]⟩) (strOf C) rfl
  obtain ⟨ws, hws⟩ : ∃ ws, Lib.splitB ⟨#[32]⟩ 0 (Lib.countB (strOf C) ⟨#[32]⟩) (strOf C) = ws := ⟨_, rfl⟩
  rw [hws] at i4 hwd hwl
  obtain ⟨q, hq⟩ : ∃ q, Lib.countB (strOf C) ⟨#[32]⟩ = q := ⟨_, rfl⟩
  rw [hq] at i4 hwl
  have hq2 : q ≤ 2000000 := by
    rw [← hq]
    exact Nat.le_trans (Lib.countB_le ⟨#[32]⟩ (by decide) _ (strOf C) (Nat.le_refl _)) (by rw [strOf_size]; omega)
  have hwb : ∀ f ∈ ws, f.size ≤ 20000 := by
    intro f hf
    have := splitK_le [32] _ C f.data.toList (show f.data.toList ∈ Lib.split C [32] by rw [← hwd]; exact List.mem_map_of_mem hf)
    rw [size_data] at this
    omega
  have HWS : Hid (wordsI s.data.toList = ws.map (·.data.toList)) := Lib.hid (by rw [HW1.out, hwd])
  clear hcut hB hC hwd hws hq HW1 HX l2 l3
  obtain ⟨w0, wt, rfl⟩ : ∃ w0 wt, ws = w0 :: wt := by
    cases ws with
    | nil => simp at hwl
    | cons a l => exact ⟨a, l, rfl⟩
  have hw0 : w0.size ≤ 20000 := hwb w0 (List.mem_cons_self ..)
  have hwt : wt.length = q := by simpa using hwl
  subst hwt
  have HWB := Lib.hid hwb
  rw [HWS.out] at HX2
  simp only [List.map_cons, List.tail_cons, List.headD_cons] at HX2
  clear hwb hwl HWS
  have HB0 : Hid (∀ n, Below w.heap.size w ((w.alloc (.cells #[.string ⟨#[]⟩, .string ⟨#[]⟩, .string ⟨#[]⟩, .string ⟨#[]⟩, .int .i64 0, .string ⟨#[]⟩] 70)).drewN n)) := Lib.hid (fun n => below_drewN ((Below.refl _ _).alloc (Nat.le_refl _) _) n)
  have HB00 : Hid (Below w.heap.size w (w.alloc (.cells #[.string ⟨#[]⟩, .string ⟨#[]⟩, .string ⟨#[]⟩, .string ⟨#[]⟩, .int .i64 0, .string ⟨#[]⟩] 70))) := Lib.hid ((Below.refl _ _).alloc (Nat.le_refl _) _)
  by_cases hwn : wt = []
  · subst hwn
    go_enter Tryz.func108, Tryz.ntmps108
    go_wp2_with (first
      | (go_at_call 117; go_fit (i1 _ HB00.out); rintro e w1 ⟨rfl, nd, rfl⟩)
      | (go_at_call 119; go_fit (i2 _); rintro e w1 ⟨rfl, rfl⟩)
      | (go_at_call 118; go_fit (i3 _); rintro e w1 ⟨rfl, rfl⟩)
      | (go_at_call 25; go_fit (i4 _ (HB0.out _)); rintro e w1 ⟨rfl, rfl⟩)
      | (go_at_call 26; go_fit (joined_at _ w0 _ (by omega) (parts_cell w nd _ w0)); rintro e w4 ⟨rfl, hb⟩; obtain ⟨hA, hC, hB, hz⟩ := parts_start hb; have HS := Lib.hid (And.intro hA (And.intro hC hB)); clear hb hA hC hB))
    go_loopw [33] (fun i W => ∃ (k : Nat), k ≤ ([] : List ByteArray).length ∧ i = .int .i64 (k : Int) ∧ SBox w W w4.heap.size (((([] : List ByteArray).take k).map (fun (f : ByteArray) => f.data.toList)).foldl (fieldI numI) { zeroL with k := w0.data.toList }) (w0 :: ([] : List ByteArray))) (fun i _ => ([] : List ByteArray).length - (intOf i).toNat)
    case atStart =>
      exact ⟨0, Nat.zero_le _, rfl, Arr.fresh w4 70 (stC { zeroL with k := w0.data.toList }), arr_alloc HS.out.1 _, arr_alloc HS.out.2.1 _, HS.out.2.2.alloc HS.out.2.2.size _, hz⟩
    case round =>
      obtain ⟨g, hg⟩ : ∃ g, g = w4.heap.size := ⟨_, rfl⟩
      rw [← hg] at hrel ⊢
      clear hg
      obtain ⟨k, hk, rfl, hSB⟩ := hrel
      have HSB := Lib.hid hSB
      obtain ⟨x, hx⟩ : ∃ x, ((([] : List ByteArray).take k).map (fun (f : ByteArray) => f.data.toList)).foldl (fieldI numI) { zeroL with k := w0.data.toList } = x := ⟨_, rfl⟩
      rw [hx] at HSB
      have HXK := Lib.hid hx
      clear hSB hx
      by_cases hlt : k < ([] : List ByteArray).length
      · exact absurd hlt (by simp)
      · obtain ⟨a0, a1, a2, a3, a4, a5, f0, f1, f2, f3, f4, f5⟩ := arr_six HSB.out.1
        have hkx : x.k = w0.data.toList := by rw [← HXK.out, foldI_k]
        have hkw : k = ([] : List ByteArray).length := by omega
        subst hkw
        rw [List.take_length] at HXK
        rw [HXK.out] at HX2
        have HX3 : Hid (X = { x with b := plI (Lib.trimSuffix R (60 :: 47 :: (x.k ++ [62]))) }) := Lib.hid (by rw [HX2.out, hkx])
        have hkl : x.k.length ≤ 20000 := by rw [hkx, size_data]; exact hw0
        have i5 := fun W => impl_endtag (strOf x.k) W (by rw [strOf_size]; omega)
        rw [strOf_data] at i5
        obtain ⟨E, hE⟩ : ∃ E, 60 :: 47 :: (x.k ++ [62]) = E := ⟨_, rfl⟩
        rw [hE] at i5 HX3
        have i6 := fun W => Tryz.strings_TrimSuffix (strOf R) (strOf E) W (by rw [strOf_size]; omega)
        rw [strOf_data, strOf_data] at i6
        simp only [strOf_back] at i6
        have l6 := trimSuf_le R E
        obtain ⟨G, hG⟩ : ∃ G, Lib.trimSuffix R E = G := ⟨_, rfl⟩
        rw [hG] at i6 HX3 l6
        have i7 := fun W => impl_plainT G W (by omega)
        obtain ⟨Z, hZ⟩ : ∃ Z, plI G = Z := ⟨_, rfl⟩
        rw [hZ] at i7 HX3
        have hfl : ∀ (c : Int) (W : World), (Instr.field 161 (.agg #[.string (strOf Z), .int .i64 0, .int .i64 c]) 0).run Tryz.prog W = .ok (.string (strOf Z)) W := fun _ _ => by kernel_rfl
        clear hE hG hZ hkx hkl l6 HXK HX2 i1 i2 i3 i4
        go_wp2_with (first
          | (go_at_call 123; go_fit (i5 _); rintro e w5 ⟨rfl, hb⟩; have HS5 := Lib.hid (HSB.out.on hb); clear hb)
          | (go_at_call 118; go_fit (i6 _); rintro e w6 ⟨rfl, rfl⟩)
          | (go_at_call 122; go_fit (i7 _); rintro e w7 ⟨⟨cc, rfl⟩, hb⟩; have HS7 := Lib.hid (HS5.out.on hb); clear hb; obtain ⟨a0, a1, a2, a3, a4, a5, f0, f1, f2, f3, f4, f5⟩ := arr_six HS7.out.1; obtain ⟨b0, b1, b2, b3, b4, b5, g0, g1, g2, g3, g4, g5⟩ := arr_six HS7.out.2.1; have hzz := arr_lt HS7.out.2.1; have hgg := HS7.out.2.2.2.2; have hg1 : w.heap.size ≠ g := (by omega); have hg2 : g ≠ w.heap.size := (by omega)))
        exact bodyPost_ret (v := stLV { x with b := Z }) (by simp [results, Tryz.results108, go_sem, b0, b1, b2, b3, b4, b5, hzz, stLV]; try omega) rfl ⟨by rw [HX3.out], below_set6 (HS7.out.2.2.2.1.setCell (p := ⟨g, 5, none⟩) (by show w.heap.size ≤ g; omega) _) (Nat.le_refl _) _ _ _ _ _ _⟩
  · have hwn2 : 0 < wt.length := List.length_pos_iff.2 hwn
    go_enter Tryz.func108, Tryz.ntmps108
    go_wp2_with (first
      | (go_at_call 117; go_fit (i1 _ HB00.out); rintro e w1 ⟨rfl, nd, rfl⟩)
      | (go_at_call 119; go_fit (i2 _); rintro e w1 ⟨rfl, rfl⟩)
      | (go_at_call 118; go_fit (i3 _); rintro e w1 ⟨rfl, rfl⟩)
      | (go_at_call 25; go_fit (i4 _ (HB0.out _)); rintro e w1 ⟨rfl, rfl⟩)
      | (go_at_call 26; go_fit (joined_at _ w0 _ (by omega) (parts_cell w nd _ w0)); rintro e w4 ⟨rfl, hb⟩; obtain ⟨hA, hC, hB, hz⟩ := parts_start hb; have HS := Lib.hid (And.intro hA (And.intro hC hB)); clear hb hA hC hB))
    go_loopw [33] (fun i W => ∃ (k : Nat), k ≤ wt.length ∧ i = .int .i64 (k : Int) ∧ SBox w W w4.heap.size (((wt.take k).map (fun (f : ByteArray) => f.data.toList)).foldl (fieldI numI) { zeroL with k := w0.data.toList }) (w0 :: wt)) (fun i _ => wt.length - (intOf i).toNat)
    case atStart =>
      exact ⟨0, Nat.zero_le _, rfl, Arr.fresh w4 70 (stC { zeroL with k := w0.data.toList }), arr_alloc HS.out.1 _, arr_alloc HS.out.2.1 _, HS.out.2.2.alloc HS.out.2.2.size _, hz⟩
    case round =>
      obtain ⟨g, hg⟩ : ∃ g, g = w4.heap.size := ⟨_, rfl⟩
      rw [← hg] at hrel ⊢
      clear hg
      obtain ⟨k, hk, rfl, hSB⟩ := hrel
      have HSB := Lib.hid hSB
      obtain ⟨x, hx⟩ : ∃ x, ((wt.take k).map (fun (f : ByteArray) => f.data.toList)).foldl (fieldI numI) { zeroL with k := w0.data.toList } = x := ⟨_, rfl⟩
      rw [hx] at HSB
      have HXK := Lib.hid hx
      clear hSB hx
      by_cases hlt : k < wt.length
      · have hcw := HSB.out.word (k + 1) (by simpa using hlt)
        rw [List.getElem_cons_succ] at hcw
        have hF : wt[k].size ≤ 20000 := HWB.out _ (List.mem_cons_of_mem _ (List.getElem_mem _))
        have HNX : Hid (((wt.take (k + 1)).map (fun (f : ByteArray) => f.data.toList)).foldl (fieldI numI) { zeroL with k := w0.data.toList } = fieldI numI x wt[k].data.toList) := Lib.hid (by
          rw [List.take_succ_eq_append_getElem hlt, List.map_append, List.foldl_append, HXK.out]
          rfl)
        obtain ⟨F, hFd⟩ : ∃ F, F = wt[k] := ⟨_, rfl⟩
        rw [← hFd] at hcw hF HNX
        clear hFd
        have hcw2 : wr.cell? ⟨w.heap.size + 1, 1 + k, none⟩ = some (.string F) := by rw [Nat.add_comm 1 k]; exact hcw
        have c2 := cut_le F.data.toList 61
        have jc := Tryz.strings_Cut F ⟨#[61]⟩ m wr (by omega) (HM.out wr HSB.out.2.2.2.1)
        rw [show (⟨#[61]⟩ : ByteArray).data.toList = [61] from rfl] at jc
        have hFl := size_data F
        obtain ⟨y, hy⟩ : ∃ y, fieldI numI x F.data.toList = y := ⟨_, rfl⟩
        have HYY := Lib.hid hy
        unfold fieldI at hy
        obtain ⟨N, V, z2, hcut2⟩ : ∃ N V z2, Lib.cut F.data.toList [61] = (N, V, z2) := ⟨_, _, _, rfl⟩
        rw [hcut2] at jc c2 hy
        dsimp only at jc c2 hy
        simp only [strOf_back] at jc
        have l4 := trimB_le V 39
        have j1 : ∀ W, Calls Tryz.prog 121 #[.string (strOf V), .string ⟨#[39]⟩] W fun e w' => e = .returned (.string ⟨(Lib.trimB (strOf V).data.toList 39).toArray⟩) ∧ (w' = W ∨ w' = W.drew) := fun W => Tryz.strings_Trim_one (strOf V) 39 (by decide) W (by rw [strOf_size]; omega)
        rw [strOf_data] at j1
        simp only [strOf_back] at j1
        obtain ⟨U, hU⟩ : ∃ U, Lib.trimB V 39 = U := ⟨_, rfl⟩
        rw [hU] at j1 hy l4
        have hUs : (strOf U).size ≤ 2000000 := by rw [strOf_size]; omega
        have j3 := fun W hE => impl_withfield x N U W (by omega) hE
        rw [hy] at j3
        unfold stLV at j3
        clear hcut2 hU hy c2 l4 hFl
        go_wp2_with (go_at_call 117; go_fit jc; rintro e w1 ⟨rfl, nd2, rfl⟩)
        have h0 : SBox w ((wr.drewN nd2).drew) g x (w0 :: wt) := HSB.out.on (below_drewN (Below.refl _ _) nd2).drew
        refine wp_region_held_drew (S := fun _ => True) (by kernel_rfl) trivial (fun hHeld => ?_)
        clear jc
        generalize (wr.drewN nd2).drew = wm0 at h0 ⊢
        refine takeH (i := 1) (k := 44) (v := .string (strOf N)) rfl (by rfl) (by kernel_rfl) (by kernel_rfl) (by kernel_rfl) (fun _ _ _ h => h) (by rfl) ?_ hHeld ?_
        · intro w1 hSw; go_simp
        (try simp only [Act.put, List.setIfInBounds_toArray, List.set_cons_zero, List.set_cons_succ])
        refine takeH (i := 2) (k := 45) (v := .string (strOf V)) rfl (by rfl) (by kernel_rfl) (by kernel_rfl) (by kernel_rfl) (fun _ _ _ h => h) (by rfl) ?_ hHeld ?_
        · intro w1 hSw; go_simp
        (try simp only [Act.put, List.setIfInBounds_toArray, List.set_cons_zero, List.set_cons_succ])
        refine wpAnyH_ready (rs := [0, 3]) (by kernel_rfl) (by simp) ?_
        refine AllReadyH.cons rfl (fun K hK => ?_) (AllReadyH.cons rfl (fun K hK => ?_) AllReadyH.nil)
        · rw [if_pos (by rfl)]
          obtain ⟨a0, a1, a2, a3, a4, a5, f0, f1, f2, f3, f4, f5⟩ := arr_six h0.1
          go_simp
          refine hK.out _ _ trivial (fun _ => ?_)
          clear hK K
          (try simp only [Act.put, List.setIfInBounds_toArray, List.set_cons_zero, List.set_cons_succ])
          refine wpAnyH_ready (rs := [3]) (by kernel_rfl) (by simp) ?_
          refine AllReadyH.cons rfl (fun K hK => ?_) AllReadyH.nil
          rw [if_pos (by rfl)]
          go_simp
          go_fit (j1 _)
          rintro e wm3 ⟨rfl, hw⟩
          have h3 := h0.trim hw
          refine hK.out _ _ trivial (fun _ => ?_)
          clear hK K
          (try simp only [Act.put, List.setIfInBounds_toArray, List.set_cons_zero, List.set_cons_succ])
          refine wpAnyH_ready (rs := [4]) (by kernel_rfl) (by simp) ?_
          refine AllReadyH.cons rfl (fun K hK => ?_) AllReadyH.nil
          rw [if_pos (by rfl)]
          go_simp
          have h4 := h3.on ((Below.refl wm3.heap.size wm3).alloc (Nat.le_refl _) (.cells #[.string (strOf U)] 9))
          refine hK.out _ _ trivial (fun _ => ?_)
          clear hK K
          (try simp only [Act.put, List.setIfInBounds_toArray, List.set_cons_zero, List.set_cons_succ])
          refine wpAnyH_ready (rs := [5]) (by kernel_rfl) (by simp) ?_
          refine AllReadyH.cons rfl (fun K hK => ?_) AllReadyH.nil
          rw [if_pos (by rfl)]
          go_simp
          go_fit (joined_at _ (strOf U) _ hUs (one_at wm3 _ _))
          rintro e wm5 ⟨rfl, hb⟩
          have h5 := h4.on hb
          refine hK.out _ _ trivial (fun _ => ?_)
          clear hK K
          (try simp only [Act.put, List.setIfInBounds_toArray, List.set_cons_zero, List.set_cons_succ])
          refine wpAnyH_ready (rs := [6]) (by kernel_rfl) (by simp) ?_
          refine AllReadyH.cons rfl (fun K hK => ?_) AllReadyH.nil
          rw [if_pos (by rfl)]
          go_simp
          go_fit (j3 _ (HER.out _ h5.2.2.2.1))
          rintro e wm6 ⟨rfl, hb⟩
          have h6 := h5.on hb
          refine hK.out _ _ trivial (fun _ => ?_)
          clear hK K
          (try simp only [Act.put, List.setIfInBounds_toArray, List.set_cons_zero, List.set_cons_succ])
          refine wpAnyH_ready (rs := [7]) (by kernel_rfl) (by simp) ?_
          refine AllReadyH.cons rfl (fun K hK => ?_) AllReadyH.nil
          rw [if_pos (by rfl)]
          obtain ⟨a0, a1, a2, a3, a4, a5, f0, f1, f2, f3, f4, f5⟩ := arr_six h6.1
          go_simp
          refine hK.out _ _ trivial (fun _ => ?_)
          clear hK K
          (try simp only [Act.put, List.setIfInBounds_toArray, List.set_cons_zero, List.set_cons_succ])
          refine wpAnyH_done (by kernel_rfl) ?_ _
          go_wp2
          exact ⟨⟨k + 1, by omega, by go_num, by rw [HNX.out, HYY.out]; exact h6.all y⟩, by simp [intOf]; omega⟩
        · rw [if_pos (by rfl)]
          go_simp
          go_fit (j1 _)
          rintro e wm3 ⟨rfl, hw⟩
          have h3 := h0.trim hw
          refine hK.out _ _ trivial (fun _ => ?_)
          clear hK K
          (try simp only [Act.put, List.setIfInBounds_toArray, List.set_cons_zero, List.set_cons_succ])
          refine wpAnyH_ready (rs := [0, 4]) (by kernel_rfl) (by simp) ?_
          refine AllReadyH.cons rfl (fun K hK => ?_) (AllReadyH.cons rfl (fun K hK => ?_) AllReadyH.nil)
          · rw [if_pos (by rfl)]
            obtain ⟨a0, a1, a2, a3, a4, a5, f0, f1, f2, f3, f4, f5⟩ := arr_six h3.1
            go_simp
            refine hK.out _ _ trivial (fun _ => ?_)
            clear hK K
            (try simp only [Act.put, List.setIfInBounds_toArray, List.set_cons_zero, List.set_cons_succ])
            refine wpAnyH_ready (rs := [4]) (by kernel_rfl) (by simp) ?_
            refine AllReadyH.cons rfl (fun K hK => ?_) AllReadyH.nil
            rw [if_pos (by rfl)]
            go_simp
            have h4 := h3.on ((Below.refl wm3.heap.size wm3).alloc (Nat.le_refl _) (.cells #[.string (strOf U)] 9))
            refine hK.out _ _ trivial (fun _ => ?_)
            clear hK K
            (try simp only [Act.put, List.setIfInBounds_toArray, List.set_cons_zero, List.set_cons_succ])
            refine wpAnyH_ready (rs := [5]) (by kernel_rfl) (by simp) ?_
            refine AllReadyH.cons rfl (fun K hK => ?_) AllReadyH.nil
            rw [if_pos (by rfl)]
            go_simp
            go_fit (joined_at _ (strOf U) _ hUs (one_at wm3 _ _))
            rintro e wm5 ⟨rfl, hb⟩
            have h5 := h4.on hb
            refine hK.out _ _ trivial (fun _ => ?_)
            clear hK K
            (try simp only [Act.put, List.setIfInBounds_toArray, List.set_cons_zero, List.set_cons_succ])
            refine wpAnyH_ready (rs := [6]) (by kernel_rfl) (by simp) ?_
            refine AllReadyH.cons rfl (fun K hK => ?_) AllReadyH.nil
            rw [if_pos (by rfl)]
            go_simp
            go_fit (j3 _ (HER.out _ h5.2.2.2.1))
            rintro e wm6 ⟨rfl, hb⟩
            have h6 := h5.on hb
            refine hK.out _ _ trivial (fun _ => ?_)
            clear hK K
            (try simp only [Act.put, List.setIfInBounds_toArray, List.set_cons_zero, List.set_cons_succ])
            refine wpAnyH_ready (rs := [7]) (by kernel_rfl) (by simp) ?_
            refine AllReadyH.cons rfl (fun K hK => ?_) AllReadyH.nil
            rw [if_pos (by rfl)]
            obtain ⟨a0, a1, a2, a3, a4, a5, f0, f1, f2, f3, f4, f5⟩ := arr_six h6.1
            go_simp
            refine hK.out _ _ trivial (fun _ => ?_)
            clear hK K
            (try simp only [Act.put, List.setIfInBounds_toArray, List.set_cons_zero, List.set_cons_succ])
            refine wpAnyH_done (by kernel_rfl) ?_ _
            go_wp2
            exact ⟨⟨k + 1, by omega, by go_num, by rw [HNX.out, HYY.out]; exact h6.all y⟩, by simp [intOf]; omega⟩
          · rw [if_pos (by rfl)]
            go_simp
            have h4 := h3.on ((Below.refl wm3.heap.size wm3).alloc (Nat.le_refl _) (.cells #[.string (strOf U)] 9))
            refine hK.out _ _ trivial (fun _ => ?_)
            clear hK K
            (try simp only [Act.put, List.setIfInBounds_toArray, List.set_cons_zero, List.set_cons_succ])
            refine wpAnyH_ready (rs := [0, 5]) (by kernel_rfl) (by simp) ?_
            refine AllReadyH.cons rfl (fun K hK => ?_) (AllReadyH.cons rfl (fun K hK => ?_) AllReadyH.nil)
            · rw [if_pos (by rfl)]
              obtain ⟨a0, a1, a2, a3, a4, a5, f0, f1, f2, f3, f4, f5⟩ := arr_six h4.1
              go_simp
              refine hK.out _ _ trivial (fun _ => ?_)
              clear hK K
              (try simp only [Act.put, List.setIfInBounds_toArray, List.set_cons_zero, List.set_cons_succ])
              refine wpAnyH_ready (rs := [5]) (by kernel_rfl) (by simp) ?_
              refine AllReadyH.cons rfl (fun K hK => ?_) AllReadyH.nil
              rw [if_pos (by rfl)]
              go_simp
              go_fit (joined_at _ (strOf U) _ hUs (one_at wm3 _ _))
              rintro e wm5 ⟨rfl, hb⟩
              have h5 := h4.on hb
              refine hK.out _ _ trivial (fun _ => ?_)
              clear hK K
              (try simp only [Act.put, List.setIfInBounds_toArray, List.set_cons_zero, List.set_cons_succ])
              refine wpAnyH_ready (rs := [6]) (by kernel_rfl) (by simp) ?_
              refine AllReadyH.cons rfl (fun K hK => ?_) AllReadyH.nil
              rw [if_pos (by rfl)]
              go_simp
              go_fit (j3 _ (HER.out _ h5.2.2.2.1))
              rintro e wm6 ⟨rfl, hb⟩
              have h6 := h5.on hb
              refine hK.out _ _ trivial (fun _ => ?_)
              clear hK K
              (try simp only [Act.put, List.setIfInBounds_toArray, List.set_cons_zero, List.set_cons_succ])
              refine wpAnyH_ready (rs := [7]) (by kernel_rfl) (by simp) ?_
              refine AllReadyH.cons rfl (fun K hK => ?_) AllReadyH.nil
              rw [if_pos (by rfl)]
              obtain ⟨a0, a1, a2, a3, a4, a5, f0, f1, f2, f3, f4, f5⟩ := arr_six h6.1
              go_simp
              refine hK.out _ _ trivial (fun _ => ?_)
              clear hK K
              (try simp only [Act.put, List.setIfInBounds_toArray, List.set_cons_zero, List.set_cons_succ])
              refine wpAnyH_done (by kernel_rfl) ?_ _
              go_wp2
              exact ⟨⟨k + 1, by omega, by go_num, by rw [HNX.out, HYY.out]; exact h6.all y⟩, by simp [intOf]; omega⟩
            · rw [if_pos (by rfl)]
              go_simp
              go_fit (joined_at _ (strOf U) _ hUs (one_at wm3 _ _))
              rintro e wm5 ⟨rfl, hb⟩
              have h5 := h4.on hb
              refine hK.out _ _ trivial (fun _ => ?_)
              clear hK K
              (try simp only [Act.put, List.setIfInBounds_toArray, List.set_cons_zero, List.set_cons_succ])
              refine wpAnyH_ready (rs := [0]) (by kernel_rfl) (by simp) ?_
              refine AllReadyH.cons rfl (fun K hK => ?_) AllReadyH.nil
              rw [if_pos (by rfl)]
              obtain ⟨a0, a1, a2, a3, a4, a5, f0, f1, f2, f3, f4, f5⟩ := arr_six h5.1
              go_simp
              refine hK.out _ _ trivial (fun _ => ?_)
              clear hK K
              (try simp only [Act.put, List.setIfInBounds_toArray, List.set_cons_zero, List.set_cons_succ])
              refine wpAnyH_ready (rs := [6]) (by kernel_rfl) (by simp) ?_
              refine AllReadyH.cons rfl (fun K hK => ?_) AllReadyH.nil
              rw [if_pos (by rfl)]
              go_simp
              go_fit (j3 _ (HER.out _ h5.2.2.2.1))
              rintro e wm6 ⟨rfl, hb⟩
              have h6 := h5.on hb
              refine hK.out _ _ trivial (fun _ => ?_)
              clear hK K
              (try simp only [Act.put, List.setIfInBounds_toArray, List.set_cons_zero, List.set_cons_succ])
              refine wpAnyH_ready (rs := [7]) (by kernel_rfl) (by simp) ?_
              refine AllReadyH.cons rfl (fun K hK => ?_) AllReadyH.nil
              rw [if_pos (by rfl)]
              obtain ⟨a0, a1, a2, a3, a4, a5, f0, f1, f2, f3, f4, f5⟩ := arr_six h6.1
              go_simp
              refine hK.out _ _ trivial (fun _ => ?_)
              clear hK K
              (try simp only [Act.put, List.setIfInBounds_toArray, List.set_cons_zero, List.set_cons_succ])
              refine wpAnyH_done (by kernel_rfl) ?_ _
              go_wp2
              exact ⟨⟨k + 1, by omega, by go_num, by rw [HNX.out, HYY.out]; exact h6.all y⟩, by simp [intOf]; omega⟩
      · obtain ⟨a0, a1, a2, a3, a4, a5, f0, f1, f2, f3, f4, f5⟩ := arr_six HSB.out.1
        have hkx : x.k = w0.data.toList := by rw [← HXK.out, foldI_k]
        have hkw : k = wt.length := by omega
        subst hkw
        rw [List.take_length] at HXK
        rw [HXK.out] at HX2
        have HX3 : Hid (X = { x with b := plI (Lib.trimSuffix R (60 :: 47 :: (x.k ++ [62]))) }) := Lib.hid (by rw [HX2.out, hkx])
        have hkl : x.k.length ≤ 20000 := by rw [hkx, size_data]; exact hw0
        have i5 := fun W => impl_endtag (strOf x.k) W (by rw [strOf_size]; omega)
        rw [strOf_data] at i5
        obtain ⟨E, hE⟩ : ∃ E, 60 :: 47 :: (x.k ++ [62]) = E := ⟨_, rfl⟩
        rw [hE] at i5 HX3
        have i6 := fun W => Tryz.strings_TrimSuffix (strOf R) (strOf E) W (by rw [strOf_size]; omega)
        rw [strOf_data, strOf_data] at i6
        simp only [strOf_back] at i6
        have l6 := trimSuf_le R E
        obtain ⟨G, hG⟩ : ∃ G, Lib.trimSuffix R E = G := ⟨_, rfl⟩
        rw [hG] at i6 HX3 l6
        have i7 := fun W => impl_plainT G W (by omega)
        obtain ⟨Z, hZ⟩ : ∃ Z, plI G = Z := ⟨_, rfl⟩
        rw [hZ] at i7 HX3
        have hfl : ∀ (c : Int) (W : World), (Instr.field 161 (.agg #[.string (strOf Z), .int .i64 0, .int .i64 c]) 0).run Tryz.prog W = .ok (.string (strOf Z)) W := fun _ _ => by kernel_rfl
        clear hE hG hZ hkx hkl l6 HXK HX2 i1 i2 i3 i4
        go_wp2_with (first
          | (go_at_call 123; go_fit (i5 _); rintro e w5 ⟨rfl, hb⟩; have HS5 := Lib.hid (HSB.out.on hb); clear hb)
          | (go_at_call 118; go_fit (i6 _); rintro e w6 ⟨rfl, rfl⟩)
          | (go_at_call 122; go_fit (i7 _); rintro e w7 ⟨⟨cc, rfl⟩, hb⟩; have HS7 := Lib.hid (HS5.out.on hb); clear hb; obtain ⟨a0, a1, a2, a3, a4, a5, f0, f1, f2, f3, f4, f5⟩ := arr_six HS7.out.1; obtain ⟨b0, b1, b2, b3, b4, b5, g0, g1, g2, g3, g4, g5⟩ := arr_six HS7.out.2.1; have hzz := arr_lt HS7.out.2.1; have hgg := HS7.out.2.2.2.2; have hg1 : w.heap.size ≠ g := (by omega); have hg2 : g ≠ w.heap.size := (by omega)))
        exact bodyPost_ret (v := stLV { x with b := Z }) (by simp [results, Tryz.results108, go_sem, b0, b1, b2, b3, b4, b5, hzz, stLV]; try omega) rfl ⟨by rw [HX3.out], below_set6 (HS7.out.2.2.2.1.setCell (p := ⟨g, 5, none⟩) (by show w.heap.size ≤ g; omega) _) (Nat.le_refl _) _ _ _ _ _ _⟩
end Go.Proofs.YtgcfognljkebjaaGreatDoor
