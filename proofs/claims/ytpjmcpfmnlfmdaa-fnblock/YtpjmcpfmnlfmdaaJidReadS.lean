/- What spec.l03Read and spec.JidRead answer. -/
import Derived.Test.YtpjmcpfmnlfmdaaJidReadI
namespace Go.Proofs.Ytpjmcpfmnlfmdaa
set_option linter.unusedSimpArgs false
set_option linter.unusedVariables false
open Go.RowKit

theorem ext_str (s : ByteArray) (A B C : List UInt8) (h : s.data.toList = A ++ B ++ C) (i j : Nat) (hi : i = A.length) (hj : j = A.length + B.length) : s.extract i j = strOf B := by
  apply WideShapes.bytes_inj
  rw [strOf_data, ByteArray.data_extract, Array.toList_extract, h, hi, hj]
  simp [List.extract_eq_take_drop, List.drop_append_of_le_length, List.take_append_of_le_length]
/-- What stands at l03Read's last statement. -/
abbrev ReadS (w : World) (l d r : ByteArray) (W : World) : Prop :=
  (W.cell? ⟨w.heap.size + 1, 0, none⟩ = some (.string l) ∧ W.cell? ⟨w.heap.size + 1, 1, none⟩ = some (.string d) ∧ W.cell? ⟨w.heap.size + 1, 2, none⟩ = some (.string r) ∧
   W.cell? ⟨w.heap.size, 0, none⟩ = some (cellAt W w.heap.size 0) ∧ W.cell? ⟨w.heap.size, 1, none⟩ = some (cellAt W w.heap.size 1) ∧ W.cell? ⟨w.heap.size, 2, none⟩ = some (cellAt W w.heap.size 2) ∧
   W.frozen? ⟨w.heap.size, 0, none⟩ = false ∧ W.frozen? ⟨w.heap.size, 1, none⟩ = false ∧ W.frozen? ⟨w.heap.size, 2, none⟩ = false) ∧
  (Below w.heap.size w W ∧ Arr W (w.heap.size + 1) 69 [.string l, .string d, .string r] ∧ Res W w.heap.size)
theorem readS {w W : World} {l d r : ByteArray} (hb : Below w.heap.size w W) (hA : Arr W (w.heap.size + 1) 69 [.string l, .string d, .string r]) (hr : Res W w.heap.size) : ReadS w l d r W := by
  obtain ⟨c0, c1, c2, _, _, _⟩ := arr_three hA
  obtain ⟨a, b, c, hR⟩ := id hr
  have e : ∀ i v, W.cell? ⟨w.heap.size, i, none⟩ = some v → W.cell? ⟨w.heap.size, i, none⟩ = some (cellAt W w.heap.size i) := fun i v h => by unfold cellAt; rw [h]; rfl
  exact ⟨⟨c0, c1, c2, e 0 a (hR.cell 0), e 1 b (hR.cell 1), e 2 c (hR.cell 2), hR.free 0, hR.free 1, hR.free 2⟩, hb, hA, hr⟩
theorem readS_on {w W w2 : World} {l d r : ByteArray} {S : Prop} (h : S ∧ (Below w.heap.size w W ∧ Arr W (w.heap.size + 1) 69 [.string l, .string d, .string r] ∧ Res W w.heap.size)) (h2 : Below W.heap.size W w2) : ReadS w l d r w2 :=
  readS (h.2.1.trans (h2.mono h.2.1.size)) (arr_below h.2.2.1 h2) (by obtain ⟨a, b, c, hA⟩ := h.2.2.2; exact ⟨a, b, c, arr_below hA h2⟩)
theorem arr_other {w : World} {b t : Nat} {cs : List Value} (h : Arr w b t cs) (g i : Nat) (u : Value) (hne : b ≠ g) : Arr (w.setCell ⟨g, i, none⟩ u) b t cs := by
  unfold Arr at h ⊢
  rw [← h]
  exact Below.heap_setCell w ⟨g, i, none⟩ u b (by simpa using hne)
theorem readS_store {w W : World} {l d r : ByteArray} {S : Prop} {x y z : Value} (h : S ∧ (Below w.heap.size w W ∧ Arr W (w.heap.size + 1) 69 [.string l, .string d, .string r] ∧ Res W w.heap.size)) :
    ReadS w l d r (((W.setCell ⟨w.heap.size, 0, none⟩ x).setCell ⟨w.heap.size, 1, none⟩ y).setCell ⟨w.heap.size, 2, none⟩ z) :=
  readS (below_three h.2.1 (Nat.le_refl _) x y z) (arr_other (arr_other (arr_other h.2.2.1 _ _ _ (by omega)) _ _ _ (by omega)) _ _ _ (by omega)) (by obtain ⟨a, b, c, hA⟩ := h.2.2.2; exact ⟨x, y, z, ((hA.put 0 x).put 1 y).put 2 z⟩)

/-- What l03Read answers. -/
def ReadsTo (T : List UInt8) (w : World) (e : Ending) (w' : World) : Prop :=
  (∃ x y z b, e = .returned (.tuple #[.agg #[.string x, .string y, .string z], .bool b]) ∧ b = goodR T ∧ (b = true → x = strOf (readL T).1 ∧ y = strOf (readL T).2.1 ∧ z = strOf (readL T).2.2)) ∧ Below w.heap.size w w'
theorem readsTo_no {T : List UInt8} {w : World} {x y z : ByteArray} {w' : World} (h : shapeL T = false) (hb : Below w.heap.size w w') : ReadsTo T w (.returned (.tuple #[.agg #[.string x, .string y, .string z], .bool false])) w' :=
  ⟨⟨x, y, z, false, rfl, by unfold goodR; rw [h]; rfl, fun h => by cases h⟩, hb⟩
theorem readsTo_yes {T l d r : List UInt8} {w : World} {w' : World} (h : shapeL T = true) (hr : readL T = (l, d, r)) (hb : Below w.heap.size w w') :
    ReadsTo T w (.returned (.tuple #[.agg #[.string (strOf l), .string (strOf d), .string (strOf r)], .bool (jidB (strOf l) (strOf d) (strOf r))])) w' :=
  ⟨⟨_, _, _, _, rfl, by unfold goodR; rw [h, hr]; rfl, fun _ => by rw [hr]; exact ⟨rfl, rfl, rfl⟩⟩, hb⟩
set_option maxRecDepth 100000 in
set_option maxHeartbeats 4000000 in
theorem spec_read1 (s : ByteArray) (w : World) (hs : s.size ≤ 2000000) (A : List UInt8) (R : List UInt8) (hT : s.data.toList = A ++ 47 :: R) (hA : ∀ x ∈ A, x ≠ 47) (hR : R = []) :
    Calls Try.prog 95 #[.string s] w (ReadsTo s.data.toList w) := by
  have hsize : s.size = A.length + 1 + R.length := by rw [← size_data, hT]; simp; omega
  have b1 : A.length + 1 ≤ s.size := by omega
  have b1' : (A.length : Int) + 1 ≤ (s.size : Int) := by omega
  have i1 := fun W => spec_at s 47 W (by unfold maxLen; omega)
  rw [hT, index_app 47 R A hA] at i1
  have x1 : s.extract (A.length + 1) s.size = strOf R := ext_str s (A ++ [47]) R [] (by rw [hT]; simp) _ _ (by simp) (by rw [hsize]; simp)
  have x2 : s.extract 0 A.length = strOf A := ext_str s [] A (47 :: R) (by rw [hT]; simp) _ _ rfl (by simp)
  subst hR
  have n1 : (strOf []).toList = [] := by rw [ByteArray.toList_eq]; rfl
  have n2 : (strOf []).toList.isEmpty = true := by rw [ByteArray.toList_eq]; rfl
  have HSH : Hid (shapeL s.data.toList = false) := Lib.hid (by rw [hT]; unfold shapeL; rw [cut_app hA]; rfl)
  clear hsize hT
  go_enter Try.func95, Try.ntmps95
  go_wp2_with (first
    | (go_at_call 107; go_fit (i1 _); rintro e w1 ⟨rfl, rfl⟩))
  refine bodyPost_ret (v := .tuple #[.agg #[.string ⟨#[]⟩, .string ⟨#[]⟩, .string (strOf [])], .bool false]) (by simp [results, Try.results95, go_sem]) rfl (readsTo_no HSH.out ?_)
  exact ((Below.refl _ _).alloc (Nat.le_refl _) _).alloc (by simp) _
set_option maxRecDepth 100000 in
set_option maxHeartbeats 4000000 in
theorem spec_read2 (s : ByteArray) (w : World) (hs : s.size ≤ 2000000) (A : List UInt8) (R : List UInt8) (hT : s.data.toList = A ++ 47 :: R) (hA : ∀ x ∈ A, x ≠ 47) (hR : R ≠ []) (B D : List UInt8) (hq : A.map lowC = B ++ 64 :: D) (hB : ∀ x ∈ B, x ≠ 64) (hBn : B = []) :
    Calls Try.prog 95 #[.string s] w (ReadsTo s.data.toList w) := by
  have hsize : s.size = A.length + 1 + R.length := by rw [← size_data, hT]; simp; omega
  have b1 : A.length + 1 ≤ s.size := by omega
  have b1' : (A.length : Int) + 1 ≤ (s.size : Int) := by omega
  have i1 := fun W => spec_at s 47 W (by unfold maxLen; omega)
  rw [hT, index_app 47 R A hA] at i1
  have x1 : s.extract (A.length + 1) s.size = strOf R := ext_str s (A ++ [47]) R [] (by rw [hT]; simp) _ _ (by simp) (by rw [hsize]; simp)
  have x2 : s.extract 0 A.length = strOf A := ext_str s [] A (47 :: R) (by rw [hT]; simp) _ _ rfl (by simp)
  have n1 : (strOf R).toList ≠ [] := ne_nil (by rw [strOf_size]; exact List.length_pos_iff.2 hR)
  have n2 : (strOf R).toList.isEmpty = false := not_empty (by rw [strOf_size]; exact List.length_pos_iff.2 hR)
  have i2 := fun W => spec_lower (strOf A) W (by rw [strOf_size]; omega)
  rw [strOf_data] at i2
  have hql : (A.map lowC).length ≤ 2000000 := by rw [List.length_map]; omega
  rw [hq] at i2 hql
  have i3 := fun W => spec_at (strOf (B ++ 64 :: D)) 64 W (by rw [strOf_size]; unfold maxLen; omega)
  rw [strOf_data, index_app 64 D B hB] at i3
  have x3 : (strOf (B ++ 64 :: D)).extract 0 B.length = strOf B := ext_str _ [] B (64 :: D) (by rw [strOf_data]; simp) _ _ rfl (by simp)
  have x4 : (strOf (B ++ 64 :: D)).extract (B.length + 1) (strOf (B ++ 64 :: D)).size = strOf D := ext_str _ (B ++ [64]) D [] (by rw [strOf_data]; simp) _ _ (by simp) (by rw [strOf_size]; simp; omega)
  have b2 : B.length + 1 ≤ (strOf (B ++ 64 :: D)).size := by rw [strOf_size]; simp
  have b2' : (B.length : Int) + 1 ≤ ((strOf (B ++ 64 :: D)).size : Int) := by omega
  have b3 : (strOf (B ++ 64 :: D)).size ≤ 2000000 := by rw [strOf_size]; exact hql
  have HSH : Hid (shapeL s.data.toList = false) := Lib.hid (by rw [hT]; unfold shapeL; rw [cut_app hA]; dsimp only; rw [hq, cut_app hB, hBn]; cases R <;> rfl)
  have n3 : (strOf B).toList = [] := by rw [hBn, ByteArray.toList_eq]; rfl
  have n4 : (strOf B).toList.isEmpty = true := by rw [hBn, ByteArray.toList_eq]; rfl
  clear hBn
  obtain ⟨Q, hQ⟩ : ∃ Q, Q = strOf (B ++ 64 :: D) := ⟨_, rfl⟩
  rw [← hQ] at i2 i3 x3 x4 b2 b2' b3
  clear hQ hT hql hsize
  go_enter Try.func95, Try.ntmps95
  go_wp2_with (first
    | (go_at_call 107; go_fit (i1 _); rintro e w1 ⟨rfl, rfl⟩)
    | (go_at_call 107; go_fit (i3 _); rintro e w1 ⟨rfl, rfl⟩)
    | (go_at_call 108; go_fit (i2 _); rintro e w1 ⟨rfl, hb1⟩; obtain ⟨hRes, hJ, hb2⟩ := bare_kept hb1; have hz := arr_lt hJ; obtain ⟨c0, c1, c2, f0, f1, f2⟩ := arr_three hJ; obtain ⟨p0, p1, p2, q0, q1, q2⟩ := arr_three hRes; have HRes := Lib.hid hRes; have HJ := Lib.hid hJ; clear hRes hJ))
  refine bodyPost_ret (v := .tuple #[.agg #[.string (strOf B), .string ⟨#[]⟩, .string (strOf R)], .bool false]) (by simp [results, Try.results95, go_sem, c0, c1, c2, p0, p1, p2, hz, Nat.lt_of_succ_lt hz]) rfl (readsTo_no HSH.out ?_)
  exact below_three ((below_one (below_one hb1)).setCell (Nat.le_succ _) _) (Nat.le_refl _) _ _ _
set_option maxRecDepth 100000 in
set_option maxHeartbeats 4000000 in
theorem spec_read3 (s : ByteArray) (w : World) (hs : s.size ≤ 2000000) (A : List UInt8) (R : List UInt8) (hT : s.data.toList = A ++ 47 :: R) (hA : ∀ x ∈ A, x ≠ 47) (hR : R ≠ []) (B D : List UInt8) (hq : A.map lowC = B ++ 64 :: D) (hB : ∀ x ∈ B, x ≠ 64) (hBn : B ≠ []) :
    Calls Try.prog 95 #[.string s] w (ReadsTo s.data.toList w) := by
  have hsize : s.size = A.length + 1 + R.length := by rw [← size_data, hT]; simp; omega
  have b1 : A.length + 1 ≤ s.size := by omega
  have b1' : (A.length : Int) + 1 ≤ (s.size : Int) := by omega
  have i1 := fun W => spec_at s 47 W (by unfold maxLen; omega)
  rw [hT, index_app 47 R A hA] at i1
  have x1 : s.extract (A.length + 1) s.size = strOf R := ext_str s (A ++ [47]) R [] (by rw [hT]; simp) _ _ (by simp) (by rw [hsize]; simp)
  have x2 : s.extract 0 A.length = strOf A := ext_str s [] A (47 :: R) (by rw [hT]; simp) _ _ rfl (by simp)
  have n1 : (strOf R).toList ≠ [] := ne_nil (by rw [strOf_size]; exact List.length_pos_iff.2 hR)
  have n2 : (strOf R).toList.isEmpty = false := not_empty (by rw [strOf_size]; exact List.length_pos_iff.2 hR)
  have i2 := fun W => spec_lower (strOf A) W (by rw [strOf_size]; omega)
  rw [strOf_data] at i2
  have hql : (A.map lowC).length ≤ 2000000 := by rw [List.length_map]; omega
  rw [hq] at i2 hql
  have i3 := fun W => spec_at (strOf (B ++ 64 :: D)) 64 W (by rw [strOf_size]; unfold maxLen; omega)
  rw [strOf_data, index_app 64 D B hB] at i3
  have x3 : (strOf (B ++ 64 :: D)).extract 0 B.length = strOf B := ext_str _ [] B (64 :: D) (by rw [strOf_data]; simp) _ _ rfl (by simp)
  have x4 : (strOf (B ++ 64 :: D)).extract (B.length + 1) (strOf (B ++ 64 :: D)).size = strOf D := ext_str _ (B ++ [64]) D [] (by rw [strOf_data]; simp) _ _ (by simp) (by rw [strOf_size]; simp; omega)
  have b2 : B.length + 1 ≤ (strOf (B ++ 64 :: D)).size := by rw [strOf_size]; simp
  have b2' : (B.length : Int) + 1 ≤ ((strOf (B ++ 64 :: D)).size : Int) := by omega
  have b3 : (strOf (B ++ 64 :: D)).size ≤ 2000000 := by rw [strOf_size]; exact hql
  have n3 : (strOf B).toList ≠ [] := ne_nil (by rw [strOf_size]; exact List.length_pos_iff.2 hBn)
  have n4 : (strOf B).toList.isEmpty = false := not_empty (by rw [strOf_size]; exact List.length_pos_iff.2 hBn)
  have HSH : Hid (shapeL s.data.toList = true) := Lib.hid (by
    rw [hT]; unfold shapeL; rw [cut_app hA]; dsimp only; rw [hq, cut_app hB]
    cases B with
    | nil => exact absurd rfl hBn
    | cons b B => cases R with | nil => exact absurd rfl hR | cons r R => rfl)
  have HRD : Hid (readL s.data.toList = (B, D, R)) := Lib.hid (by rw [hT]; unfold readL; rw [cut_app hA]; dsimp only; rw [hq, cut_app hB]; rfl)
  obtain ⟨Q, hQ⟩ : ∃ Q, Q = strOf (B ++ 64 :: D) := ⟨_, rfl⟩
  rw [← hQ] at i2 i3 x3 x4 b2 b2' b3
  have j1 : ((strOf B) : ByteArray).size ≤ maxLen := by rw [strOf_size]; simp at hql; unfold maxLen; omega
  have j2 : ((strOf D) : ByteArray).size ≤ maxLen := by rw [strOf_size]; simp at hql; unfold maxLen; omega
  have j3 : ((strOf R) : ByteArray).size ≤ maxLen := by rw [strOf_size]; unfold maxLen; omega
  have i4 := fun W => spec_right (strOf B) (strOf D) (strOf R) W j1 j2 j3
  obtain ⟨v, hv⟩ : ∃ v, jidB (strOf B) (strOf D) (strOf R) = v := ⟨_, rfl⟩
  rw [hv] at i4
  have HFin : Hid (∀ W, Below w.heap.size w W → ReadsTo s.data.toList w (.returned (.tuple #[.agg #[.string (strOf B), .string (strOf D), .string (strOf R)], .bool v])) W) := Lib.hid (fun W hb => by
    have h := readsTo_yes HSH.out HRD.out hb
    rw [hv] at h
    exact h)
  clear hv j1 j2 j3
  clear hQ hT hql hsize HSH HRD
  go_enter Try.func95, Try.ntmps95
  go_wp2_with (first
    | (go_at_call 107; go_fit (i1 _); rintro e w1 ⟨rfl, rfl⟩)
    | (go_at_call 107; go_fit (i3 _); rintro e w1 ⟨rfl, rfl⟩)
    | (go_at_call 108; go_fit (i2 _); rintro e w1 ⟨rfl, hb1⟩; obtain ⟨hRes, hJ, hb2⟩ := bare_kept hb1; have hz := arr_lt hJ; obtain ⟨c0, c1, c2, f0, f1, f2⟩ := arr_three hJ; obtain ⟨p0, p1, p2, q0, q1, q2⟩ := arr_three hRes; have HRes := Lib.hid hRes; have HJ := Lib.hid hJ; clear hRes hJ))
  have hS : ReadS w (strOf B) (strOf D) (strOf R) (((w1.setCell ⟨w.heap.size + 1, 0, none⟩ (.string (strOf B))).setCell ⟨w.heap.size + 1, 1, none⟩ (.string (strOf D)))).drew := readS (Below.drew (((below_one (below_one hb1)).setCell (Nat.le_succ _) _).setCell (Nat.le_succ _) _)) ((HJ.out.put 0 _).put 1 _) ⟨_, _, _, arr_other (arr_other HRes.out _ _ _ (by omega)) _ _ _ (by omega)⟩
  have HS := Lib.hid hS
  clear hS hb1 hb2 c0 c1 c2 f0 f1 f2 p0 p1 p2 q0 q1 q2 HRes HJ i1 i2 i3 hz
  go_region_held3 (fun W => (W.cell? ⟨w.heap.size + 1, 0, none⟩ = some (.string (strOf B)) ∧ W.cell? ⟨w.heap.size + 1, 1, none⟩ = some (.string (strOf D)) ∧ W.cell? ⟨w.heap.size + 1, 2, none⟩ = some (.string (strOf R)) ∧
   W.cell? ⟨w.heap.size, 0, none⟩ = some (cellAt W w.heap.size 0) ∧ W.cell? ⟨w.heap.size, 1, none⟩ = some (cellAt W w.heap.size 1) ∧ W.cell? ⟨w.heap.size, 2, none⟩ = some (cellAt W w.heap.size 2) ∧
   W.frozen? ⟨w.heap.size, 0, none⟩ = false ∧ W.frozen? ⟨w.heap.size, 1, none⟩ = false ∧ W.frozen? ⟨w.heap.size, 2, none⟩ = false) ∧
  (Below w.heap.size w W ∧ Arr W (w.heap.size + 1) 69 [.string (strOf B), .string (strOf D), .string (strOf R)] ∧ Res W w.heap.size))
    (with_reducible first | assumption | exact HS.out | exact readS_on (by assumption) hbN | exact readS_store (by assumption))
    (first
      | (go_at_call 103; go_fit (i4 _); rintro e w2 ⟨rfl, hbN⟩; have hrN := (readS_on (by assumption) hbN).2.2.2))
  all_goals
    obtain ⟨_, hbF, _, _⟩ := readS_on (by assumption) (Below.refl _ _)
    have HB := Lib.hid hbF
    obtain ⟨x, y, z, hA⟩ := hrN
    have hF : Arr _ w.heap.size 69 [.string (strOf B), .string (strOf D), .string (strOf R)] := ((hA.put 0 (.string (strOf B))).put 1 (.string (strOf D))).put 2 (.string (strOf R))
    have hz := arr_lt hF
    obtain ⟨c0, c1, c2, _, _, _⟩ := arr_three hF
    clear hbF hA hF
    go_wp2
    exact bodyPost_ret (v := .tuple #[.agg #[.string (strOf B), .string (strOf D), .string (strOf R)], .bool v]) (by simp [results, Try.results95, go_sem, c0, c1, c2] at hz ⊢; try omega) rfl (HFin.out _ HB.out)
set_option maxRecDepth 100000 in
set_option maxHeartbeats 4000000 in
theorem spec_read4 (s : ByteArray) (w : World) (hs : s.size ≤ 2000000) (A : List UInt8) (R : List UInt8) (hT : s.data.toList = A ++ 47 :: R) (hA : ∀ x ∈ A, x ≠ 47) (hR : R ≠ []) (hB : ∀ x ∈ A.map lowC, x ≠ 64) :
    Calls Try.prog 95 #[.string s] w (ReadsTo s.data.toList w) := by
  have hsize : s.size = A.length + 1 + R.length := by rw [← size_data, hT]; simp; omega
  have b1 : A.length + 1 ≤ s.size := by omega
  have b1' : (A.length : Int) + 1 ≤ (s.size : Int) := by omega
  have i1 := fun W => spec_at s 47 W (by unfold maxLen; omega)
  rw [hT, index_app 47 R A hA] at i1
  have x1 : s.extract (A.length + 1) s.size = strOf R := ext_str s (A ++ [47]) R [] (by rw [hT]; simp) _ _ (by simp) (by rw [hsize]; simp)
  have x2 : s.extract 0 A.length = strOf A := ext_str s [] A (47 :: R) (by rw [hT]; simp) _ _ rfl (by simp)
  have n1 : (strOf R).toList ≠ [] := ne_nil (by rw [strOf_size]; exact List.length_pos_iff.2 hR)
  have n2 : (strOf R).toList.isEmpty = false := not_empty (by rw [strOf_size]; exact List.length_pos_iff.2 hR)
  have i2 := fun W => spec_lower (strOf A) W (by rw [strOf_size]; omega)
  rw [strOf_data] at i2
  have hql : (A.map lowC).length ≤ 2000000 := by rw [List.length_map]; omega
  have i3 := fun W => spec_at (strOf (A.map lowC)) 64 W (by rw [strOf_size]; unfold maxLen; omega)
  rw [strOf_data, index_not 64 _ hB] at i3
  have HSH : Hid (shapeL s.data.toList = true) := Lib.hid (by
    rw [hT]; unfold shapeL; rw [cut_app hA]; dsimp only; rw [cut_not hB]
    cases R with | nil => exact absurd rfl hR | cons r R => rfl)
  have HRD : Hid (readL s.data.toList = ([], A.map lowC, R)) := Lib.hid (by rw [hT]; unfold readL; rw [cut_app hA]; dsimp only; rw [cut_not hB]; rfl)
  obtain ⟨Q, hQ⟩ : ∃ Q, Q = strOf (A.map lowC) := ⟨_, rfl⟩
  rw [← hQ] at i2 i3
  have j1 : (⟨#[]⟩ : ByteArray).size ≤ maxLen := by unfold maxLen; decide
  have j2 : (Q : ByteArray).size ≤ maxLen := by rw [hQ, strOf_size]; unfold maxLen; omega
  have j3 : ((strOf R) : ByteArray).size ≤ maxLen := by rw [strOf_size]; unfold maxLen; omega
  have i4 := fun W => spec_right ⟨#[]⟩ Q (strOf R) W j1 j2 j3
  obtain ⟨v, hv⟩ : ∃ v, jidB ⟨#[]⟩ Q (strOf R) = v := ⟨_, rfl⟩
  rw [hv] at i4
  have HFin : Hid (∀ W, Below w.heap.size w W → ReadsTo s.data.toList w (.returned (.tuple #[.agg #[.string ⟨#[]⟩, .string Q, .string (strOf R)], .bool v])) W) := Lib.hid (fun W hb => by
    have h := readsTo_yes HSH.out HRD.out hb
    rw [← hQ] at h
    have h2 : jidB (strOf []) Q (strOf R) = v := hv
    rw [h2] at h
    exact h)
  clear hv j1 j2 j3
  clear hQ hT hql hsize HSH HRD
  go_enter Try.func95, Try.ntmps95
  go_wp2_with (first
    | (go_at_call 107; go_fit (i1 _); rintro e w1 ⟨rfl, rfl⟩)
    | (go_at_call 107; go_fit (i3 _); rintro e w1 ⟨rfl, rfl⟩)
    | (go_at_call 108; go_fit (i2 _); rintro e w1 ⟨rfl, hb1⟩; obtain ⟨hRes, hJ, hb2⟩ := bare_kept hb1; have hz := arr_lt hJ; obtain ⟨c0, c1, c2, f0, f1, f2⟩ := arr_three hJ; obtain ⟨p0, p1, p2, q0, q1, q2⟩ := arr_three hRes; have HRes := Lib.hid hRes; have HJ := Lib.hid hJ; clear hRes hJ))
  have hS : ReadS w ⟨#[]⟩ Q (strOf R) ((w1.setCell ⟨w.heap.size + 1, 1, none⟩ (.string Q))).drew := readS (Below.drew ((below_one (below_one hb1)).setCell (Nat.le_succ _) _)) (HJ.out.put 1 _) ⟨_, _, _, arr_other HRes.out _ _ _ (by omega)⟩
  have HS := Lib.hid hS
  clear hS hb1 hb2 c0 c1 c2 f0 f1 f2 p0 p1 p2 q0 q1 q2 HRes HJ i1 i2 i3 hz
  go_region_held3 (fun W => (W.cell? ⟨w.heap.size + 1, 0, none⟩ = some (.string ⟨#[]⟩) ∧ W.cell? ⟨w.heap.size + 1, 1, none⟩ = some (.string Q) ∧ W.cell? ⟨w.heap.size + 1, 2, none⟩ = some (.string (strOf R)) ∧
   W.cell? ⟨w.heap.size, 0, none⟩ = some (cellAt W w.heap.size 0) ∧ W.cell? ⟨w.heap.size, 1, none⟩ = some (cellAt W w.heap.size 1) ∧ W.cell? ⟨w.heap.size, 2, none⟩ = some (cellAt W w.heap.size 2) ∧
   W.frozen? ⟨w.heap.size, 0, none⟩ = false ∧ W.frozen? ⟨w.heap.size, 1, none⟩ = false ∧ W.frozen? ⟨w.heap.size, 2, none⟩ = false) ∧
  (Below w.heap.size w W ∧ Arr W (w.heap.size + 1) 69 [.string ⟨#[]⟩, .string Q, .string (strOf R)] ∧ Res W w.heap.size))
    (with_reducible first | assumption | exact HS.out | exact readS_on (by assumption) hbN | exact readS_store (by assumption))
    (first
      | (go_at_call 103; go_fit (i4 _); rintro e w2 ⟨rfl, hbN⟩; have hrN := (readS_on (by assumption) hbN).2.2.2))
  all_goals
    obtain ⟨_, hbF, _, _⟩ := readS_on (by assumption) (Below.refl _ _)
    have HB := Lib.hid hbF
    obtain ⟨x, y, z, hA⟩ := hrN
    have hF : Arr _ w.heap.size 69 [.string ⟨#[]⟩, .string Q, .string (strOf R)] := ((hA.put 0 (.string ⟨#[]⟩)).put 1 (.string Q)).put 2 (.string (strOf R))
    have hz := arr_lt hF
    obtain ⟨c0, c1, c2, _, _, _⟩ := arr_three hF
    clear hbF hA hF
    go_wp2
    exact bodyPost_ret (v := .tuple #[.agg #[.string ⟨#[]⟩, .string Q, .string (strOf R)], .bool v]) (by simp [results, Try.results95, go_sem, c0, c1, c2] at hz ⊢; try omega) rfl (HFin.out _ HB.out)
set_option maxRecDepth 100000 in
set_option maxHeartbeats 4000000 in
theorem spec_read5 (s : ByteArray) (w : World) (hs : s.size ≤ 2000000) (A : List UInt8) (hT : s.data.toList = A) (hA : ∀ x ∈ A, x ≠ 47) (B D : List UInt8) (hq : A.map lowC = B ++ 64 :: D) (hB : ∀ x ∈ B, x ≠ 64) (hBn : B = []) :
    Calls Try.prog 95 #[.string s] w (ReadsTo s.data.toList w) := by
  have hsize : s.size = A.length := by rw [← size_data, hT]
  have i1 := fun W => spec_at s 47 W (by unfold maxLen; omega)
  rw [hT, index_not 47 A hA] at i1
  have i2 := fun W => spec_lower s W (by omega)
  rw [hT] at i2
  have hql : (A.map lowC).length ≤ 2000000 := by rw [List.length_map]; omega
  rw [hq] at i2 hql
  have i3 := fun W => spec_at (strOf (B ++ 64 :: D)) 64 W (by rw [strOf_size]; unfold maxLen; omega)
  rw [strOf_data, index_app 64 D B hB] at i3
  have x3 : (strOf (B ++ 64 :: D)).extract 0 B.length = strOf B := ext_str _ [] B (64 :: D) (by rw [strOf_data]; simp) _ _ rfl (by simp)
  have x4 : (strOf (B ++ 64 :: D)).extract (B.length + 1) (strOf (B ++ 64 :: D)).size = strOf D := ext_str _ (B ++ [64]) D [] (by rw [strOf_data]; simp) _ _ (by simp) (by rw [strOf_size]; simp; omega)
  have b2 : B.length + 1 ≤ (strOf (B ++ 64 :: D)).size := by rw [strOf_size]; simp
  have b2' : (B.length : Int) + 1 ≤ ((strOf (B ++ 64 :: D)).size : Int) := by omega
  have b3 : (strOf (B ++ 64 :: D)).size ≤ 2000000 := by rw [strOf_size]; exact hql
  have HSH : Hid (shapeL s.data.toList = false) := Lib.hid (by rw [hT]; unfold shapeL; rw [cut_not hA]; dsimp only; rw [hq, cut_app hB, hBn]; rfl)
  have n3 : (strOf B).toList = [] := by rw [hBn, ByteArray.toList_eq]; rfl
  have n4 : (strOf B).toList.isEmpty = true := by rw [hBn, ByteArray.toList_eq]; rfl
  clear hBn
  obtain ⟨Q, hQ⟩ : ∃ Q, Q = strOf (B ++ 64 :: D) := ⟨_, rfl⟩
  rw [← hQ] at i2 i3 x3 x4 b2 b2' b3
  clear hQ hT hql hsize
  go_enter Try.func95, Try.ntmps95
  go_wp2_with (first
    | (go_at_call 107; go_fit (i1 _); rintro e w1 ⟨rfl, rfl⟩)
    | (go_at_call 107; go_fit (i3 _); rintro e w1 ⟨rfl, rfl⟩)
    | (go_at_call 108; go_fit (i2 _); rintro e w1 ⟨rfl, hb1⟩; obtain ⟨hRes, hJ, hb2⟩ := bare_kept hb1; have hz := arr_lt hJ; obtain ⟨c0, c1, c2, f0, f1, f2⟩ := arr_three hJ; obtain ⟨p0, p1, p2, q0, q1, q2⟩ := arr_three hRes; have HRes := Lib.hid hRes; have HJ := Lib.hid hJ; clear hRes hJ))
  refine bodyPost_ret (v := .tuple #[.agg #[.string (strOf B), .string ⟨#[]⟩, .string ⟨#[]⟩], .bool false]) (by simp [results, Try.results95, go_sem, c0, c1, c2, p0, p1, p2, hz, Nat.lt_of_succ_lt hz]) rfl (readsTo_no HSH.out ?_)
  exact below_three ((below_one (below_one hb1)).setCell (Nat.le_succ _) _) (Nat.le_refl _) _ _ _
set_option maxRecDepth 100000 in
set_option maxHeartbeats 4000000 in
theorem spec_read6 (s : ByteArray) (w : World) (hs : s.size ≤ 2000000) (A : List UInt8) (hT : s.data.toList = A) (hA : ∀ x ∈ A, x ≠ 47) (B D : List UInt8) (hq : A.map lowC = B ++ 64 :: D) (hB : ∀ x ∈ B, x ≠ 64) (hBn : B ≠ []) :
    Calls Try.prog 95 #[.string s] w (ReadsTo s.data.toList w) := by
  have hsize : s.size = A.length := by rw [← size_data, hT]
  have i1 := fun W => spec_at s 47 W (by unfold maxLen; omega)
  rw [hT, index_not 47 A hA] at i1
  have i2 := fun W => spec_lower s W (by omega)
  rw [hT] at i2
  have hql : (A.map lowC).length ≤ 2000000 := by rw [List.length_map]; omega
  rw [hq] at i2 hql
  have i3 := fun W => spec_at (strOf (B ++ 64 :: D)) 64 W (by rw [strOf_size]; unfold maxLen; omega)
  rw [strOf_data, index_app 64 D B hB] at i3
  have x3 : (strOf (B ++ 64 :: D)).extract 0 B.length = strOf B := ext_str _ [] B (64 :: D) (by rw [strOf_data]; simp) _ _ rfl (by simp)
  have x4 : (strOf (B ++ 64 :: D)).extract (B.length + 1) (strOf (B ++ 64 :: D)).size = strOf D := ext_str _ (B ++ [64]) D [] (by rw [strOf_data]; simp) _ _ (by simp) (by rw [strOf_size]; simp; omega)
  have b2 : B.length + 1 ≤ (strOf (B ++ 64 :: D)).size := by rw [strOf_size]; simp
  have b2' : (B.length : Int) + 1 ≤ ((strOf (B ++ 64 :: D)).size : Int) := by omega
  have b3 : (strOf (B ++ 64 :: D)).size ≤ 2000000 := by rw [strOf_size]; exact hql
  have n3 : (strOf B).toList ≠ [] := ne_nil (by rw [strOf_size]; exact List.length_pos_iff.2 hBn)
  have n4 : (strOf B).toList.isEmpty = false := not_empty (by rw [strOf_size]; exact List.length_pos_iff.2 hBn)
  have HSH : Hid (shapeL s.data.toList = true) := Lib.hid (by
    rw [hT]; unfold shapeL; rw [cut_not hA]; dsimp only; rw [hq, cut_app hB]
    cases B with
    | nil => exact absurd rfl hBn
    | cons b B => rfl)
  have HRD : Hid (readL s.data.toList = (B, D, [])) := Lib.hid (by rw [hT]; unfold readL; rw [cut_not hA]; dsimp only; rw [hq, cut_app hB]; rfl)
  obtain ⟨Q, hQ⟩ : ∃ Q, Q = strOf (B ++ 64 :: D) := ⟨_, rfl⟩
  rw [← hQ] at i2 i3 x3 x4 b2 b2' b3
  have j1 : ((strOf B) : ByteArray).size ≤ maxLen := by rw [strOf_size]; simp at hql; unfold maxLen; omega
  have j2 : ((strOf D) : ByteArray).size ≤ maxLen := by rw [strOf_size]; simp at hql; unfold maxLen; omega
  have j3 : (⟨#[]⟩ : ByteArray).size ≤ maxLen := by unfold maxLen; decide
  have i4 := fun W => spec_right (strOf B) (strOf D) ⟨#[]⟩ W j1 j2 j3
  obtain ⟨v, hv⟩ : ∃ v, jidB (strOf B) (strOf D) ⟨#[]⟩ = v := ⟨_, rfl⟩
  rw [hv] at i4
  have HFin : Hid (∀ W, Below w.heap.size w W → ReadsTo s.data.toList w (.returned (.tuple #[.agg #[.string (strOf B), .string (strOf D), .string ⟨#[]⟩], .bool v])) W) := Lib.hid (fun W hb => by
    have h := readsTo_yes HSH.out HRD.out hb
    have h2 : jidB (strOf B) (strOf D) (strOf []) = v := hv
    rw [h2] at h
    exact h)
  clear hv j1 j2 j3
  clear hQ hT hql hsize HSH HRD
  go_enter Try.func95, Try.ntmps95
  go_wp2_with (first
    | (go_at_call 107; go_fit (i1 _); rintro e w1 ⟨rfl, rfl⟩)
    | (go_at_call 107; go_fit (i3 _); rintro e w1 ⟨rfl, rfl⟩)
    | (go_at_call 108; go_fit (i2 _); rintro e w1 ⟨rfl, hb1⟩; obtain ⟨hRes, hJ, hb2⟩ := bare_kept hb1; have hz := arr_lt hJ; obtain ⟨c0, c1, c2, f0, f1, f2⟩ := arr_three hJ; obtain ⟨p0, p1, p2, q0, q1, q2⟩ := arr_three hRes; have HRes := Lib.hid hRes; have HJ := Lib.hid hJ; clear hRes hJ))
  have hS : ReadS w (strOf B) (strOf D) ⟨#[]⟩ (((w1.setCell ⟨w.heap.size + 1, 0, none⟩ (.string (strOf B))).setCell ⟨w.heap.size + 1, 1, none⟩ (.string (strOf D)))).drew := readS (Below.drew (((below_one (below_one hb1)).setCell (Nat.le_succ _) _).setCell (Nat.le_succ _) _)) ((HJ.out.put 0 _).put 1 _) ⟨_, _, _, arr_other (arr_other HRes.out _ _ _ (by omega)) _ _ _ (by omega)⟩
  have HS := Lib.hid hS
  clear hS hb1 hb2 c0 c1 c2 f0 f1 f2 p0 p1 p2 q0 q1 q2 HRes HJ i1 i2 i3 hz
  go_region_held3 (fun W => (W.cell? ⟨w.heap.size + 1, 0, none⟩ = some (.string (strOf B)) ∧ W.cell? ⟨w.heap.size + 1, 1, none⟩ = some (.string (strOf D)) ∧ W.cell? ⟨w.heap.size + 1, 2, none⟩ = some (.string ⟨#[]⟩) ∧
   W.cell? ⟨w.heap.size, 0, none⟩ = some (cellAt W w.heap.size 0) ∧ W.cell? ⟨w.heap.size, 1, none⟩ = some (cellAt W w.heap.size 1) ∧ W.cell? ⟨w.heap.size, 2, none⟩ = some (cellAt W w.heap.size 2) ∧
   W.frozen? ⟨w.heap.size, 0, none⟩ = false ∧ W.frozen? ⟨w.heap.size, 1, none⟩ = false ∧ W.frozen? ⟨w.heap.size, 2, none⟩ = false) ∧
  (Below w.heap.size w W ∧ Arr W (w.heap.size + 1) 69 [.string (strOf B), .string (strOf D), .string ⟨#[]⟩] ∧ Res W w.heap.size))
    (with_reducible first | assumption | exact HS.out | exact readS_on (by assumption) hbN | exact readS_store (by assumption))
    (first
      | (go_at_call 103; go_fit (i4 _); rintro e w2 ⟨rfl, hbN⟩; have hrN := (readS_on (by assumption) hbN).2.2.2))
  all_goals
    obtain ⟨_, hbF, _, _⟩ := readS_on (by assumption) (Below.refl _ _)
    have HB := Lib.hid hbF
    obtain ⟨x, y, z, hA⟩ := hrN
    have hF : Arr _ w.heap.size 69 [.string (strOf B), .string (strOf D), .string ⟨#[]⟩] := ((hA.put 0 (.string (strOf B))).put 1 (.string (strOf D))).put 2 (.string ⟨#[]⟩)
    have hz := arr_lt hF
    obtain ⟨c0, c1, c2, _, _, _⟩ := arr_three hF
    clear hbF hA hF
    go_wp2
    exact bodyPost_ret (v := .tuple #[.agg #[.string (strOf B), .string (strOf D), .string ⟨#[]⟩], .bool v]) (by simp [results, Try.results95, go_sem, c0, c1, c2] at hz ⊢; try omega) rfl (HFin.out _ HB.out)
set_option maxRecDepth 100000 in
set_option maxHeartbeats 4000000 in
theorem spec_read7 (s : ByteArray) (w : World) (hs : s.size ≤ 2000000) (A : List UInt8) (hT : s.data.toList = A) (hA : ∀ x ∈ A, x ≠ 47) (hB : ∀ x ∈ A.map lowC, x ≠ 64) :
    Calls Try.prog 95 #[.string s] w (ReadsTo s.data.toList w) := by
  have hsize : s.size = A.length := by rw [← size_data, hT]
  have i1 := fun W => spec_at s 47 W (by unfold maxLen; omega)
  rw [hT, index_not 47 A hA] at i1
  have i2 := fun W => spec_lower s W (by omega)
  rw [hT] at i2
  have hql : (A.map lowC).length ≤ 2000000 := by rw [List.length_map]; omega
  have i3 := fun W => spec_at (strOf (A.map lowC)) 64 W (by rw [strOf_size]; unfold maxLen; omega)
  rw [strOf_data, index_not 64 _ hB] at i3
  have HSH : Hid (shapeL s.data.toList = true) := Lib.hid (by
    rw [hT]; unfold shapeL; rw [cut_not hA]; dsimp only; rw [cut_not hB]
    rfl)
  have HRD : Hid (readL s.data.toList = ([], A.map lowC, [])) := Lib.hid (by rw [hT]; unfold readL; rw [cut_not hA]; dsimp only; rw [cut_not hB]; rfl)
  obtain ⟨Q, hQ⟩ : ∃ Q, Q = strOf (A.map lowC) := ⟨_, rfl⟩
  rw [← hQ] at i2 i3
  have j1 : (⟨#[]⟩ : ByteArray).size ≤ maxLen := by unfold maxLen; decide
  have j2 : (Q : ByteArray).size ≤ maxLen := by rw [hQ, strOf_size]; unfold maxLen; omega
  have j3 : (⟨#[]⟩ : ByteArray).size ≤ maxLen := by unfold maxLen; decide
  have i4 := fun W => spec_right ⟨#[]⟩ Q ⟨#[]⟩ W j1 j2 j3
  obtain ⟨v, hv⟩ : ∃ v, jidB ⟨#[]⟩ Q ⟨#[]⟩ = v := ⟨_, rfl⟩
  rw [hv] at i4
  have HFin : Hid (∀ W, Below w.heap.size w W → ReadsTo s.data.toList w (.returned (.tuple #[.agg #[.string ⟨#[]⟩, .string Q, .string ⟨#[]⟩], .bool v])) W) := Lib.hid (fun W hb => by
    have h := readsTo_yes HSH.out HRD.out hb
    rw [← hQ] at h
    have h2 : jidB (strOf []) Q (strOf []) = v := hv
    rw [h2] at h
    exact h)
  clear hv j1 j2 j3
  clear hQ hT hql hsize HSH HRD
  go_enter Try.func95, Try.ntmps95
  go_wp2_with (first
    | (go_at_call 107; go_fit (i1 _); rintro e w1 ⟨rfl, rfl⟩)
    | (go_at_call 107; go_fit (i3 _); rintro e w1 ⟨rfl, rfl⟩)
    | (go_at_call 108; go_fit (i2 _); rintro e w1 ⟨rfl, hb1⟩; obtain ⟨hRes, hJ, hb2⟩ := bare_kept hb1; have hz := arr_lt hJ; obtain ⟨c0, c1, c2, f0, f1, f2⟩ := arr_three hJ; obtain ⟨p0, p1, p2, q0, q1, q2⟩ := arr_three hRes; have HRes := Lib.hid hRes; have HJ := Lib.hid hJ; clear hRes hJ))
  have hS : ReadS w ⟨#[]⟩ Q ⟨#[]⟩ ((w1.setCell ⟨w.heap.size + 1, 1, none⟩ (.string Q))).drew := readS (Below.drew ((below_one (below_one hb1)).setCell (Nat.le_succ _) _)) (HJ.out.put 1 _) ⟨_, _, _, arr_other HRes.out _ _ _ (by omega)⟩
  have HS := Lib.hid hS
  clear hS hb1 hb2 c0 c1 c2 f0 f1 f2 p0 p1 p2 q0 q1 q2 HRes HJ i1 i2 i3 hz
  go_region_held3 (fun W => (W.cell? ⟨w.heap.size + 1, 0, none⟩ = some (.string ⟨#[]⟩) ∧ W.cell? ⟨w.heap.size + 1, 1, none⟩ = some (.string Q) ∧ W.cell? ⟨w.heap.size + 1, 2, none⟩ = some (.string ⟨#[]⟩) ∧
   W.cell? ⟨w.heap.size, 0, none⟩ = some (cellAt W w.heap.size 0) ∧ W.cell? ⟨w.heap.size, 1, none⟩ = some (cellAt W w.heap.size 1) ∧ W.cell? ⟨w.heap.size, 2, none⟩ = some (cellAt W w.heap.size 2) ∧
   W.frozen? ⟨w.heap.size, 0, none⟩ = false ∧ W.frozen? ⟨w.heap.size, 1, none⟩ = false ∧ W.frozen? ⟨w.heap.size, 2, none⟩ = false) ∧
  (Below w.heap.size w W ∧ Arr W (w.heap.size + 1) 69 [.string ⟨#[]⟩, .string Q, .string ⟨#[]⟩] ∧ Res W w.heap.size))
    (with_reducible first | assumption | exact HS.out | exact readS_on (by assumption) hbN | exact readS_store (by assumption))
    (first
      | (go_at_call 103; go_fit (i4 _); rintro e w2 ⟨rfl, hbN⟩; have hrN := (readS_on (by assumption) hbN).2.2.2))
  all_goals
    obtain ⟨_, hbF, _, _⟩ := readS_on (by assumption) (Below.refl _ _)
    have HB := Lib.hid hbF
    obtain ⟨x, y, z, hA⟩ := hrN
    have hF : Arr _ w.heap.size 69 [.string ⟨#[]⟩, .string Q, .string ⟨#[]⟩] := ((hA.put 0 (.string ⟨#[]⟩)).put 1 (.string Q)).put 2 (.string ⟨#[]⟩)
    have hz := arr_lt hF
    obtain ⟨c0, c1, c2, _, _, _⟩ := arr_three hF
    clear hbF hA hF
    go_wp2
    exact bodyPost_ret (v := .tuple #[.agg #[.string ⟨#[]⟩, .string Q, .string ⟨#[]⟩], .bool v]) (by simp [results, Try.results95, go_sem, c0, c1, c2] at hz ⊢; try omega) rfl (HFin.out _ HB.out)
theorem spec_l03read (s : ByteArray) (w : World) (hs : s.size ≤ 2000000) : Calls Try.prog 95 #[.string s] w (ReadsTo s.data.toList w) := by
  rcases cut_form s.data.toList 47 with ⟨A, R, hT, hA⟩ | hA
  · by_cases hR : R = []
    · exact spec_read1 s w hs A R hT hA hR
    · rcases cut_form (A.map lowC) 64 with ⟨B, D, hq, hB⟩ | hB
      · by_cases hBn : B = []
        · exact spec_read2 s w hs A R hT hA hR B D hq hB hBn
        · exact spec_read3 s w hs A R hT hA hR B D hq hB hBn
      · exact spec_read4 s w hs A R hT hA hR hB
  · rcases cut_form (s.data.toList.map lowC) 64 with ⟨B, D, hq, hB⟩ | hB
    · by_cases hBn : B = []
      · exact spec_read5 s w hs _ rfl hA B D hq hB hBn
      · exact spec_read6 s w hs _ rfl hA B D hq hB hBn
    · exact spec_read7 s w hs _ rfl hA hB

theorem readV_form (s : ByteArray) : ∃ l d r c, jidReadV s = jo l d r c := by
  unfold jidReadV
  split
  · exact ⟨_, _, _, _, rfl⟩
  · split <;> exact ⟨_, _, _, _, rfl⟩
/-- A box of four cells that was laid ahead of a call stands behind it. -/
theorem four_kept {w w1 : World} {a b c d : Value} {t : Nat} (h : Below (w.alloc (.cells #[a, b, c, d] t)).heap.size (w.alloc (.cells #[a, b, c, d] t)) w1) :
    (w1.cell? ⟨w.heap.size, 0, none⟩ = some a ∧ w1.cell? ⟨w.heap.size, 1, none⟩ = some b ∧ w1.cell? ⟨w.heap.size, 2, none⟩ = some c ∧ w1.cell? ⟨w.heap.size, 3, none⟩ = some d) ∧ w.heap.size < w1.heap.size := by
  have hA : Arr w1 w.heap.size t [a, b, c, d] := (h.block w.heap.size (by simp)).trans (Arr.fresh w t [a, b, c, d])
  exact ⟨(arr_four hA).1, arr_lt hA⟩
end Go.Proofs.Ytpjmcpfmnlfmdaa
