/- What spec.l04Read answers. -/
import Derived.Test.YtgcfognljkebjaaGreatDoorSrSpec2
import Derived.Test.YtgcfognljkebjaaGreatDoorSrMath
namespace Go.Proofs.YtgcfognljkebjaaGreatDoor
set_option linter.unusedSimpArgs false
set_option linter.unusedVariables false
open Go.RowKit

def kindsB : List ByteArray := [kPres, kMess, kIq, kDb]
def kindC : List Value := kindsB.map Value.string
theorem plain_body {T : List UInt8} {u : ByteArray} {b : Bool} (h : PlainRes T u b) : u = strOf (bodyS T) := by
  rcases h with ⟨l, h1, rfl, _⟩ | ⟨h1, rfl, _⟩
  · rw [h1, body_esc]
  · unfold bodyS
    rw [if_neg (fun e => h1 _ e.symm)]
    rfl
theorem find_gen {p : List UInt8 → Bool} : ∀ (l : List (List UInt8)) (k : Nat) (hk : k < l.length), (∀ j (h : j < l.length), j < k → p l[j] = false) → p l[k] = true → l.find? p = some l[k]
  | x :: l, 0, hk, _, hit => List.find?_cons_of_pos hit
  | x :: l, k + 1, hk, hno, hit => by
    have h0 : p x = false := hno 0 (by simp) (by omega)
    rw [List.find?_cons_of_neg (by rw [h0]; exact Bool.false_ne_true)]
    exact find_gen l k (by simpa using hk) (fun j h hj => hno (j + 1) (by simpa using h) (by omega)) hit
theorem find_at {T : List UInt8} {k : Nat} (hk : k < 4) (hno : ∀ j (h : j < kindsL.length), j < k → (60 :: kindsL[j]).isPrefixOf T = false) (hit : (60 :: kindsL[k]'(by simpa [kindsL] using hk)).isPrefixOf T = true) :
    kindsL.find? (fun x => (60 :: x).isPrefixOf T) = some (kindsL[k]'(by simpa [kindsL] using hk)) := find_gen kindsL k (by simpa [kindsL] using hk) hno hit
theorem below_set6a {w W : World} {g : Nat} (h : Below w.heap.size w W) (hg : w.heap.size ≤ g) (a b c d e f : Value) (o : Obj) : Below w.heap.size w (((((((W.setCell ⟨g, 0, none⟩ a).setCell ⟨g, 1, none⟩ b).setCell ⟨g, 2, none⟩ c).setCell ⟨g, 3, none⟩ d).setCell ⟨g, 4, none⟩ e).setCell ⟨g, 5, none⟩ f).alloc o) :=
  (below_set6 h hg a b c d e f).alloc (below_set6 h hg a b c d e f).size o
theorem find_none {T : List UInt8} (hno : ∀ j (h : j < kindsL.length), j < 4 → (60 :: kindsL[j]).isPrefixOf T = false) : kindsL.find? (fun x => (60 :: x).isPrefixOf T) = none := by
  rw [List.find?_eq_none]
  intro x hx
  obtain ⟨j, hj, rfl⟩ := List.getElem_of_mem hx
  have := hno j hj (by simpa [kindsL] using hj)
  simp [this]
/-- The answer's box, the kinds' array. -/
def KBox (w W : World) : Prop := Arr W w.heap.size 70 (stC zeroL) ∧ Arr W (w.heap.size + 1) 9 kindC ∧ Below w.heap.size w W
theorem KBox.on {w W W2 : World} (h : KBox w W) (hb : Below W.heap.size W W2) : KBox w W2 := ⟨arr_below h.1 hb, arr_below h.2.1 hb, h.2.2.trans (hb.mono h.2.2.size)⟩
theorem KBox.cells {w W : World} (h : KBox w W) :
    (W.cell? ⟨w.heap.size, 0, none⟩ = some (.string ⟨#[]⟩) ∧ W.cell? ⟨w.heap.size, 1, none⟩ = some (.string ⟨#[]⟩) ∧ W.cell? ⟨w.heap.size, 2, none⟩ = some (.string ⟨#[]⟩) ∧ W.cell? ⟨w.heap.size, 3, none⟩ = some (.string ⟨#[]⟩) ∧ W.cell? ⟨w.heap.size, 4, none⟩ = some (.int .i64 0) ∧ W.cell? ⟨w.heap.size, 5, none⟩ = some (.string ⟨#[]⟩)) ∧
    (W.frozen? ⟨w.heap.size, 0, none⟩ = false ∧ W.frozen? ⟨w.heap.size, 1, none⟩ = false ∧ W.frozen? ⟨w.heap.size, 2, none⟩ = false ∧ W.frozen? ⟨w.heap.size, 3, none⟩ = false ∧ W.frozen? ⟨w.heap.size, 4, none⟩ = false ∧ W.frozen? ⟨w.heap.size, 5, none⟩ = false) ∧ w.heap.size < W.heap.size ∧ w.heap.size + 1 < W.heap.size := by
  obtain ⟨b0, b1, b2, b3, b4, b5, g0, g1, g2, g3, g4, g5⟩ := arr_six h.1
  exact ⟨⟨b0, b1, b2, b3, b4, b5⟩, ⟨g0, g1, g2, g3, g4, g5⟩, arr_lt h.1, arr_lt h.2.1⟩
theorem KBox.kind {w W : World} (h : KBox w W) {k : Nat} (hk : k < 4) : W.cell? ⟨w.heap.size + 1, k, none⟩ = some (.string (kindsB[k]'(by simpa [kindsB] using hk))) := by
  match k, hk with
  | 0, _ => exact h.2.1.cell 0
  | 1, _ => exact h.2.1.cell 1
  | 2, _ => exact h.2.1.cell 2
  | 3, _ => exact h.2.1.cell 3
theorem kind_data {k : Nat} (hk : k < 4) : (kindsB[k]'(by simpa [kindsB] using hk)).data.toList = kindsL[k]'(by simpa [kindsL] using hk) := by
  match k, hk with
  | 0, _ => rfl
  | 1, _ => rfl
  | 2, _ => rfl
  | 3, _ => rfl
set_option maxRecDepth 100000 in
set_option maxHeartbeats 1000000 in
theorem spec_stread (s : ByteArray) (w : World) (hs : s.size ≤ 20000) :
    Calls Tryz.prog 64 #[.string s] w fun e w' => e = .returned (stLV (rdS s.data.toList)) ∧ Below w.heap.size w w' := by
  have hlen := size_data s
  obtain ⟨X, hX⟩ : ∃ X, rdS s.data.toList = X := ⟨_, rfl⟩
  rw [hX]
  have HX := Lib.hid hX
  have HL := Lib.hid hlen
  clear hX hlen
  have i0 := fun w => spec_kinds w
  go_enter Tryz.func64, Tryz.ntmps64
  go_wp2_with (go_at_call 70; go_fit (i0 _); rintro e w1 ⟨rfl, rfl⟩)
  go_loopw [4] (fun i W => ∃ k : Nat, k ≤ 4 ∧ i = .int .i64 (k : Int) ∧ (∀ j (h : j < kindsL.length), j < k → (60 :: kindsL[j]).isPrefixOf s.data.toList = false) ∧ KBox w W) (fun i _ => 4 - (intOf i).toNat)
  case atStart =>
    refine ⟨0, Nat.zero_le _, rfl, fun j _ h => absurd h (Nat.not_lt_zero _), arr_alloc (Arr.fresh w 70 (stC zeroL)) _, ?_, ((Below.refl _ _).alloc (Nat.le_refl _) _).alloc (by simp) _⟩
    have := Arr.fresh (w.alloc (.cells (stC zeroL).toArray 70)) 9 kindC
    rw [World.size_alloc] at this
    exact this
  case round =>
    obtain ⟨k, hk, rfl, hno, hB⟩ := hrel
    have HN := Lib.hid hno
    have HB := Lib.hid hB
    obtain ⟨⟨b0, b1, b2, b3, b4, b5⟩, ⟨g0, g1, g2, g3, g4, g5⟩, hz, hz1⟩ := hB.cells
    clear hno hB
    by_cases hlt : k < 4
    · have hcell := HB.out.kind hlt
      have hkd := kind_data hlt
      have hkl : (kindsL[k]'(by simpa [kindsL] using hlt)).length ≤ 10 := kinds_le (List.getElem_mem _)
      have HFA := Lib.hid (fun hit => find_at hlt HN.out hit)
      have HFN : Hid ((60 :: kindsL[k]'(by simpa [kindsL] using hlt)).isPrefixOf s.data.toList = false → ∀ j (h : j < kindsL.length), j < k + 1 → (60 :: kindsL[j]).isPrefixOf s.data.toList = false) := Lib.hid (fun hx j h hj => by
        by_cases e : j = k
        · subst e; exact hx
        · exact HN.out j h (by omega))
      obtain ⟨K, hK⟩ : ∃ K, (kindsL[k]'(by simpa [kindsL] using hlt)) = K := ⟨_, rfl⟩
      obtain ⟨kd, hkd2⟩ : ∃ kd, (kindsB[k]'(by simpa [kindsB] using hlt)) = kd := ⟨_, rfl⟩
      have HKD : Hid (∀ W, KBox w W → W.cell? ⟨w.heap.size + 1, k, none⟩ = some (.string (kindsB[k]'(by simpa [kindsB] using hlt)))) := Lib.hid (fun W h => h.kind hlt)
      rw [hkd2] at HKD
      rw [hK] at hkd hkl HFA HFN
      rw [hkd2] at hkd hcell
      clear hK hkd2
      have hks := size_data kd
      rw [hkd] at hks
      have hsum : ¬ (9223372036854775807 < 1 + kd.size) := by omega
      have i1 := fun w => spec_has s 0 ((⟨#[60]⟩ : ByteArray) ++ kd) w (by omega) (Nat.zero_le _) (by rw [ByteArray.size_append]; show 1 + kd.size ≤ _; omega)
      rw [show ((⟨#[60]⟩ : ByteArray) ++ kd).data.toList = 60 :: K by rw [Joins.data_append, hkd]; rfl] at i1
      unfold hasB at i1
      rw [List.drop_zero] at i1
      obtain ⟨H, hH⟩ : ∃ H, (⟨#[60]⟩ : ByteArray) ++ kd = H := ⟨_, rfl⟩
      have hHs : H.size = K.length + 1 := by rw [← hH, ByteArray.size_append]; show 1 + kd.size = _; omega
      rw [hH] at i1
      cases hp : (60 :: K).isPrefixOf s.data.toList
      · have HR := Lib.hid (HFN.out hp)
        rw [hp] at i1
        clear hp hks hHs hkl hkd
        go_wp2_with (go_at_call 62; go_fit (i1 _); rintro e w1 ⟨rfl, rfl⟩)
        exact ⟨⟨k + 1, by omega, by go_num, HR.out, HB.out⟩, by simp [intOf]; omega⟩
      · have HXF : Hid (X = readAt K s.data.toList) := Lib.hid (by
          have := HFA.out hp
          rw [← HX.out]
          unfold rdS
          rw [this])
        rw [hp] at i1
        have hHle : H.size ≤ s.size := by
          have h1 := (List.isPrefixOf_iff_prefix.1 hp).length_le
          rw [HL.out] at h1
          simp at h1
          omega
        obtain ⟨D, hD⟩ : ∃ D, D = s.data.toList.drop (K.length + 1) := ⟨_, rfl⟩
        have hDl : D.length ≤ 20000 := by have := HL.out; rw [hD]; simp; omega
        have x1 : s.extract H.size s.size = strOf D := WideShapes.bytes_inj (by rw [ext_toList s H.size s.size hHle (Nat.le_refl _), ← HL.out, List.take_length, strOf_data, hHs, hD])
        have i2 := fun w => spec_parts4 (strOf D) w (by rw [strOf_size]; omega)
        rw [strOf_data] at i2
        have hpl := parts_le D.length zeroL D 20000 (zero_le _) hDl
        have HXP : Hid (X = tailS K (partsS D.length zeroL D).1 (partsS D.length zeroL D).2) := Lib.hid (by rw [HXF.out, hD]; rfl)
        obtain ⟨⟨p1, R⟩, hP⟩ : ∃ P, partsS D.length zeroL D = P := ⟨_, rfl⟩
        rw [hP] at i2 hpl HXP
        dsimp only at i2 hpl HXP
        unfold stLV at i2
        have hRl : R.length ≤ 20000 := by omega
        have hkd3 : kd = strOf K := by rw [← hkd]; rfl
        subst hkd3
        have HKC : Hid (∀ W, KBox w W → W.cell? ⟨w.heap.size + 1, k, none⟩ = some (.string (strOf K))) := Lib.hid HKD.out
        clear hP hpl hD hp hks hHs hkl hkd HXF HKD
        by_cases r1 : R = [47, 62]
        · have e1 : (strOf R).toList = [47, 62] := by rw [str_list]; exact r1
          have HY : Hid (X = { p1 with k := K }) := Lib.hid (by rw [HXP.out]; unfold tailS; rw [if_pos r1])
          clear r1
          go_wp2_with (first | (go_at_call 62; go_fit (i1 _); rintro e w1 ⟨rfl, rfl⟩) | (go_at_call 63; go_fit (i2 _); rintro e w2 ⟨rfl, hb⟩; have HB2 := Lib.hid (HB.out.on hb); obtain ⟨⟨b0, b1, b2, b3, b4, b5⟩, ⟨g0, g1, g2, g3, g4, g5⟩, hz, hz1⟩ := HB2.out.cells; have hc2 := HKC.out _ HB2.out; clear hb))
          exact bodyPost_ret (v := stLV { p1 with k := K }) (by simp [results, Tryz.results64, go_sem, b0, b1, b2, b3, b4, b5, hz, stLV]; try omega) rfl ⟨by rw [HY.out], below_set6a HB2.out.2.2 (Nat.le_refl _) _ _ _ _ _ _ _⟩
        · cases R with
          | nil =>
            have e1 : (strOf []).toList = [] := by rw [str_list]
            have HY : Hid (X = { p1 with k := K }) := Lib.hid (by rw [HXP.out]; rfl)
            clear r1
            go_wp2_with (first | (go_at_call 62; go_fit (i1 _); rintro e w1 ⟨rfl, rfl⟩) | (go_at_call 63; go_fit (i2 _); rintro e w2 ⟨rfl, hb⟩; have HB2 := Lib.hid (HB.out.on hb); obtain ⟨⟨b0, b1, b2, b3, b4, b5⟩, ⟨g0, g1, g2, g3, g4, g5⟩, hz, hz1⟩ := HB2.out.cells; have hc2 := HKC.out _ HB2.out; clear hb))
            exact bodyPost_ret (v := stLV { p1 with k := K }) (by simp [results, Tryz.results64, go_sem, b0, b1, b2, b3, b4, b5, hz, stLV]; try omega) rfl ⟨by rw [HY.out], below_set6a HB2.out.2.2 (Nat.le_refl _) _ _ _ _ _ _ _⟩
          | cons c R =>
            obtain ⟨y1, y2, y3, y4, y5⟩ := cons_str c R
            have y6 : 0 < (strOf (c :: R)).size := by omega
            have y7 : (strOf (c :: R))[0].toNat = c.toNat := by rw [y4 y6]
            have m1 : ((strOf (c :: R)).toList == [47, 62]) = false := by rw [beq_eq_false_iff_ne, str_list]; exact r1
            have hR2 : R.length ≤ 20000 := by simp at hRl; omega
            clear y3 y4
            by_cases hc : c = 62
            · subst hc
              have i3 : ∀ w, Calls Tryz.prog 81 #[.string (strOf R), .int .u8 60] w fun e w' => e = .returned (.tuple #[.string (strOf (Lib.cut (strOf R).data.toList [60]).1), .string (strOf (Lib.cut (strOf R).data.toList [60]).2.1)]) ∧ Below w.heap.size w w' := fun w => spec_cut4 (strOf R) 60 w (by rw [strOf_size]; omega)
              rw [strOf_data] at i3
              have hle := (cut_le R 60).1
              have HY : Hid (X = { p1 with k := K, b := bodyS (Lib.cut R [60]).1 }) := Lib.hid (by rw [HXP.out]; unfold tailS; rw [if_neg r1]; simp only [if_true])
              obtain ⟨V, M, z2, hcut2⟩ : ∃ V M z2, Lib.cut R [60] = (V, M, z2) := ⟨_, _, _, rfl⟩
              rw [hcut2] at i3 HY hle
              dsimp only at i3 HY hle
              have i4 := fun w => spec_l04plain (strOf V) w (by rw [strOf_size]; omega)
              rw [strOf_data] at i4
              obtain ⟨Q, hQ⟩ : ∃ Q, Q = strOf (62 :: R) := ⟨_, rfl⟩
              have y8 : ∀ h : 0 < Q.size, ((Q[0].toNat : Int) != 62) = false := by subst hQ; intro h; rw [y7]; rfl
              rw [← hQ] at y1 y2 y5 y6 m1 i2
              have y8 := y8 y6
              clear hQ y7 r1 hcut2 HXP hRl
              go_wp2_with (first | (go_at_call 62; go_fit (i1 _); rintro e w1 ⟨rfl, rfl⟩) | (go_at_call 63; go_fit (i2 _); rintro e w2 ⟨rfl, hb⟩; have HB2 := Lib.hid (HB.out.on hb); obtain ⟨⟨b0, b1, b2, b3, b4, b5⟩, ⟨g0, g1, g2, g3, g4, g5⟩, hz, hz1⟩ := HB2.out.cells; have hc2 := HKC.out _ HB2.out; clear hb) | (go_at_call 81; go_fit (i3 _); rintro e w3 ⟨rfl, hb⟩; have HB3 := Lib.hid (HB2.out.on (below_one hb)); have HA3 := Lib.hid ((hb.block w2.heap.size (by simp)).trans (Arr.fresh w2 70 (stC { p1 with k := K }))); clear hb) | (go_at_call 83; go_fit (i4 _); rintro e w4 ⟨⟨u, bb, rfl, hr⟩, hb⟩; obtain rfl := plain_body hr; clear hr; have HB4 := Lib.hid (HB3.out.on hb); have HA4 := Lib.hid (arr_below HA3.out hb); obtain ⟨⟨b0, b1, b2, b3, b4, b5⟩, ⟨g0, g1, g2, g3, g4, g5⟩, hz, hz1⟩ := HB4.out.cells; obtain ⟨a0, a1, a2, a3, a4, a5, f0, f1, f2, f3, f4, f5⟩ := arr_six HA4.out; have hz2 := arr_lt HA4.out; clear hb))
              exact bodyPost_ret (v := stLV { p1 with k := K, b := bodyS V }) (by simp [results, Tryz.results64, go_sem, b0, b1, b2, b3, b4, b5, hz, stLV]; try omega) rfl ⟨by rw [HY.out], below_set6 (HB4.out.2.2.setCell (p := ⟨w2.heap.size, 5, none⟩) HB2.out.2.2.size _) (Nat.le_refl _) _ _ _ _ _ _⟩
            · have HY : Hid (X = { p1 with k := K }) := Lib.hid (by rw [HXP.out]; unfold tailS; rw [if_neg r1]; simp only; rw [if_neg hc])
              obtain ⟨Q, hQ⟩ : ∃ Q, Q = strOf (c :: R) := ⟨_, rfl⟩
              have y8 : ∀ h : 0 < Q.size, ((Q[0].toNat : Int) != 62) = true := by
                subst hQ
                intro h
                rw [y7, bne_iff_ne]
                intro e
                exact hc (UInt8.toNat_inj.1 (by rw [show (62 : UInt8).toNat = 62 from rfl]; omega))
              rw [← hQ] at y1 y2 y5 y6 m1 i2
              have y8 := y8 y6
              clear hQ y7 r1 HXP hRl
              go_wp2_with (first | (go_at_call 62; go_fit (i1 _); rintro e w1 ⟨rfl, rfl⟩) | (go_at_call 63; go_fit (i2 _); rintro e w2 ⟨rfl, hb⟩; have HB2 := Lib.hid (HB.out.on hb); obtain ⟨⟨b0, b1, b2, b3, b4, b5⟩, ⟨g0, g1, g2, g3, g4, g5⟩, hz, hz1⟩ := HB2.out.cells; have hc2 := HKC.out _ HB2.out; clear hb))
              exact bodyPost_ret (v := stLV { p1 with k := K }) (by simp [results, Tryz.results64, go_sem, b0, b1, b2, b3, b4, b5, hz, stLV]; try omega) rfl ⟨by rw [HY.out], below_set6a HB2.out.2.2 (Nat.le_refl _) _ _ _ _ _ _ _⟩
    · have HXN : Hid (X = zeroL) := Lib.hid (by
        rw [← HX.out]
        unfold rdS
        rw [find_none (fun j h hj => HN.out j h (by omega))])
      have hk4 : k = 4 := by omega
      subst hk4
      go_wp2
      exact bodyPost_ret (v := stLV zeroL) (by simp [results, Tryz.results64, go_sem, b0, b1, b2, b3, b4, b5, hz, stLV, zeroL, strOf]; try omega) rfl ⟨by rw [HXN.out], below_set6 HB.out.2.2 (Nat.le_refl _) _ _ _ _ _ _⟩
end Go.Proofs.YtgcfognljkebjaaGreatDoor
