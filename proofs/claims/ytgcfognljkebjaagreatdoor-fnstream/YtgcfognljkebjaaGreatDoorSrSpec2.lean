/- What spec.l04Parts answers. -/
import Derived.Test.YtgcfognljkebjaaGreatDoorSrSpec1
namespace Go.Proofs.YtgcfognljkebjaaGreatDoor
set_option linter.unusedSimpArgs false
set_option linter.unusedVariables false
open Go.RowKit

/-- A stanza's cells, out of lists. -/
def stC (s : StL) : List Value := [.string (strOf s.k), .string (strOf s.t), .string (strOf s.f), .string (strOf s.o), .int .i64 s.n, .string (strOf s.b)]
def stLV (s : StL) : Value := .agg #[.string (strOf s.k), .string (strOf s.t), .string (strOf s.f), .string (strOf s.o), .int .i64 s.n, .string (strOf s.b)]
theorem arr_six {w : World} {g t : Nat} {a b c d e f : Value} (h : Arr w g t [a, b, c, d, e, f]) : w.cell? ⟨g, 0, none⟩ = some a ∧ w.cell? ⟨g, 1, none⟩ = some b ∧ w.cell? ⟨g, 2, none⟩ = some c ∧ w.cell? ⟨g, 3, none⟩ = some d ∧ w.cell? ⟨g, 4, none⟩ = some e ∧ w.cell? ⟨g, 5, none⟩ = some f ∧ w.frozen? ⟨g, 0, none⟩ = false ∧ w.frozen? ⟨g, 1, none⟩ = false ∧ w.frozen? ⟨g, 2, none⟩ = false ∧ w.frozen? ⟨g, 3, none⟩ = false ∧ w.frozen? ⟨g, 4, none⟩ = false ∧ w.frozen? ⟨g, 5, none⟩ = false :=
  ⟨h.cell 0, h.cell 1, h.cell 2, h.cell 3, h.cell 4, h.cell 5, h.free 0, h.free 1, h.free 2, h.free 3, h.free 4, h.free 5⟩
def sizQ : Value → Nat
  | .string s => s.size
  | _ => 0
theorem str_list (l : List UInt8) : (strOf l).toList = l := by rw [ByteArray.toList_eq, strOf_data]
theorem below_set6 {B g : Nat} {w w1 : World} (h : Below B w w1) (hg : B ≤ g) (a b c d e f : Value) : Below B w ((((((w1.setCell ⟨g, 0, none⟩ a).setCell ⟨g, 1, none⟩ b).setCell ⟨g, 2, none⟩ c).setCell ⟨g, 3, none⟩ d).setCell ⟨g, 4, none⟩ e).setCell ⟨g, 5, none⟩ f) :=
  (((((h.setCell (p := ⟨g, 0, none⟩) hg a).setCell (p := ⟨g, 1, none⟩) hg b).setCell (p := ⟨g, 2, none⟩) hg c).setCell (p := ⟨g, 3, none⟩) hg d).setCell (p := ⟨g, 4, none⟩) hg e).setCell (p := ⟨g, 5, none⟩) hg f
/-- Two boxes that a call has made: what it reads into, what it answers with. -/
def PBox (w W : World) (x : StL) : Prop := Arr W (w.heap.size + 1) 70 (stC x) ∧ Arr W w.heap.size 70 (stC zeroL) ∧ Below w.heap.size w W
theorem PBox.on {w W W2 : World} {x : StL} (h : PBox w W x) (hb : Below W.heap.size W W2) : PBox w W2 x := ⟨arr_below h.1 hb, arr_below h.2.1 hb, h.2.2.trans (hb.mono h.2.2.size)⟩
theorem PBox.put {w W : World} {x y : StL} (h : PBox w W x) (i : Nat) (v : Value) (e : (stC x).set i v = stC y) : PBox w (W.setCell ⟨w.heap.size + 1, i, none⟩ v) y :=
  ⟨e ▸ h.1.put i v, arr_other h.2.1 _ _ _ (by omega), h.2.2.setCell (p := ⟨w.heap.size + 1, i, none⟩) (Nat.le_succ _) v⟩
theorem PBox.cells {w W : World} {x : StL} (h : PBox w W x) :
    (W.cell? ⟨w.heap.size + 1, 0, none⟩ = some (.string (strOf x.k)) ∧ W.cell? ⟨w.heap.size + 1, 1, none⟩ = some (.string (strOf x.t)) ∧ W.cell? ⟨w.heap.size + 1, 2, none⟩ = some (.string (strOf x.f)) ∧ W.cell? ⟨w.heap.size + 1, 3, none⟩ = some (.string (strOf x.o)) ∧ W.cell? ⟨w.heap.size + 1, 4, none⟩ = some (.int .i64 x.n) ∧ W.cell? ⟨w.heap.size + 1, 5, none⟩ = some (.string (strOf x.b))) ∧
    (W.frozen? ⟨w.heap.size + 1, 0, none⟩ = false ∧ W.frozen? ⟨w.heap.size + 1, 1, none⟩ = false ∧ W.frozen? ⟨w.heap.size + 1, 2, none⟩ = false ∧ W.frozen? ⟨w.heap.size + 1, 3, none⟩ = false ∧ W.frozen? ⟨w.heap.size + 1, 4, none⟩ = false ∧ W.frozen? ⟨w.heap.size + 1, 5, none⟩ = false) ∧
    (W.cell? ⟨w.heap.size, 0, none⟩ = some (.string ⟨#[]⟩) ∧ W.cell? ⟨w.heap.size, 1, none⟩ = some (.string ⟨#[]⟩) ∧ W.cell? ⟨w.heap.size, 2, none⟩ = some (.string ⟨#[]⟩) ∧ W.cell? ⟨w.heap.size, 3, none⟩ = some (.string ⟨#[]⟩) ∧ W.cell? ⟨w.heap.size, 4, none⟩ = some (.int .i64 0) ∧ W.cell? ⟨w.heap.size, 5, none⟩ = some (.string ⟨#[]⟩)) ∧
    (W.frozen? ⟨w.heap.size, 0, none⟩ = false ∧ W.frozen? ⟨w.heap.size, 1, none⟩ = false ∧ W.frozen? ⟨w.heap.size, 2, none⟩ = false ∧ W.frozen? ⟨w.heap.size, 3, none⟩ = false ∧ W.frozen? ⟨w.heap.size, 4, none⟩ = false ∧ W.frozen? ⟨w.heap.size, 5, none⟩ = false) ∧ w.heap.size < W.heap.size := by
  obtain ⟨a0, a1, a2, a3, a4, a5, f0, f1, f2, f3, f4, f5⟩ := arr_six h.1
  obtain ⟨b0, b1, b2, b3, b4, b5, g0, g1, g2, g3, g4, g5⟩ := arr_six h.2.1
  exact ⟨⟨a0, a1, a2, a3, a4, a5⟩, ⟨f0, f1, f2, f3, f4, f5⟩, ⟨b0, b1, b2, b3, b4, b5⟩, ⟨g0, g1, g2, g3, g4, g5⟩, arr_lt h.2.1⟩
theorem cons_str (c : UInt8) (L : List UInt8) : (strOf (c :: L)).toList ≠ [] ∧ (strOf (c :: L)).toList.isEmpty = false ∧ (strOf (c :: L)).size = L.length + 1 ∧ (∀ h : 0 < (strOf (c :: L)).size, (strOf (c :: L))[0] = c) ∧ (strOf (c :: L)).extract 1 (strOf (c :: L)).size = strOf L := by
  refine ⟨by rw [str_list]; simp, by rw [str_list]; rfl, by rw [strOf_size]; rfl, fun _ => rfl, WideShapes.bytes_inj ?_⟩
  rw [ext_toList _ _ _ (by rw [strOf_size]; simp) (Nat.le_refl _), strOf_data, strOf_data, strOf_size, List.take_length]
  rfl
set_option maxRecDepth 100000 in
set_option maxHeartbeats 1000000 in
theorem spec_parts4 (s : ByteArray) (w : World) (hs : s.size ≤ 2000000) :
    Calls Tryz.prog 63 #[.string s] w fun e w' => e = .returned (.tuple #[stLV (partsS s.data.toList.length zeroL s.data.toList).1, .string (strOf (partsS s.data.toList.length zeroL s.data.toList).2)]) ∧ Below w.heap.size w w' := by
  have hlen := size_data s
  obtain ⟨T, hT⟩ : ∃ T, T = s.data.toList := ⟨_, rfl⟩
  rw [← hT] at hlen ⊢
  obtain rfl : s = strOf T := by rw [hT]; rfl
  obtain ⟨P, hP⟩ : ∃ P, partsS T.length zeroL T = P := ⟨_, rfl⟩
  rw [hP]
  rw [strOf_size] at hs
  clear hT hlen
  have HP := Lib.hid hP
  clear hP
  go_enter Tryz.func63, Tryz.ntmps63
  go_wp2
  go_loopw [0] (fun q W => ∃ (x : StL) (L : List UInt8), q = .string (strOf L) ∧ L.length ≤ T.length ∧ partsS L.length x L = P ∧ PBox w W x) (fun q _ => sizQ q)
  case atStart =>
    refine ⟨zeroL, T, rfl, Nat.le_refl _, HP.out, ?_, ?_, ((Below.refl _ _).alloc (Nat.le_refl _) _).alloc (by simp) _⟩
    · have := Arr.fresh (w.alloc (.cells (stC zeroL).toArray 70)) 70 (stC zeroL)
      rw [World.size_alloc] at this
      exact this
    · exact arr_alloc (Arr.fresh w 70 (stC zeroL)) _
  case round =>
    obtain ⟨x, L, rfl, hL, hp, hB⟩ := hrel
    have HB := Lib.hid hB
    obtain ⟨⟨a0, a1, a2, a3, a4, a5⟩, ⟨f0, f1, f2, f3, f4, f5⟩, ⟨b0, b1, b2, b3, b4, b5⟩, ⟨g0, g1, g2, g3, g4, g5⟩, hz⟩ := hB.cells
    have HPp := Lib.hid hp
    clear hB hp
    cases L with
    | nil =>
      have HX : Hid (P = (x, [])) := Lib.hid HPp.out.symm
      have e1 : (strOf []).toList = [] := by rw [str_list]
      go_wp2
      exact bodyPost_ret (v := .tuple #[stLV x, .string (strOf [])]) (by simp [results, Tryz.results63, go_sem, a0, a1, a2, a3, a4, a5, b0, b1, b2, b3, b4, b5, hz, stLV]; try omega) rfl ⟨by rw [HX.out], below_set6 HB.out.2.2 (Nat.le_refl _) _ _ _ _ _ _⟩
    | cons c L =>
      obtain ⟨y1, y2, y3, y4, y5⟩ := cons_str c L
      have hL2 : L.length ≤ 2000000 := by simp at hL; omega
      have y6 : 0 < (strOf (c :: L)).size := by omega
      have y7 : (strOf (c :: L))[0].toNat = c.toNat := by rw [y4 y6]
      clear y4
      by_cases hc : c = 32
      · subst hc
        have i1 : ∀ w, Calls Tryz.prog 81 #[.string (strOf L), .int .u8 61] w fun e w' => e = .returned (.tuple #[.string (strOf (Lib.cut (strOf L).data.toList [61]).1), .string (strOf (Lib.cut (strOf L).data.toList [61]).2.1)]) ∧ Below w.heap.size w w' := fun w => spec_cut4 (strOf L) 61 w (by rw [strOf_size]; exact hL2)
        rw [strOf_data] at i1
        have hpe : partsS (L.length + 1) x (32 :: L) = P := HPp.out
        simp only [partsS, if_true] at hpe
        have c1 := cut_le L 61
        obtain ⟨N, Y, z, hcut⟩ : ∃ N Y z, Lib.cut L [61] = (N, Y, z) := ⟨_, _, _, rfl⟩
        rw [hcut] at i1 hpe c1
        dsimp only at i1 hpe c1
        clear hcut
        obtain ⟨U, hU⟩ : ∃ U, U = strOf (32 :: L) := ⟨_, rfl⟩
        have HU := Lib.hid hU
        have y8 : ∀ h : 0 < U.size, ((U[0].toNat : Int) == 32) = true := by subst hU; intro h; rw [y7]; rfl
        rw [← hU] at y1 y2 y3 y5 y6 ⊢
        have y8 := y8 y6
        clear hU y7
        cases Y with
        | nil =>
          have HX : Hid (P = (x, 32 :: L)) := Lib.hid hpe.symm
          have e1 : (strOf []).toList = [] := by rw [str_list]
          clear hpe c1 y3
          go_wp2_with (go_at_call 81; go_fit (i1 _); rintro e w1 ⟨rfl, hb⟩; have HB1 := Lib.hid (HB.out.on hb); obtain ⟨⟨a0, a1, a2, a3, a4, a5⟩, ⟨f0, f1, f2, f3, f4, f5⟩, ⟨b0, b1, b2, b3, b4, b5⟩, ⟨g0, g1, g2, g3, g4, g5⟩, hz⟩ := HB1.out.cells; clear hb)
          exact bodyPost_ret (v := .tuple #[stLV x, .string U]) (by simp [results, Tryz.results63, go_sem, a0, a1, a2, a3, a4, a5, b0, b1, b2, b3, b4, b5, hz, stLV]; try omega) rfl ⟨by rw [HX.out, HU.out], below_set6 HB1.out.2.2 (Nat.le_refl _) _ _ _ _ _ _⟩
        | cons q R =>
          obtain ⟨v1, v2, v3, v4, v5⟩ := cons_str q R
          have v6 : 0 < (strOf (q :: R)).size := by omega
          have v7 : (strOf (q :: R))[0].toNat = q.toNat := by rw [v4 v6]
          clear v4
          dsimp only at hpe
          have hR2 : R.length ≤ 2000000 := by have := c1.2; simp at this; omega
          by_cases hq : q = 39
          · subst hq
            rw [if_pos rfl] at hpe
            have i2 : ∀ w, Calls Tryz.prog 81 #[.string (strOf R), .int .u8 39] w fun e w' => e = .returned (.tuple #[.string (strOf (Lib.cut (strOf R).data.toList [39]).1), .string (strOf (Lib.cut (strOf R).data.toList [39]).2.1)]) ∧ Below w.heap.size w w' := fun w => spec_cut4 (strOf R) 39 w (by rw [strOf_size]; exact hR2)
            rw [strOf_data] at i2
            have c2 := cut_le R 39
            have c3 := cut_len R 39
            obtain ⟨V, M, z2, hcut2⟩ : ∃ V M z2, Lib.cut R [39] = (V, M, z2) := ⟨_, _, _, rfl⟩
            rw [hcut2] at i2 hpe c2 c3
            dsimp only at i2 hpe c2 c3
            clear hcut2
            obtain ⟨c2a, c2b⟩ := c2
            have hRl : R.length + 1 ≤ L.length := by have := c1.2; simpa using this
            have HX : Hid (partsS M.length (withF x N V) M = P) := Lib.hid (by rw [← hpe]; exact parts_fuel _ _ _ _ (Nat.le_refl _) (by omega))
            have hMT : M.length ≤ T.length := by simp at hL; omega
            have hMU : M.length < U.size := by omega
            have HM := Lib.hid (show M.length ≤ T.length ∧ M.length < U.size from ⟨hMT, hMU⟩)
            have i3 := fun w => spec_num4 (strOf V) w (by rw [strOf_size]; omega)
            rw [strOf_data] at i3
            obtain ⟨Q, hQ⟩ : ∃ Q, Q = strOf (39 :: R) := ⟨_, rfl⟩
            have v8 : ∀ h : 0 < Q.size, ((Q[0].toNat : Int) != 39) = false := by subst hQ; intro h; rw [v7]; rfl
            rw [← hQ] at v1 v2 v3 v5 v6 i1
            have v8 := v8 v6
            clear hQ v7 hpe c1 c2a c2b c3 hMT hMU hL hRl y3 v3
            have hn := str_list N
            have hsz : sizQ (.string (strOf M)) < sizQ (.string U) := by show (strOf M).size < U.size; rw [strOf_size]; exact HM.out.2
            have HS := Lib.hid hsz
            clear hsz
            by_cases n1 : N = wType
            · subst n1
              have m1 : (strOf wType).toList = [116, 121, 112, 101] := hn
              clear hn
              go_wp2_with (first | (go_at_call 81; go_fit (i1 _); rintro e w1 ⟨rfl, hb⟩; have HB1 := Lib.hid (HB.out.on hb); obtain ⟨⟨a0, a1, a2, a3, a4, a5⟩, ⟨f0, f1, f2, f3, f4, f5⟩, ⟨b0, b1, b2, b3, b4, b5⟩, ⟨g0, g1, g2, g3, g4, g5⟩, hz⟩ := HB1.out.cells; clear hb) | (go_at_call 81; go_fit (i2 _); rintro e w2 ⟨rfl, hb⟩; have HB2 := Lib.hid (HB1.out.on hb); obtain ⟨⟨a0, a1, a2, a3, a4, a5⟩, ⟨f0, f1, f2, f3, f4, f5⟩, ⟨b0, b1, b2, b3, b4, b5⟩, ⟨g0, g1, g2, g3, g4, g5⟩, hz⟩ := HB2.out.cells; clear hb))
              exact ⟨⟨withF x wType V, M, rfl, HM.out.1, HX.out, HB2.out.put 1 _ (by simp [withF, stC])⟩, HS.out⟩
            by_cases n2 : N = wFrom
            · subst n2
              have m1 : (strOf wFrom).toList = [102, 114, 111, 109] := hn
              clear hn n1
              go_wp2_with (first | (go_at_call 81; go_fit (i1 _); rintro e w1 ⟨rfl, hb⟩; have HB1 := Lib.hid (HB.out.on hb); obtain ⟨⟨a0, a1, a2, a3, a4, a5⟩, ⟨f0, f1, f2, f3, f4, f5⟩, ⟨b0, b1, b2, b3, b4, b5⟩, ⟨g0, g1, g2, g3, g4, g5⟩, hz⟩ := HB1.out.cells; clear hb) | (go_at_call 81; go_fit (i2 _); rintro e w2 ⟨rfl, hb⟩; have HB2 := Lib.hid (HB1.out.on hb); obtain ⟨⟨a0, a1, a2, a3, a4, a5⟩, ⟨f0, f1, f2, f3, f4, f5⟩, ⟨b0, b1, b2, b3, b4, b5⟩, ⟨g0, g1, g2, g3, g4, g5⟩, hz⟩ := HB2.out.cells; clear hb))
              exact ⟨⟨withF x wFrom V, M, rfl, HM.out.1, HX.out, HB2.out.put 2 _ (by simp [withF, stC, wType, wFrom])⟩, HS.out⟩
            by_cases n3 : N = wTo
            · subst n3
              have m1 : (strOf wTo).toList = [116, 111] := hn
              clear hn n1 n2
              go_wp2_with (first | (go_at_call 81; go_fit (i1 _); rintro e w1 ⟨rfl, hb⟩; have HB1 := Lib.hid (HB.out.on hb); obtain ⟨⟨a0, a1, a2, a3, a4, a5⟩, ⟨f0, f1, f2, f3, f4, f5⟩, ⟨b0, b1, b2, b3, b4, b5⟩, ⟨g0, g1, g2, g3, g4, g5⟩, hz⟩ := HB1.out.cells; clear hb) | (go_at_call 81; go_fit (i2 _); rintro e w2 ⟨rfl, hb⟩; have HB2 := Lib.hid (HB1.out.on hb); obtain ⟨⟨a0, a1, a2, a3, a4, a5⟩, ⟨f0, f1, f2, f3, f4, f5⟩, ⟨b0, b1, b2, b3, b4, b5⟩, ⟨g0, g1, g2, g3, g4, g5⟩, hz⟩ := HB2.out.cells; clear hb))
              exact ⟨⟨withF x wTo V, M, rfl, HM.out.1, HX.out, HB2.out.put 3 _ (by simp [withF, stC, wType, wFrom, wTo])⟩, HS.out⟩
            by_cases n4 : N = wId
            · subst n4
              have m1 : (strOf wId).toList = [105, 100] := hn
              clear hn n1 n2 n3
              go_wp2_with (first | (go_at_call 81; go_fit (i1 _); rintro e w1 ⟨rfl, hb⟩; have HB1 := Lib.hid (HB.out.on hb); obtain ⟨⟨a0, a1, a2, a3, a4, a5⟩, ⟨f0, f1, f2, f3, f4, f5⟩, ⟨b0, b1, b2, b3, b4, b5⟩, ⟨g0, g1, g2, g3, g4, g5⟩, hz⟩ := HB1.out.cells; clear hb) | (go_at_call 81; go_fit (i2 _); rintro e w2 ⟨rfl, hb⟩; have HB2 := Lib.hid (HB1.out.on hb); obtain ⟨⟨a0, a1, a2, a3, a4, a5⟩, ⟨f0, f1, f2, f3, f4, f5⟩, ⟨b0, b1, b2, b3, b4, b5⟩, ⟨g0, g1, g2, g3, g4, g5⟩, hz⟩ := HB2.out.cells; clear hb) | (go_at_call 82; go_fit (i3 _); rintro e w3 ⟨rfl, rfl⟩))
              exact ⟨⟨withF x wId V, M, rfl, HM.out.1, HX.out, HB2.out.put 4 _ (by simp [withF, stC, wType, wFrom, wTo, wId])⟩, HS.out⟩
            have m1 : ((strOf N).toList == [116, 121, 112, 101]) = false := by rw [beq_eq_false_iff_ne, hn]; exact n1
            have m2 : ((strOf N).toList == [102, 114, 111, 109]) = false := by rw [beq_eq_false_iff_ne, hn]; exact n2
            have m3 : ((strOf N).toList == [116, 111]) = false := by rw [beq_eq_false_iff_ne, hn]; exact n3
            have m4 : ((strOf N).toList == [105, 100]) = false := by rw [beq_eq_false_iff_ne, hn]; exact n4
            have HW : Hid (withF x N V = x) := Lib.hid (by unfold withF; rw [if_neg n1, if_neg n2, if_neg n3, if_neg n4])
            clear hn n1 n2 n3 n4
            go_wp2_with (first | (go_at_call 81; go_fit (i1 _); rintro e w1 ⟨rfl, hb⟩; have HB1 := Lib.hid (HB.out.on hb); obtain ⟨⟨a0, a1, a2, a3, a4, a5⟩, ⟨f0, f1, f2, f3, f4, f5⟩, ⟨b0, b1, b2, b3, b4, b5⟩, ⟨g0, g1, g2, g3, g4, g5⟩, hz⟩ := HB1.out.cells; clear hb) | (go_at_call 81; go_fit (i2 _); rintro e w2 ⟨rfl, hb⟩; have HB2 := Lib.hid (HB1.out.on hb); obtain ⟨⟨a0, a1, a2, a3, a4, a5⟩, ⟨f0, f1, f2, f3, f4, f5⟩, ⟨b0, b1, b2, b3, b4, b5⟩, ⟨g0, g1, g2, g3, g4, g5⟩, hz⟩ := HB2.out.cells; clear hb))
            exact ⟨⟨withF x N V, M, rfl, HM.out.1, HX.out, by rw [HW.out]; exact HB2.out⟩, HS.out⟩
          · have HX : Hid (P = (x, 32 :: L)) := Lib.hid (by rw [← hpe, if_neg hq])
            obtain ⟨Q, hQ⟩ : ∃ Q, Q = strOf (q :: R) := ⟨_, rfl⟩
            have v8 : ∀ h : 0 < Q.size, ((Q[0].toNat : Int) != 39) = true := by
              subst hQ
              intro h
              rw [v7, bne_iff_ne]
              intro e
              exact hq (UInt8.toNat_inj.1 (by rw [show (39 : UInt8).toNat = 39 from rfl]; omega))
            rw [← hQ] at v1 v2 v3 v5 v6 i1
            have v8 := v8 v6
            clear hQ v7 hpe c1 y3 v3
            go_wp2_with (go_at_call 81; go_fit (i1 _); rintro e w1 ⟨rfl, hb⟩; have HB1 := Lib.hid (HB.out.on hb); obtain ⟨⟨a0, a1, a2, a3, a4, a5⟩, ⟨f0, f1, f2, f3, f4, f5⟩, ⟨b0, b1, b2, b3, b4, b5⟩, ⟨g0, g1, g2, g3, g4, g5⟩, hz⟩ := HB1.out.cells; clear hb)
            exact bodyPost_ret (v := .tuple #[stLV x, .string U]) (by simp [results, Tryz.results63, go_sem, a0, a1, a2, a3, a4, a5, b0, b1, b2, b3, b4, b5, hz, stLV]; try omega) rfl ⟨by rw [HX.out, HU.out], below_set6 HB1.out.2.2 (Nat.le_refl _) _ _ _ _ _ _⟩
      · have HX : Hid (P = (x, c :: L)) := Lib.hid (by rw [← HPp.out]; exact parts_end _ _ hc)
        obtain ⟨U, hU⟩ : ∃ U, U = strOf (c :: L) := ⟨_, rfl⟩
        have HU := Lib.hid hU
        have y8 : ∀ h : 0 < U.size, ((U[0].toNat : Int) == 32) = false := by
          subst hU
          intro h
          rw [y7, beq_eq_false_iff_ne]
          intro e
          exact hc (UInt8.toNat_inj.1 (by rw [show (32 : UInt8).toNat = 32 from rfl]; omega))
        rw [← hU] at y1 y2 y3 y5 y6 ⊢
        have y8 := y8 y6
        clear hU y7 y3
        go_wp2
        exact bodyPost_ret (v := .tuple #[stLV x, .string U]) (by simp [results, Tryz.results63, go_sem, a0, a1, a2, a3, a4, a5, b0, b1, b2, b3, b4, b5, hz, stLV]; try omega) rfl ⟨by rw [HX.out, HU.out], below_set6 HB.out.2.2 (Nat.le_refl _) _ _ _ _ _ _⟩
end Go.Proofs.YtgcfognljkebjaaGreatDoor
