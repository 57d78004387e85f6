/- What spec.l04Mark answers. -/
import Derived.Test.YtgcfognljkebjaaGreatDoorStTextS
import Derived.Lib.SmallJoins
namespace Go.Proofs.YtgcfognljkebjaaGreatDoor
set_option linter.unusedSimpArgs false
set_option linter.unusedVariables false
open Go.RowKit

theorem id_some {n : Int} (h0 : 0 ≤ n) (h1 : n ≤ 1000000000) (hz : n ≠ 0) : idL n ≠ [] := by
  unfold idL Lib.itoa
  rw [if_neg hz, if_neg (by omega), Lib.decDigits]
  split <;> simp
set_option maxRecDepth 100000 in
set_option maxHeartbeats 8000000 in
theorem spec_mark (k t f o : ByteArray) (n : Int) (b : ByteArray) (w : World) (hk : k.size ≤ 2000000) (ht : t.size ≤ 2000000) (hf : f.size ≤ 2000000) (ho : o.size ≤ 2000000) (hn0 : 0 ≤ n) (hn1 : n ≤ 1000000000) (hbz : b.size ≤ 100000) :
    Calls Tryz.prog 69 #[.agg #[.string k, .string t, .string f, .string o, .int .i64 n, .string b]] w fun e w' => e = .returned (.string (strOf (markL k.data.toList t.data.toList f.data.toList o.data.toList n b.data.toList))) ∧ Below w.heap.size w w' := by
  have HK := Lib.hid (fun W (h : Below (w.alloc (.cells #[.string k, .string t, .string f, .string o, .int .i64 n, .string b] 70)).heap.size (w.alloc (.cells #[.string k, .string t, .string f, .string o, .int .i64 n, .string b] 70)) W) => (box_six h).1)
  have hb : Below (w.alloc (.cells #[.string k, .string t, .string f, .string o, .int .i64 n, .string b] 70)).heap.size (w.alloc (.cells #[.string k, .string t, .string f, .string o, .int .i64 n, .string b] 70)) (w.alloc (.cells #[.string k, .string t, .string f, .string o, .int .i64 n, .string b] 70)) := Below.refl _ _
  obtain ⟨L, hL⟩ : ∃ L, L = strOf (markL k.data.toList t.data.toList f.data.toList o.data.toList n b.data.toList) := ⟨_, rfl⟩
  rw [← hL]
  have HL := Lib.hid hL
  clear hL
  rcases Nat.eq_zero_or_pos t.size with g0 | g0
  · obtain ⟨n0, e0⟩ := empty_of g0
    have z0 := list_none g0
    rcases Nat.eq_zero_or_pos f.size with g1 | g1
    · obtain ⟨n1, e1⟩ := empty_of g1
      have z1 := list_none g1
      rcases Nat.eq_zero_or_pos o.size with g2 | g2
      · obtain ⟨n2, e2⟩ := empty_of g2
        have z2 := list_none g2
        by_cases g3 : n = 0
        · subst g3
          have z3 : idL 0 = [] := rfl
          rcases Nat.eq_zero_or_pos b.size with g4 | g4
          · obtain ⟨n4, e4⟩ := empty_of g4
            have z4 := list_none g4
            go_enter Tryz.func69, Tryz.ntmps69
            go_wp2
            go_ret
            exact ⟨ret_str (WideShapes.bytes_inj (by rw [HL.out, strOf_data]; simp [markL, headL, endL, fldL, wType, wFrom, wTo, wId, Joins.data_append, z0, z1, z2, z3, z4])), below_one hb⟩
          · have n4 := ne_nil g4
            have e4 := not_empty g4
            have z4 := list_some g4
            have i2 := fun w => spec_esc b w hbz
            obtain ⟨E, hE⟩ : ∃ E, E = strOf (escL b.data.toList) := ⟨_, rfl⟩
            have hEs : E.size ≤ 600000 := by rw [hE, strOf_size]; have := escL_len b.data.toList; rw [size_data] at this; omega
            have zE : E.data.toList = escL b.data.toList := by rw [hE, strOf_data]
            rw [← hE] at i2
            clear hE
            go_enter Tryz.func69, Tryz.ntmps69
            go_wp2
            generalize hG : (⟨#[60]⟩ : ByteArray) ++ k = Y
            have hY : Y.size ≤ 20000000 := by rw [← hG]; simp only [ByteArray.size_append]; have l0 : (⟨#[60]⟩ : ByteArray).size = 1 := rfl; have l1 : (⟨#[32, 116, 121, 112, 101, 61, 39]⟩ : ByteArray).size = 7 := rfl; have l2 : (⟨#[32, 102, 114, 111, 109, 61, 39]⟩ : ByteArray).size = 7 := rfl; have l3 : (⟨#[32, 116, 111, 61, 39]⟩ : ByteArray).size = 5 := rfl; have l4 : (⟨#[32, 105, 100, 61, 39]⟩ : ByteArray).size = 5 := rfl; have l5 : (⟨#[39]⟩ : ByteArray).size = 1 := rfl; omega
            have zY := congrArg (fun s : ByteArray => s.data.toList) hG
            have ZY := Lib.hid zY
            clear hG zY
            have m1 : ¬ (9223372036854775807 < Y.size + 1) := by omega
            have m2 : ¬ (9223372036854775807 < Y.size + 1 + E.size) := by omega
            have m3 : ¬ (9223372036854775807 < Y.size + 1 + E.size + 2) := by omega
            have m4 : ¬ (9223372036854775807 < Y.size + 1 + E.size + 2 + k.size) := by omega
            have m5 : ¬ (9223372036854775807 < Y.size + 1 + E.size + 2 + k.size + 1) := by omega
            go_region_held3 (fun W => (W.cell? ⟨w.heap.size, 0, none⟩ = some (.string k) ∧ W.cell? ⟨w.heap.size, 1, none⟩ = some (.string t) ∧ W.cell? ⟨w.heap.size, 2, none⟩ = some (.string f) ∧ W.cell? ⟨w.heap.size, 3, none⟩ = some (.string o) ∧ W.cell? ⟨w.heap.size, 4, none⟩ = some (.int .i64 0) ∧ W.cell? ⟨w.heap.size, 5, none⟩ = some (.string b)) ∧ Below (w.alloc (.cells #[.string k, .string t, .string f, .string o, .int .i64 0, .string b] 70)).heap.size (w.alloc (.cells #[.string k, .string t, .string f, .string o, .int .i64 0, .string b] 70)) W) (with_reducible first | assumption | exact box_six hb.drew | exact box_six (heldOn (by assumption) hbN)) (first | (go_at_call 93; go_fit (i2 _); rintro e w2 ⟨rfl, hbN⟩; have hbF := heldOn (by assumption) hbN))
            all_goals
              go_wp2
              go_ret
              exact ⟨ret_str (WideShapes.bytes_inj (by rw [HL.out, strOf_data]; have zy := ZY.out; simp [Joins.data_append] at zy; simp [markL, headL, endL, fldL, wType, wFrom, wTo, wId, Joins.data_append, z0, z1, z2, z3, z4, zE, ← zy])), below_one hbF⟩
        · have e3 : (n != 0) = true := by rw [bne_iff_ne]; exact g3
          have i1 := fun w => spec_dec n w (by omega) hn1
          obtain ⟨D, hD⟩ : ∃ D, D = strOf (idL n) := ⟨_, rfl⟩
          have hDs : D.size ≤ 10 := by rw [hD, strOf_size]; exact id_len hn0 hn1
          have zD : D.data.toList = idL n := by rw [hD, strOf_data]
          rw [← hD] at i1
          clear hD
          have z3 := id_some hn0 hn1 g3
          rcases Nat.eq_zero_or_pos b.size with g4 | g4
          · obtain ⟨n4, e4⟩ := empty_of g4
            have z4 := list_none g4
            go_enter Tryz.func69, Tryz.ntmps69
            go_wp2_with (go_at_call 46; go_fit (i1 _); rintro e w1 ⟨rfl, hb2⟩; replace hb := hb.trans (hb2.mono hb.size); clear hb2; obtain ⟨c0, c1, c2, c3, c4, c5⟩ := HK.out _ hb)
            go_ret
            exact ⟨ret_str (WideShapes.bytes_inj (by rw [HL.out, strOf_data]; simp [markL, headL, endL, fldL, wType, wFrom, wTo, wId, Joins.data_append, z0, z1, z2, z3, z4, zD])), below_one hb⟩
          · have n4 := ne_nil g4
            have e4 := not_empty g4
            have z4 := list_some g4
            have i2 := fun w => spec_esc b w hbz
            obtain ⟨E, hE⟩ : ∃ E, E = strOf (escL b.data.toList) := ⟨_, rfl⟩
            have hEs : E.size ≤ 600000 := by rw [hE, strOf_size]; have := escL_len b.data.toList; rw [size_data] at this; omega
            have zE : E.data.toList = escL b.data.toList := by rw [hE, strOf_data]
            rw [← hE] at i2
            clear hE
            go_enter Tryz.func69, Tryz.ntmps69
            go_wp2_with (go_at_call 46; go_fit (i1 _); rintro e w1 ⟨rfl, hb2⟩; replace hb := hb.trans (hb2.mono hb.size); clear hb2; obtain ⟨c0, c1, c2, c3, c4, c5⟩ := HK.out _ hb)
            generalize hG : (⟨#[60]⟩ : ByteArray) ++ k ++ ⟨#[32, 105, 100, 61, 39]⟩ ++ D ++ ⟨#[39]⟩ = Y
            have hY : Y.size ≤ 20000000 := by rw [← hG]; simp only [ByteArray.size_append]; have l0 : (⟨#[60]⟩ : ByteArray).size = 1 := rfl; have l1 : (⟨#[32, 116, 121, 112, 101, 61, 39]⟩ : ByteArray).size = 7 := rfl; have l2 : (⟨#[32, 102, 114, 111, 109, 61, 39]⟩ : ByteArray).size = 7 := rfl; have l3 : (⟨#[32, 116, 111, 61, 39]⟩ : ByteArray).size = 5 := rfl; have l4 : (⟨#[32, 105, 100, 61, 39]⟩ : ByteArray).size = 5 := rfl; have l5 : (⟨#[39]⟩ : ByteArray).size = 1 := rfl; omega
            have zY := congrArg (fun s : ByteArray => s.data.toList) hG
            have ZY := Lib.hid zY
            clear hG zY
            have m1 : ¬ (9223372036854775807 < Y.size + 1) := by omega
            have m2 : ¬ (9223372036854775807 < Y.size + 1 + E.size) := by omega
            have m3 : ¬ (9223372036854775807 < Y.size + 1 + E.size + 2) := by omega
            have m4 : ¬ (9223372036854775807 < Y.size + 1 + E.size + 2 + k.size) := by omega
            have m5 : ¬ (9223372036854775807 < Y.size + 1 + E.size + 2 + k.size + 1) := by omega
            go_region_held3 (fun W => (W.cell? ⟨w.heap.size, 0, none⟩ = some (.string k) ∧ W.cell? ⟨w.heap.size, 1, none⟩ = some (.string t) ∧ W.cell? ⟨w.heap.size, 2, none⟩ = some (.string f) ∧ W.cell? ⟨w.heap.size, 3, none⟩ = some (.string o) ∧ W.cell? ⟨w.heap.size, 4, none⟩ = some (.int .i64 n) ∧ W.cell? ⟨w.heap.size, 5, none⟩ = some (.string b)) ∧ Below (w.alloc (.cells #[.string k, .string t, .string f, .string o, .int .i64 n, .string b] 70)).heap.size (w.alloc (.cells #[.string k, .string t, .string f, .string o, .int .i64 n, .string b] 70)) W) (with_reducible first | assumption | exact box_six hb.drew | exact box_six (heldOn (by assumption) hbN)) (first | (go_at_call 93; go_fit (i2 _); rintro e w2 ⟨rfl, hbN⟩; have hbF := heldOn (by assumption) hbN))
            all_goals
              go_wp2
              go_ret
              exact ⟨ret_str (WideShapes.bytes_inj (by rw [HL.out, strOf_data]; have zy := ZY.out; simp [Joins.data_append] at zy; simp [markL, headL, endL, fldL, wType, wFrom, wTo, wId, Joins.data_append, z0, z1, z2, z3, z4, zD, zE, ← zy])), below_one hbF⟩
      · have n2 := ne_nil g2
        have e2 := not_empty g2
        have z2 := list_some g2
        by_cases g3 : n = 0
        · subst g3
          have z3 : idL 0 = [] := rfl
          rcases Nat.eq_zero_or_pos b.size with g4 | g4
          · obtain ⟨n4, e4⟩ := empty_of g4
            have z4 := list_none g4
            go_enter Tryz.func69, Tryz.ntmps69
            go_wp2
            go_ret
            exact ⟨ret_str (WideShapes.bytes_inj (by rw [HL.out, strOf_data]; simp [markL, headL, endL, fldL, wType, wFrom, wTo, wId, Joins.data_append, z0, z1, z2, z3, z4])), below_one hb⟩
          · have n4 := ne_nil g4
            have e4 := not_empty g4
            have z4 := list_some g4
            have i2 := fun w => spec_esc b w hbz
            obtain ⟨E, hE⟩ : ∃ E, E = strOf (escL b.data.toList) := ⟨_, rfl⟩
            have hEs : E.size ≤ 600000 := by rw [hE, strOf_size]; have := escL_len b.data.toList; rw [size_data] at this; omega
            have zE : E.data.toList = escL b.data.toList := by rw [hE, strOf_data]
            rw [← hE] at i2
            clear hE
            go_enter Tryz.func69, Tryz.ntmps69
            go_wp2
            generalize hG : (⟨#[60]⟩ : ByteArray) ++ k ++ ⟨#[32, 116, 111, 61, 39]⟩ ++ o ++ ⟨#[39]⟩ = Y
            have hY : Y.size ≤ 20000000 := by rw [← hG]; simp only [ByteArray.size_append]; have l0 : (⟨#[60]⟩ : ByteArray).size = 1 := rfl; have l1 : (⟨#[32, 116, 121, 112, 101, 61, 39]⟩ : ByteArray).size = 7 := rfl; have l2 : (⟨#[32, 102, 114, 111, 109, 61, 39]⟩ : ByteArray).size = 7 := rfl; have l3 : (⟨#[32, 116, 111, 61, 39]⟩ : ByteArray).size = 5 := rfl; have l4 : (⟨#[32, 105, 100, 61, 39]⟩ : ByteArray).size = 5 := rfl; have l5 : (⟨#[39]⟩ : ByteArray).size = 1 := rfl; omega
            have zY := congrArg (fun s : ByteArray => s.data.toList) hG
            have ZY := Lib.hid zY
            clear hG zY
            have m1 : ¬ (9223372036854775807 < Y.size + 1) := by omega
            have m2 : ¬ (9223372036854775807 < Y.size + 1 + E.size) := by omega
            have m3 : ¬ (9223372036854775807 < Y.size + 1 + E.size + 2) := by omega
            have m4 : ¬ (9223372036854775807 < Y.size + 1 + E.size + 2 + k.size) := by omega
            have m5 : ¬ (9223372036854775807 < Y.size + 1 + E.size + 2 + k.size + 1) := by omega
            go_region_held3 (fun W => (W.cell? ⟨w.heap.size, 0, none⟩ = some (.string k) ∧ W.cell? ⟨w.heap.size, 1, none⟩ = some (.string t) ∧ W.cell? ⟨w.heap.size, 2, none⟩ = some (.string f) ∧ W.cell? ⟨w.heap.size, 3, none⟩ = some (.string o) ∧ W.cell? ⟨w.heap.size, 4, none⟩ = some (.int .i64 0) ∧ W.cell? ⟨w.heap.size, 5, none⟩ = some (.string b)) ∧ Below (w.alloc (.cells #[.string k, .string t, .string f, .string o, .int .i64 0, .string b] 70)).heap.size (w.alloc (.cells #[.string k, .string t, .string f, .string o, .int .i64 0, .string b] 70)) W) (with_reducible first | assumption | exact box_six hb.drew | exact box_six (heldOn (by assumption) hbN)) (first | (go_at_call 93; go_fit (i2 _); rintro e w2 ⟨rfl, hbN⟩; have hbF := heldOn (by assumption) hbN))
            all_goals
              go_wp2
              go_ret
              exact ⟨ret_str (WideShapes.bytes_inj (by rw [HL.out, strOf_data]; have zy := ZY.out; simp [Joins.data_append] at zy; simp [markL, headL, endL, fldL, wType, wFrom, wTo, wId, Joins.data_append, z0, z1, z2, z3, z4, zE, ← zy])), below_one hbF⟩
        · have e3 : (n != 0) = true := by rw [bne_iff_ne]; exact g3
          have i1 := fun w => spec_dec n w (by omega) hn1
          obtain ⟨D, hD⟩ : ∃ D, D = strOf (idL n) := ⟨_, rfl⟩
          have hDs : D.size ≤ 10 := by rw [hD, strOf_size]; exact id_len hn0 hn1
          have zD : D.data.toList = idL n := by rw [hD, strOf_data]
          rw [← hD] at i1
          clear hD
          have z3 := id_some hn0 hn1 g3
          rcases Nat.eq_zero_or_pos b.size with g4 | g4
          · obtain ⟨n4, e4⟩ := empty_of g4
            have z4 := list_none g4
            go_enter Tryz.func69, Tryz.ntmps69
            go_wp2_with (go_at_call 46; go_fit (i1 _); rintro e w1 ⟨rfl, hb2⟩; replace hb := hb.trans (hb2.mono hb.size); clear hb2; obtain ⟨c0, c1, c2, c3, c4, c5⟩ := HK.out _ hb)
            go_ret
            exact ⟨ret_str (WideShapes.bytes_inj (by rw [HL.out, strOf_data]; simp [markL, headL, endL, fldL, wType, wFrom, wTo, wId, Joins.data_append, z0, z1, z2, z3, z4, zD])), below_one hb⟩
          · have n4 := ne_nil g4
            have e4 := not_empty g4
            have z4 := list_some g4
            have i2 := fun w => spec_esc b w hbz
            obtain ⟨E, hE⟩ : ∃ E, E = strOf (escL b.data.toList) := ⟨_, rfl⟩
            have hEs : E.size ≤ 600000 := by rw [hE, strOf_size]; have := escL_len b.data.toList; rw [size_data] at this; omega
            have zE : E.data.toList = escL b.data.toList := by rw [hE, strOf_data]
            rw [← hE] at i2
            clear hE
            go_enter Tryz.func69, Tryz.ntmps69
            go_wp2_with (go_at_call 46; go_fit (i1 _); rintro e w1 ⟨rfl, hb2⟩; replace hb := hb.trans (hb2.mono hb.size); clear hb2; obtain ⟨c0, c1, c2, c3, c4, c5⟩ := HK.out _ hb)
            generalize hG : (⟨#[60]⟩ : ByteArray) ++ k ++ ⟨#[32, 116, 111, 61, 39]⟩ ++ o ++ ⟨#[39]⟩ ++ ⟨#[32, 105, 100, 61, 39]⟩ ++ D ++ ⟨#[39]⟩ = Y
            have hY : Y.size ≤ 20000000 := by rw [← hG]; simp only [ByteArray.size_append]; have l0 : (⟨#[60]⟩ : ByteArray).size = 1 := rfl; have l1 : (⟨#[32, 116, 121, 112, 101, 61, 39]⟩ : ByteArray).size = 7 := rfl; have l2 : (⟨#[32, 102, 114, 111, 109, 61, 39]⟩ : ByteArray).size = 7 := rfl; have l3 : (⟨#[32, 116, 111, 61, 39]⟩ : ByteArray).size = 5 := rfl; have l4 : (⟨#[32, 105, 100, 61, 39]⟩ : ByteArray).size = 5 := rfl; have l5 : (⟨#[39]⟩ : ByteArray).size = 1 := rfl; omega
            have zY := congrArg (fun s : ByteArray => s.data.toList) hG
            have ZY := Lib.hid zY
            clear hG zY
            have m1 : ¬ (9223372036854775807 < Y.size + 1) := by omega
            have m2 : ¬ (9223372036854775807 < Y.size + 1 + E.size) := by omega
            have m3 : ¬ (9223372036854775807 < Y.size + 1 + E.size + 2) := by omega
            have m4 : ¬ (9223372036854775807 < Y.size + 1 + E.size + 2 + k.size) := by omega
            have m5 : ¬ (9223372036854775807 < Y.size + 1 + E.size + 2 + k.size + 1) := by omega
            go_region_held3 (fun W => (W.cell? ⟨w.heap.size, 0, none⟩ = some (.string k) ∧ W.cell? ⟨w.heap.size, 1, none⟩ = some (.string t) ∧ W.cell? ⟨w.heap.size, 2, none⟩ = some (.string f) ∧ W.cell? ⟨w.heap.size, 3, none⟩ = some (.string o) ∧ W.cell? ⟨w.heap.size, 4, none⟩ = some (.int .i64 n) ∧ W.cell? ⟨w.heap.size, 5, none⟩ = some (.string b)) ∧ Below (w.alloc (.cells #[.string k, .string t, .string f, .string o, .int .i64 n, .string b] 70)).heap.size (w.alloc (.cells #[.string k, .string t, .string f, .string o, .int .i64 n, .string b] 70)) W) (with_reducible first | assumption | exact box_six hb.drew | exact box_six (heldOn (by assumption) hbN)) (first | (go_at_call 93; go_fit (i2 _); rintro e w2 ⟨rfl, hbN⟩; have hbF := heldOn (by assumption) hbN))
            all_goals
              go_wp2
              go_ret
              exact ⟨ret_str (WideShapes.bytes_inj (by rw [HL.out, strOf_data]; have zy := ZY.out; simp [Joins.data_append] at zy; simp [markL, headL, endL, fldL, wType, wFrom, wTo, wId, Joins.data_append, z0, z1, z2, z3, z4, zD, zE, ← zy])), below_one hbF⟩
    · have n1 := ne_nil g1
      have e1 := not_empty g1
      have z1 := list_some g1
      rcases Nat.eq_zero_or_pos o.size with g2 | g2
      · obtain ⟨n2, e2⟩ := empty_of g2
        have z2 := list_none g2
        by_cases g3 : n = 0
        · subst g3
          have z3 : idL 0 = [] := rfl
          rcases Nat.eq_zero_or_pos b.size with g4 | g4
          · obtain ⟨n4, e4⟩ := empty_of g4
            have z4 := list_none g4
            go_enter Tryz.func69, Tryz.ntmps69
            go_wp2
            go_ret
            exact ⟨ret_str (WideShapes.bytes_inj (by rw [HL.out, strOf_data]; simp [markL, headL, endL, fldL, wType, wFrom, wTo, wId, Joins.data_append, z0, z1, z2, z3, z4])), below_one hb⟩
          · have n4 := ne_nil g4
            have e4 := not_empty g4
            have z4 := list_some g4
            have i2 := fun w => spec_esc b w hbz
            obtain ⟨E, hE⟩ : ∃ E, E = strOf (escL b.data.toList) := ⟨_, rfl⟩
            have hEs : E.size ≤ 600000 := by rw [hE, strOf_size]; have := escL_len b.data.toList; rw [size_data] at this; omega
            have zE : E.data.toList = escL b.data.toList := by rw [hE, strOf_data]
            rw [← hE] at i2
            clear hE
            go_enter Tryz.func69, Tryz.ntmps69
            go_wp2
            generalize hG : (⟨#[60]⟩ : ByteArray) ++ k ++ ⟨#[32, 102, 114, 111, 109, 61, 39]⟩ ++ f ++ ⟨#[39]⟩ = Y
            have hY : Y.size ≤ 20000000 := by rw [← hG]; simp only [ByteArray.size_append]; have l0 : (⟨#[60]⟩ : ByteArray).size = 1 := rfl; have l1 : (⟨#[32, 116, 121, 112, 101, 61, 39]⟩ : ByteArray).size = 7 := rfl; have l2 : (⟨#[32, 102, 114, 111, 109, 61, 39]⟩ : ByteArray).size = 7 := rfl; have l3 : (⟨#[32, 116, 111, 61, 39]⟩ : ByteArray).size = 5 := rfl; have l4 : (⟨#[32, 105, 100, 61, 39]⟩ : ByteArray).size = 5 := rfl; have l5 : (⟨#[39]⟩ : ByteArray).size = 1 := rfl; omega
            have zY := congrArg (fun s : ByteArray => s.data.toList) hG
            have ZY := Lib.hid zY
            clear hG zY
            have m1 : ¬ (9223372036854775807 < Y.size + 1) := by omega
            have m2 : ¬ (9223372036854775807 < Y.size + 1 + E.size) := by omega
            have m3 : ¬ (9223372036854775807 < Y.size + 1 + E.size + 2) := by omega
            have m4 : ¬ (9223372036854775807 < Y.size + 1 + E.size + 2 + k.size) := by omega
            have m5 : ¬ (9223372036854775807 < Y.size + 1 + E.size + 2 + k.size + 1) := by omega
            go_region_held3 (fun W => (W.cell? ⟨w.heap.size, 0, none⟩ = some (.string k) ∧ W.cell? ⟨w.heap.size, 1, none⟩ = some (.string t) ∧ W.cell? ⟨w.heap.size, 2, none⟩ = some (.string f) ∧ W.cell? ⟨w.heap.size, 3, none⟩ = some (.string o) ∧ W.cell? ⟨w.heap.size, 4, none⟩ = some (.int .i64 0) ∧ W.cell? ⟨w.heap.size, 5, none⟩ = some (.string b)) ∧ Below (w.alloc (.cells #[.string k, .string t, .string f, .string o, .int .i64 0, .string b] 70)).heap.size (w.alloc (.cells #[.string k, .string t, .string f, .string o, .int .i64 0, .string b] 70)) W) (with_reducible first | assumption | exact box_six hb.drew | exact box_six (heldOn (by assumption) hbN)) (first | (go_at_call 93; go_fit (i2 _); rintro e w2 ⟨rfl, hbN⟩; have hbF := heldOn (by assumption) hbN))
            all_goals
              go_wp2
              go_ret
              exact ⟨ret_str (WideShapes.bytes_inj (by rw [HL.out, strOf_data]; have zy := ZY.out; simp [Joins.data_append] at zy; simp [markL, headL, endL, fldL, wType, wFrom, wTo, wId, Joins.data_append, z0, z1, z2, z3, z4, zE, ← zy])), below_one hbF⟩
        · have e3 : (n != 0) = true := by rw [bne_iff_ne]; exact g3
          have i1 := fun w => spec_dec n w (by omega) hn1
          obtain ⟨D, hD⟩ : ∃ D, D = strOf (idL n) := ⟨_, rfl⟩
          have hDs : D.size ≤ 10 := by rw [hD, strOf_size]; exact id_len hn0 hn1
          have zD : D.data.toList = idL n := by rw [hD, strOf_data]
          rw [← hD] at i1
          clear hD
          have z3 := id_some hn0 hn1 g3
          rcases Nat.eq_zero_or_pos b.size with g4 | g4
          · obtain ⟨n4, e4⟩ := empty_of g4
            have z4 := list_none g4
            go_enter Tryz.func69, Tryz.ntmps69
            go_wp2_with (go_at_call 46; go_fit (i1 _); rintro e w1 ⟨rfl, hb2⟩; replace hb := hb.trans (hb2.mono hb.size); clear hb2; obtain ⟨c0, c1, c2, c3, c4, c5⟩ := HK.out _ hb)
            go_ret
            exact ⟨ret_str (WideShapes.bytes_inj (by rw [HL.out, strOf_data]; simp [markL, headL, endL, fldL, wType, wFrom, wTo, wId, Joins.data_append, z0, z1, z2, z3, z4, zD])), below_one hb⟩
          · have n4 := ne_nil g4
            have e4 := not_empty g4
            have z4 := list_some g4
            have i2 := fun w => spec_esc b w hbz
            obtain ⟨E, hE⟩ : ∃ E, E = strOf (escL b.data.toList) := ⟨_, rfl⟩
            have hEs : E.size ≤ 600000 := by rw [hE, strOf_size]; have := escL_len b.data.toList; rw [size_data] at this; omega
            have zE : E.data.toList = escL b.data.toList := by rw [hE, strOf_data]
            rw [← hE] at i2
            clear hE
            go_enter Tryz.func69, Tryz.ntmps69
            go_wp2_with (go_at_call 46; go_fit (i1 _); rintro e w1 ⟨rfl, hb2⟩; replace hb := hb.trans (hb2.mono hb.size); clear hb2; obtain ⟨c0, c1, c2, c3, c4, c5⟩ := HK.out _ hb)
            generalize hG : (⟨#[60]⟩ : ByteArray) ++ k ++ ⟨#[32, 102, 114, 111, 109, 61, 39]⟩ ++ f ++ ⟨#[39]⟩ ++ ⟨#[32, 105, 100, 61, 39]⟩ ++ D ++ ⟨#[39]⟩ = Y
            have hY : Y.size ≤ 20000000 := by rw [← hG]; simp only [ByteArray.size_append]; have l0 : (⟨#[60]⟩ : ByteArray).size = 1 := rfl; have l1 : (⟨#[32, 116, 121, 112, 101, 61, 39]⟩ : ByteArray).size = 7 := rfl; have l2 : (⟨#[32, 102, 114, 111, 109, 61, 39]⟩ : ByteArray).size = 7 := rfl; have l3 : (⟨#[32, 116, 111, 61, 39]⟩ : ByteArray).size = 5 := rfl; have l4 : (⟨#[32, 105, 100, 61, 39]⟩ : ByteArray).size = 5 := rfl; have l5 : (⟨#[39]⟩ : ByteArray).size = 1 := rfl; omega
            have zY := congrArg (fun s : ByteArray => s.data.toList) hG
            have ZY := Lib.hid zY
            clear hG zY
            have m1 : ¬ (9223372036854775807 < Y.size + 1) := by omega
            have m2 : ¬ (9223372036854775807 < Y.size + 1 + E.size) := by omega
            have m3 : ¬ (9223372036854775807 < Y.size + 1 + E.size + 2) := by omega
            have m4 : ¬ (9223372036854775807 < Y.size + 1 + E.size + 2 + k.size) := by omega
            have m5 : ¬ (9223372036854775807 < Y.size + 1 + E.size + 2 + k.size + 1) := by omega
            go_region_held3 (fun W => (W.cell? ⟨w.heap.size, 0, none⟩ = some (.string k) ∧ W.cell? ⟨w.heap.size, 1, none⟩ = some (.string t) ∧ W.cell? ⟨w.heap.size, 2, none⟩ = some (.string f) ∧ W.cell? ⟨w.heap.size, 3, none⟩ = some (.string o) ∧ W.cell? ⟨w.heap.size, 4, none⟩ = some (.int .i64 n) ∧ W.cell? ⟨w.heap.size, 5, none⟩ = some (.string b)) ∧ Below (w.alloc (.cells #[.string k, .string t, .string f, .string o, .int .i64 n, .string b] 70)).heap.size (w.alloc (.cells #[.string k, .string t, .string f, .string o, .int .i64 n, .string b] 70)) W) (with_reducible first | assumption | exact box_six hb.drew | exact box_six (heldOn (by assumption) hbN)) (first | (go_at_call 93; go_fit (i2 _); rintro e w2 ⟨rfl, hbN⟩; have hbF := heldOn (by assumption) hbN))
            all_goals
              go_wp2
              go_ret
              exact ⟨ret_str (WideShapes.bytes_inj (by rw [HL.out, strOf_data]; have zy := ZY.out; simp [Joins.data_append] at zy; simp [markL, headL, endL, fldL, wType, wFrom, wTo, wId, Joins.data_append, z0, z1, z2, z3, z4, zD, zE, ← zy])), below_one hbF⟩
      · have n2 := ne_nil g2
        have e2 := not_empty g2
        have z2 := list_some g2
        by_cases g3 : n = 0
        · subst g3
          have z3 : idL 0 = [] := rfl
          rcases Nat.eq_zero_or_pos b.size with g4 | g4
          · obtain ⟨n4, e4⟩ := empty_of g4
            have z4 := list_none g4
            go_enter Tryz.func69, Tryz.ntmps69
            go_wp2
            go_ret
            exact ⟨ret_str (WideShapes.bytes_inj (by rw [HL.out, strOf_data]; simp [markL, headL, endL, fldL, wType, wFrom, wTo, wId, Joins.data_append, z0, z1, z2, z3, z4])), below_one hb⟩
          · have n4 := ne_nil g4
            have e4 := not_empty g4
            have z4 := list_some g4
            have i2 := fun w => spec_esc b w hbz
            obtain ⟨E, hE⟩ : ∃ E, E = strOf (escL b.data.toList) := ⟨_, rfl⟩
            have hEs : E.size ≤ 600000 := by rw [hE, strOf_size]; have := escL_len b.data.toList; rw [size_data] at this; omega
            have zE : E.data.toList = escL b.data.toList := by rw [hE, strOf_data]
            rw [← hE] at i2
            clear hE
            go_enter Tryz.func69, Tryz.ntmps69
            go_wp2
            generalize hG : (⟨#[60]⟩ : ByteArray) ++ k ++ ⟨#[32, 102, 114, 111, 109, 61, 39]⟩ ++ f ++ ⟨#[39]⟩ ++ ⟨#[32, 116, 111, 61, 39]⟩ ++ o ++ ⟨#[39]⟩ = Y
            have hY : Y.size ≤ 20000000 := by rw [← hG]; simp only [ByteArray.size_append]; have l0 : (⟨#[60]⟩ : ByteArray).size = 1 := rfl; have l1 : (⟨#[32, 116, 121, 112, 101, 61, 39]⟩ : ByteArray).size = 7 := rfl; have l2 : (⟨#[32, 102, 114, 111, 109, 61, 39]⟩ : ByteArray).size = 7 := rfl; have l3 : (⟨#[32, 116, 111, 61, 39]⟩ : ByteArray).size = 5 := rfl; have l4 : (⟨#[32, 105, 100, 61, 39]⟩ : ByteArray).size = 5 := rfl; have l5 : (⟨#[39]⟩ : ByteArray).size = 1 := rfl; omega
            have zY := congrArg (fun s : ByteArray => s.data.toList) hG
            have ZY := Lib.hid zY
            clear hG zY
            have m1 : ¬ (9223372036854775807 < Y.size + 1) := by omega
            have m2 : ¬ (9223372036854775807 < Y.size + 1 + E.size) := by omega
            have m3 : ¬ (9223372036854775807 < Y.size + 1 + E.size + 2) := by omega
            have m4 : ¬ (9223372036854775807 < Y.size + 1 + E.size + 2 + k.size) := by omega
            have m5 : ¬ (9223372036854775807 < Y.size + 1 + E.size + 2 + k.size + 1) := by omega
            go_region_held3 (fun W => (W.cell? ⟨w.heap.size, 0, none⟩ = some (.string k) ∧ W.cell? ⟨w.heap.size, 1, none⟩ = some (.string t) ∧ W.cell? ⟨w.heap.size, 2, none⟩ = some (.string f) ∧ W.cell? ⟨w.heap.size, 3, none⟩ = some (.string o) ∧ W.cell? ⟨w.heap.size, 4, none⟩ = some (.int .i64 0) ∧ W.cell? ⟨w.heap.size, 5, none⟩ = some (.string b)) ∧ Below (w.alloc (.cells #[.string k, .string t, .string f, .string o, .int .i64 0, .string b] 70)).heap.size (w.alloc (.cells #[.string k, .string t, .string f, .string o, .int .i64 0, .string b] 70)) W) (with_reducible first | assumption | exact box_six hb.drew | exact box_six (heldOn (by assumption) hbN)) (first | (go_at_call 93; go_fit (i2 _); rintro e w2 ⟨rfl, hbN⟩; have hbF := heldOn (by assumption) hbN))
            all_goals
              go_wp2
              go_ret
              exact ⟨ret_str (WideShapes.bytes_inj (by rw [HL.out, strOf_data]; have zy := ZY.out; simp [Joins.data_append] at zy; simp [markL, headL, endL, fldL, wType, wFrom, wTo, wId, Joins.data_append, z0, z1, z2, z3, z4, zE, ← zy])), below_one hbF⟩
        · have e3 : (n != 0) = true := by rw [bne_iff_ne]; exact g3
          have i1 := fun w => spec_dec n w (by omega) hn1
          obtain ⟨D, hD⟩ : ∃ D, D = strOf (idL n) := ⟨_, rfl⟩
          have hDs : D.size ≤ 10 := by rw [hD, strOf_size]; exact id_len hn0 hn1
          have zD : D.data.toList = idL n := by rw [hD, strOf_data]
          rw [← hD] at i1
          clear hD
          have z3 := id_some hn0 hn1 g3
          rcases Nat.eq_zero_or_pos b.size with g4 | g4
          · obtain ⟨n4, e4⟩ := empty_of g4
            have z4 := list_none g4
            go_enter Tryz.func69, Tryz.ntmps69
            go_wp2_with (go_at_call 46; go_fit (i1 _); rintro e w1 ⟨rfl, hb2⟩; replace hb := hb.trans (hb2.mono hb.size); clear hb2; obtain ⟨c0, c1, c2, c3, c4, c5⟩ := HK.out _ hb)
            go_ret
            exact ⟨ret_str (WideShapes.bytes_inj (by rw [HL.out, strOf_data]; simp [markL, headL, endL, fldL, wType, wFrom, wTo, wId, Joins.data_append, z0, z1, z2, z3, z4, zD])), below_one hb⟩
          · have n4 := ne_nil g4
            have e4 := not_empty g4
            have z4 := list_some g4
            have i2 := fun w => spec_esc b w hbz
            obtain ⟨E, hE⟩ : ∃ E, E = strOf (escL b.data.toList) := ⟨_, rfl⟩
            have hEs : E.size ≤ 600000 := by rw [hE, strOf_size]; have := escL_len b.data.toList; rw [size_data] at this; omega
            have zE : E.data.toList = escL b.data.toList := by rw [hE, strOf_data]
            rw [← hE] at i2
            clear hE
            go_enter Tryz.func69, Tryz.ntmps69
            go_wp2_with (go_at_call 46; go_fit (i1 _); rintro e w1 ⟨rfl, hb2⟩; replace hb := hb.trans (hb2.mono hb.size); clear hb2; obtain ⟨c0, c1, c2, c3, c4, c5⟩ := HK.out _ hb)
            generalize hG : (⟨#[60]⟩ : ByteArray) ++ k ++ ⟨#[32, 102, 114, 111, 109, 61, 39]⟩ ++ f ++ ⟨#[39]⟩ ++ ⟨#[32, 116, 111, 61, 39]⟩ ++ o ++ ⟨#[39]⟩ ++ ⟨#[32, 105, 100, 61, 39]⟩ ++ D ++ ⟨#[39]⟩ = Y
            have hY : Y.size ≤ 20000000 := by rw [← hG]; simp only [ByteArray.size_append]; have l0 : (⟨#[60]⟩ : ByteArray).size = 1 := rfl; have l1 : (⟨#[32, 116, 121, 112, 101, 61, 39]⟩ : ByteArray).size = 7 := rfl; have l2 : (⟨#[32, 102, 114, 111, 109, 61, 39]⟩ : ByteArray).size = 7 := rfl; have l3 : (⟨#[32, 116, 111, 61, 39]⟩ : ByteArray).size = 5 := rfl; have l4 : (⟨#[32, 105, 100, 61, 39]⟩ : ByteArray).size = 5 := rfl; have l5 : (⟨#[39]⟩ : ByteArray).size = 1 := rfl; omega
            have zY := congrArg (fun s : ByteArray => s.data.toList) hG
            have ZY := Lib.hid zY
            clear hG zY
            have m1 : ¬ (9223372036854775807 < Y.size + 1) := by omega
            have m2 : ¬ (9223372036854775807 < Y.size + 1 + E.size) := by omega
            have m3 : ¬ (9223372036854775807 < Y.size + 1 + E.size + 2) := by omega
            have m4 : ¬ (9223372036854775807 < Y.size + 1 + E.size + 2 + k.size) := by omega
            have m5 : ¬ (9223372036854775807 < Y.size + 1 + E.size + 2 + k.size + 1) := by omega
            go_region_held3 (fun W => (W.cell? ⟨w.heap.size, 0, none⟩ = some (.string k) ∧ W.cell? ⟨w.heap.size, 1, none⟩ = some (.string t) ∧ W.cell? ⟨w.heap.size, 2, none⟩ = some (.string f) ∧ W.cell? ⟨w.heap.size, 3, none⟩ = some (.string o) ∧ W.cell? ⟨w.heap.size, 4, none⟩ = some (.int .i64 n) ∧ W.cell? ⟨w.heap.size, 5, none⟩ = some (.string b)) ∧ Below (w.alloc (.cells #[.string k, .string t, .string f, .string o, .int .i64 n, .string b] 70)).heap.size (w.alloc (.cells #[.string k, .string t, .string f, .string o, .int .i64 n, .string b] 70)) W) (with_reducible first | assumption | exact box_six hb.drew | exact box_six (heldOn (by assumption) hbN)) (first | (go_at_call 93; go_fit (i2 _); rintro e w2 ⟨rfl, hbN⟩; have hbF := heldOn (by assumption) hbN))
            all_goals
              go_wp2
              go_ret
              exact ⟨ret_str (WideShapes.bytes_inj (by rw [HL.out, strOf_data]; have zy := ZY.out; simp [Joins.data_append] at zy; simp [markL, headL, endL, fldL, wType, wFrom, wTo, wId, Joins.data_append, z0, z1, z2, z3, z4, zD, zE, ← zy])), below_one hbF⟩
  · have n0 := ne_nil g0
    have e0 := not_empty g0
    have z0 := list_some g0
    rcases Nat.eq_zero_or_pos f.size with g1 | g1
    · obtain ⟨n1, e1⟩ := empty_of g1
      have z1 := list_none g1
      rcases Nat.eq_zero_or_pos o.size with g2 | g2
      · obtain ⟨n2, e2⟩ := empty_of g2
        have z2 := list_none g2
        by_cases g3 : n = 0
        · subst g3
          have z3 : idL 0 = [] := rfl
          rcases Nat.eq_zero_or_pos b.size with g4 | g4
          · obtain ⟨n4, e4⟩ := empty_of g4
            have z4 := list_none g4
            go_enter Tryz.func69, Tryz.ntmps69
            go_wp2
            go_ret
            exact ⟨ret_str (WideShapes.bytes_inj (by rw [HL.out, strOf_data]; simp [markL, headL, endL, fldL, wType, wFrom, wTo, wId, Joins.data_append, z0, z1, z2, z3, z4])), below_one hb⟩
          · have n4 := ne_nil g4
            have e4 := not_empty g4
            have z4 := list_some g4
            have i2 := fun w => spec_esc b w hbz
            obtain ⟨E, hE⟩ : ∃ E, E = strOf (escL b.data.toList) := ⟨_, rfl⟩
            have hEs : E.size ≤ 600000 := by rw [hE, strOf_size]; have := escL_len b.data.toList; rw [size_data] at this; omega
            have zE : E.data.toList = escL b.data.toList := by rw [hE, strOf_data]
            rw [← hE] at i2
            clear hE
            go_enter Tryz.func69, Tryz.ntmps69
            go_wp2
            generalize hG : (⟨#[60]⟩ : ByteArray) ++ k ++ ⟨#[32, 116, 121, 112, 101, 61, 39]⟩ ++ t ++ ⟨#[39]⟩ = Y
            have hY : Y.size ≤ 20000000 := by rw [← hG]; simp only [ByteArray.size_append]; have l0 : (⟨#[60]⟩ : ByteArray).size = 1 := rfl; have l1 : (⟨#[32, 116, 121, 112, 101, 61, 39]⟩ : ByteArray).size = 7 := rfl; have l2 : (⟨#[32, 102, 114, 111, 109, 61, 39]⟩ : ByteArray).size = 7 := rfl; have l3 : (⟨#[32, 116, 111, 61, 39]⟩ : ByteArray).size = 5 := rfl; have l4 : (⟨#[32, 105, 100, 61, 39]⟩ : ByteArray).size = 5 := rfl; have l5 : (⟨#[39]⟩ : ByteArray).size = 1 := rfl; omega
            have zY := congrArg (fun s : ByteArray => s.data.toList) hG
            have ZY := Lib.hid zY
            clear hG zY
            have m1 : ¬ (9223372036854775807 < Y.size + 1) := by omega
            have m2 : ¬ (9223372036854775807 < Y.size + 1 + E.size) := by omega
            have m3 : ¬ (9223372036854775807 < Y.size + 1 + E.size + 2) := by omega
            have m4 : ¬ (9223372036854775807 < Y.size + 1 + E.size + 2 + k.size) := by omega
            have m5 : ¬ (9223372036854775807 < Y.size + 1 + E.size + 2 + k.size + 1) := by omega
            go_region_held3 (fun W => (W.cell? ⟨w.heap.size, 0, none⟩ = some (.string k) ∧ W.cell? ⟨w.heap.size, 1, none⟩ = some (.string t) ∧ W.cell? ⟨w.heap.size, 2, none⟩ = some (.string f) ∧ W.cell? ⟨w.heap.size, 3, none⟩ = some (.string o) ∧ W.cell? ⟨w.heap.size, 4, none⟩ = some (.int .i64 0) ∧ W.cell? ⟨w.heap.size, 5, none⟩ = some (.string b)) ∧ Below (w.alloc (.cells #[.string k, .string t, .string f, .string o, .int .i64 0, .string b] 70)).heap.size (w.alloc (.cells #[.string k, .string t, .string f, .string o, .int .i64 0, .string b] 70)) W) (with_reducible first | assumption | exact box_six hb.drew | exact box_six (heldOn (by assumption) hbN)) (first | (go_at_call 93; go_fit (i2 _); rintro e w2 ⟨rfl, hbN⟩; have hbF := heldOn (by assumption) hbN))
            all_goals
              go_wp2
              go_ret
              exact ⟨ret_str (WideShapes.bytes_inj (by rw [HL.out, strOf_data]; have zy := ZY.out; simp [Joins.data_append] at zy; simp [markL, headL, endL, fldL, wType, wFrom, wTo, wId, Joins.data_append, z0, z1, z2, z3, z4, zE, ← zy])), below_one hbF⟩
        · have e3 : (n != 0) = true := by rw [bne_iff_ne]; exact g3
          have i1 := fun w => spec_dec n w (by omega) hn1
          obtain ⟨D, hD⟩ : ∃ D, D = strOf (idL n) := ⟨_, rfl⟩
          have hDs : D.size ≤ 10 := by rw [hD, strOf_size]; exact id_len hn0 hn1
          have zD : D.data.toList = idL n := by rw [hD, strOf_data]
          rw [← hD] at i1
          clear hD
          have z3 := id_some hn0 hn1 g3
          rcases Nat.eq_zero_or_pos b.size with g4 | g4
          · obtain ⟨n4, e4⟩ := empty_of g4
            have z4 := list_none g4
            go_enter Tryz.func69, Tryz.ntmps69
            go_wp2_with (go_at_call 46; go_fit (i1 _); rintro e w1 ⟨rfl, hb2⟩; replace hb := hb.trans (hb2.mono hb.size); clear hb2; obtain ⟨c0, c1, c2, c3, c4, c5⟩ := HK.out _ hb)
            go_ret
            exact ⟨ret_str (WideShapes.bytes_inj (by rw [HL.out, strOf_data]; simp [markL, headL, endL, fldL, wType, wFrom, wTo, wId, Joins.data_append, z0, z1, z2, z3, z4, zD])), below_one hb⟩
          · have n4 := ne_nil g4
            have e4 := not_empty g4
            have z4 := list_some g4
            have i2 := fun w => spec_esc b w hbz
            obtain ⟨E, hE⟩ : ∃ E, E = strOf (escL b.data.toList) := ⟨_, rfl⟩
            have hEs : E.size ≤ 600000 := by rw [hE, strOf_size]; have := escL_len b.data.toList; rw [size_data] at this; omega
            have zE : E.data.toList = escL b.data.toList := by rw [hE, strOf_data]
            rw [← hE] at i2
            clear hE
            go_enter Tryz.func69, Tryz.ntmps69
            go_wp2_with (go_at_call 46; go_fit (i1 _); rintro e w1 ⟨rfl, hb2⟩; replace hb := hb.trans (hb2.mono hb.size); clear hb2; obtain ⟨c0, c1, c2, c3, c4, c5⟩ := HK.out _ hb)
            generalize hG : (⟨#[60]⟩ : ByteArray) ++ k ++ ⟨#[32, 116, 121, 112, 101, 61, 39]⟩ ++ t ++ ⟨#[39]⟩ ++ ⟨#[32, 105, 100, 61, 39]⟩ ++ D ++ ⟨#[39]⟩ = Y
            have hY : Y.size ≤ 20000000 := by rw [← hG]; simp only [ByteArray.size_append]; have l0 : (⟨#[60]⟩ : ByteArray).size = 1 := rfl; have l1 : (⟨#[32, 116, 121, 112, 101, 61, 39]⟩ : ByteArray).size = 7 := rfl; have l2 : (⟨#[32, 102, 114, 111, 109, 61, 39]⟩ : ByteArray).size = 7 := rfl; have l3 : (⟨#[32, 116, 111, 61, 39]⟩ : ByteArray).size = 5 := rfl; have l4 : (⟨#[32, 105, 100, 61, 39]⟩ : ByteArray).size = 5 := rfl; have l5 : (⟨#[39]⟩ : ByteArray).size = 1 := rfl; omega
            have zY := congrArg (fun s : ByteArray => s.data.toList) hG
            have ZY := Lib.hid zY
            clear hG zY
            have m1 : ¬ (9223372036854775807 < Y.size + 1) := by omega
            have m2 : ¬ (9223372036854775807 < Y.size + 1 + E.size) := by omega
            have m3 : ¬ (9223372036854775807 < Y.size + 1 + E.size + 2) := by omega
            have m4 : ¬ (9223372036854775807 < Y.size + 1 + E.size + 2 + k.size) := by omega
            have m5 : ¬ (9223372036854775807 < Y.size + 1 + E.size + 2 + k.size + 1) := by omega
            go_region_held3 (fun W => (W.cell? ⟨w.heap.size, 0, none⟩ = some (.string k) ∧ W.cell? ⟨w.heap.size, 1, none⟩ = some (.string t) ∧ W.cell? ⟨w.heap.size, 2, none⟩ = some (.string f) ∧ W.cell? ⟨w.heap.size, 3, none⟩ = some (.string o) ∧ W.cell? ⟨w.heap.size, 4, none⟩ = some (.int .i64 n) ∧ W.cell? ⟨w.heap.size, 5, none⟩ = some (.string b)) ∧ Below (w.alloc (.cells #[.string k, .string t, .string f, .string o, .int .i64 n, .string b] 70)).heap.size (w.alloc (.cells #[.string k, .string t, .string f, .string o, .int .i64 n, .string b] 70)) W) (with_reducible first | assumption | exact box_six hb.drew | exact box_six (heldOn (by assumption) hbN)) (first | (go_at_call 93; go_fit (i2 _); rintro e w2 ⟨rfl, hbN⟩; have hbF := heldOn (by assumption) hbN))
            all_goals
              go_wp2
              go_ret
              exact ⟨ret_str (WideShapes.bytes_inj (by rw [HL.out, strOf_data]; have zy := ZY.out; simp [Joins.data_append] at zy; simp [markL, headL, endL, fldL, wType, wFrom, wTo, wId, Joins.data_append, z0, z1, z2, z3, z4, zD, zE, ← zy])), below_one hbF⟩
      · have n2 := ne_nil g2
        have e2 := not_empty g2
        have z2 := list_some g2
        by_cases g3 : n = 0
        · subst g3
          have z3 : idL 0 = [] := rfl
          rcases Nat.eq_zero_or_pos b.size with g4 | g4
          · obtain ⟨n4, e4⟩ := empty_of g4
            have z4 := list_none g4
            go_enter Tryz.func69, Tryz.ntmps69
            go_wp2
            go_ret
            exact ⟨ret_str (WideShapes.bytes_inj (by rw [HL.out, strOf_data]; simp [markL, headL, endL, fldL, wType, wFrom, wTo, wId, Joins.data_append, z0, z1, z2, z3, z4])), below_one hb⟩
          · have n4 := ne_nil g4
            have e4 := not_empty g4
            have z4 := list_some g4
            have i2 := fun w => spec_esc b w hbz
            obtain ⟨E, hE⟩ : ∃ E, E = strOf (escL b.data.toList) := ⟨_, rfl⟩
            have hEs : E.size ≤ 600000 := by rw [hE, strOf_size]; have := escL_len b.data.toList; rw [size_data] at this; omega
            have zE : E.data.toList = escL b.data.toList := by rw [hE, strOf_data]
            rw [← hE] at i2
            clear hE
            go_enter Tryz.func69, Tryz.ntmps69
            go_wp2
            generalize hG : (⟨#[60]⟩ : ByteArray) ++ k ++ ⟨#[32, 116, 121, 112, 101, 61, 39]⟩ ++ t ++ ⟨#[39]⟩ ++ ⟨#[32, 116, 111, 61, 39]⟩ ++ o ++ ⟨#[39]⟩ = Y
            have hY : Y.size ≤ 20000000 := by rw [← hG]; simp only [ByteArray.size_append]; have l0 : (⟨#[60]⟩ : ByteArray).size = 1 := rfl; have l1 : (⟨#[32, 116, 121, 112, 101, 61, 39]⟩ : ByteArray).size = 7 := rfl; have l2 : (⟨#[32, 102, 114, 111, 109, 61, 39]⟩ : ByteArray).size = 7 := rfl; have l3 : (⟨#[32, 116, 111, 61, 39]⟩ : ByteArray).size = 5 := rfl; have l4 : (⟨#[32, 105, 100, 61, 39]⟩ : ByteArray).size = 5 := rfl; have l5 : (⟨#[39]⟩ : ByteArray).size = 1 := rfl; omega
            have zY := congrArg (fun s : ByteArray => s.data.toList) hG
            have ZY := Lib.hid zY
            clear hG zY
            have m1 : ¬ (9223372036854775807 < Y.size + 1) := by omega
            have m2 : ¬ (9223372036854775807 < Y.size + 1 + E.size) := by omega
            have m3 : ¬ (9223372036854775807 < Y.size + 1 + E.size + 2) := by omega
            have m4 : ¬ (9223372036854775807 < Y.size + 1 + E.size + 2 + k.size) := by omega
            have m5 : ¬ (9223372036854775807 < Y.size + 1 + E.size + 2 + k.size + 1) := by omega
            go_region_held3 (fun W => (W.cell? ⟨w.heap.size, 0, none⟩ = some (.string k) ∧ W.cell? ⟨w.heap.size, 1, none⟩ = some (.string t) ∧ W.cell? ⟨w.heap.size, 2, none⟩ = some (.string f) ∧ W.cell? ⟨w.heap.size, 3, none⟩ = some (.string o) ∧ W.cell? ⟨w.heap.size, 4, none⟩ = some (.int .i64 0) ∧ W.cell? ⟨w.heap.size, 5, none⟩ = some (.string b)) ∧ Below (w.alloc (.cells #[.string k, .string t, .string f, .string o, .int .i64 0, .string b] 70)).heap.size (w.alloc (.cells #[.string k, .string t, .string f, .string o, .int .i64 0, .string b] 70)) W) (with_reducible first | assumption | exact box_six hb.drew | exact box_six (heldOn (by assumption) hbN)) (first | (go_at_call 93; go_fit (i2 _); rintro e w2 ⟨rfl, hbN⟩; have hbF := heldOn (by assumption) hbN))
            all_goals
              go_wp2
              go_ret
              exact ⟨ret_str (WideShapes.bytes_inj (by rw [HL.out, strOf_data]; have zy := ZY.out; simp [Joins.data_append] at zy; simp [markL, headL, endL, fldL, wType, wFrom, wTo, wId, Joins.data_append, z0, z1, z2, z3, z4, zE, ← zy])), below_one hbF⟩
        · have e3 : (n != 0) = true := by rw [bne_iff_ne]; exact g3
          have i1 := fun w => spec_dec n w (by omega) hn1
          obtain ⟨D, hD⟩ : ∃ D, D = strOf (idL n) := ⟨_, rfl⟩
          have hDs : D.size ≤ 10 := by rw [hD, strOf_size]; exact id_len hn0 hn1
          have zD : D.data.toList = idL n := by rw [hD, strOf_data]
          rw [← hD] at i1
          clear hD
          have z3 := id_some hn0 hn1 g3
          rcases Nat.eq_zero_or_pos b.size with g4 | g4
          · obtain ⟨n4, e4⟩ := empty_of g4
            have z4 := list_none g4
            go_enter Tryz.func69, Tryz.ntmps69
            go_wp2_with (go_at_call 46; go_fit (i1 _); rintro e w1 ⟨rfl, hb2⟩; replace hb := hb.trans (hb2.mono hb.size); clear hb2; obtain ⟨c0, c1, c2, c3, c4, c5⟩ := HK.out _ hb)
            go_ret
            exact ⟨ret_str (WideShapes.bytes_inj (by rw [HL.out, strOf_data]; simp [markL, headL, endL, fldL, wType, wFrom, wTo, wId, Joins.data_append, z0, z1, z2, z3, z4, zD])), below_one hb⟩
          · have n4 := ne_nil g4
            have e4 := not_empty g4
            have z4 := list_some g4
            have i2 := fun w => spec_esc b w hbz
            obtain ⟨E, hE⟩ : ∃ E, E = strOf (escL b.data.toList) := ⟨_, rfl⟩
            have hEs : E.size ≤ 600000 := by rw [hE, strOf_size]; have := escL_len b.data.toList; rw [size_data] at this; omega
            have zE : E.data.toList = escL b.data.toList := by rw [hE, strOf_data]
            rw [← hE] at i2
            clear hE
            go_enter Tryz.func69, Tryz.ntmps69
            go_wp2_with (go_at_call 46; go_fit (i1 _); rintro e w1 ⟨rfl, hb2⟩; replace hb := hb.trans (hb2.mono hb.size); clear hb2; obtain ⟨c0, c1, c2, c3, c4, c5⟩ := HK.out _ hb)
            generalize hG : (⟨#[60]⟩ : ByteArray) ++ k ++ ⟨#[32, 116, 121, 112, 101, 61, 39]⟩ ++ t ++ ⟨#[39]⟩ ++ ⟨#[32, 116, 111, 61, 39]⟩ ++ o ++ ⟨#[39]⟩ ++ ⟨#[32, 105, 100, 61, 39]⟩ ++ D ++ ⟨#[39]⟩ = Y
            have hY : Y.size ≤ 20000000 := by rw [← hG]; simp only [ByteArray.size_append]; have l0 : (⟨#[60]⟩ : ByteArray).size = 1 := rfl; have l1 : (⟨#[32, 116, 121, 112, 101, 61, 39]⟩ : ByteArray).size = 7 := rfl; have l2 : (⟨#[32, 102, 114, 111, 109, 61, 39]⟩ : ByteArray).size = 7 := rfl; have l3 : (⟨#[32, 116, 111, 61, 39]⟩ : ByteArray).size = 5 := rfl; have l4 : (⟨#[32, 105, 100, 61, 39]⟩ : ByteArray).size = 5 := rfl; have l5 : (⟨#[39]⟩ : ByteArray).size = 1 := rfl; omega
            have zY := congrArg (fun s : ByteArray => s.data.toList) hG
            have ZY := Lib.hid zY
            clear hG zY
            have m1 : ¬ (9223372036854775807 < Y.size + 1) := by omega
            have m2 : ¬ (9223372036854775807 < Y.size + 1 + E.size) := by omega
            have m3 : ¬ (9223372036854775807 < Y.size + 1 + E.size + 2) := by omega
            have m4 : ¬ (9223372036854775807 < Y.size + 1 + E.size + 2 + k.size) := by omega
            have m5 : ¬ (9223372036854775807 < Y.size + 1 + E.size + 2 + k.size + 1) := by omega
            go_region_held3 (fun W => (W.cell? ⟨w.heap.size, 0, none⟩ = some (.string k) ∧ W.cell? ⟨w.heap.size, 1, none⟩ = some (.string t) ∧ W.cell? ⟨w.heap.size, 2, none⟩ = some (.string f) ∧ W.cell? ⟨w.heap.size, 3, none⟩ = some (.string o) ∧ W.cell? ⟨w.heap.size, 4, none⟩ = some (.int .i64 n) ∧ W.cell? ⟨w.heap.size, 5, none⟩ = some (.string b)) ∧ Below (w.alloc (.cells #[.string k, .string t, .string f, .string o, .int .i64 n, .string b] 70)).heap.size (w.alloc (.cells #[.string k, .string t, .string f, .string o, .int .i64 n, .string b] 70)) W) (with_reducible first | assumption | exact box_six hb.drew | exact box_six (heldOn (by assumption) hbN)) (first | (go_at_call 93; go_fit (i2 _); rintro e w2 ⟨rfl, hbN⟩; have hbF := heldOn (by assumption) hbN))
            all_goals
              go_wp2
              go_ret
              exact ⟨ret_str (WideShapes.bytes_inj (by rw [HL.out, strOf_data]; have zy := ZY.out; simp [Joins.data_append] at zy; simp [markL, headL, endL, fldL, wType, wFrom, wTo, wId, Joins.data_append, z0, z1, z2, z3, z4, zD, zE, ← zy])), below_one hbF⟩
    · have n1 := ne_nil g1
      have e1 := not_empty g1
      have z1 := list_some g1
      rcases Nat.eq_zero_or_pos o.size with g2 | g2
      · obtain ⟨n2, e2⟩ := empty_of g2
        have z2 := list_none g2
        by_cases g3 : n = 0
        · subst g3
          have z3 : idL 0 = [] := rfl
          rcases Nat.eq_zero_or_pos b.size with g4 | g4
          · obtain ⟨n4, e4⟩ := empty_of g4
            have z4 := list_none g4
            go_enter Tryz.func69, Tryz.ntmps69
            go_wp2
            go_ret
            exact ⟨ret_str (WideShapes.bytes_inj (by rw [HL.out, strOf_data]; simp [markL, headL, endL, fldL, wType, wFrom, wTo, wId, Joins.data_append, z0, z1, z2, z3, z4])), below_one hb⟩
          · have n4 := ne_nil g4
            have e4 := not_empty g4
            have z4 := list_some g4
            have i2 := fun w => spec_esc b w hbz
            obtain ⟨E, hE⟩ : ∃ E, E = strOf (escL b.data.toList) := ⟨_, rfl⟩
            have hEs : E.size ≤ 600000 := by rw [hE, strOf_size]; have := escL_len b.data.toList; rw [size_data] at this; omega
            have zE : E.data.toList = escL b.data.toList := by rw [hE, strOf_data]
            rw [← hE] at i2
            clear hE
            go_enter Tryz.func69, Tryz.ntmps69
            go_wp2
            generalize hG : (⟨#[60]⟩ : ByteArray) ++ k ++ ⟨#[32, 116, 121, 112, 101, 61, 39]⟩ ++ t ++ ⟨#[39]⟩ ++ ⟨#[32, 102, 114, 111, 109, 61, 39]⟩ ++ f ++ ⟨#[39]⟩ = Y
            have hY : Y.size ≤ 20000000 := by rw [← hG]; simp only [ByteArray.size_append]; have l0 : (⟨#[60]⟩ : ByteArray).size = 1 := rfl; have l1 : (⟨#[32, 116, 121, 112, 101, 61, 39]⟩ : ByteArray).size = 7 := rfl; have l2 : (⟨#[32, 102, 114, 111, 109, 61, 39]⟩ : ByteArray).size = 7 := rfl; have l3 : (⟨#[32, 116, 111, 61, 39]⟩ : ByteArray).size = 5 := rfl; have l4 : (⟨#[32, 105, 100, 61, 39]⟩ : ByteArray).size = 5 := rfl; have l5 : (⟨#[39]⟩ : ByteArray).size = 1 := rfl; omega
            have zY := congrArg (fun s : ByteArray => s.data.toList) hG
            have ZY := Lib.hid zY
            clear hG zY
            have m1 : ¬ (9223372036854775807 < Y.size + 1) := by omega
            have m2 : ¬ (9223372036854775807 < Y.size + 1 + E.size) := by omega
            have m3 : ¬ (9223372036854775807 < Y.size + 1 + E.size + 2) := by omega
            have m4 : ¬ (9223372036854775807 < Y.size + 1 + E.size + 2 + k.size) := by omega
            have m5 : ¬ (9223372036854775807 < Y.size + 1 + E.size + 2 + k.size + 1) := by omega
            go_region_held3 (fun W => (W.cell? ⟨w.heap.size, 0, none⟩ = some (.string k) ∧ W.cell? ⟨w.heap.size, 1, none⟩ = some (.string t) ∧ W.cell? ⟨w.heap.size, 2, none⟩ = some (.string f) ∧ W.cell? ⟨w.heap.size, 3, none⟩ = some (.string o) ∧ W.cell? ⟨w.heap.size, 4, none⟩ = some (.int .i64 0) ∧ W.cell? ⟨w.heap.size, 5, none⟩ = some (.string b)) ∧ Below (w.alloc (.cells #[.string k, .string t, .string f, .string o, .int .i64 0, .string b] 70)).heap.size (w.alloc (.cells #[.string k, .string t, .string f, .string o, .int .i64 0, .string b] 70)) W) (with_reducible first | assumption | exact box_six hb.drew | exact box_six (heldOn (by assumption) hbN)) (first | (go_at_call 93; go_fit (i2 _); rintro e w2 ⟨rfl, hbN⟩; have hbF := heldOn (by assumption) hbN))
            all_goals
              go_wp2
              go_ret
              exact ⟨ret_str (WideShapes.bytes_inj (by rw [HL.out, strOf_data]; have zy := ZY.out; simp [Joins.data_append] at zy; simp [markL, headL, endL, fldL, wType, wFrom, wTo, wId, Joins.data_append, z0, z1, z2, z3, z4, zE, ← zy])), below_one hbF⟩
        · have e3 : (n != 0) = true := by rw [bne_iff_ne]; exact g3
          have i1 := fun w => spec_dec n w (by omega) hn1
          obtain ⟨D, hD⟩ : ∃ D, D = strOf (idL n) := ⟨_, rfl⟩
          have hDs : D.size ≤ 10 := by rw [hD, strOf_size]; exact id_len hn0 hn1
          have zD : D.data.toList = idL n := by rw [hD, strOf_data]
          rw [← hD] at i1
          clear hD
          have z3 := id_some hn0 hn1 g3
          rcases Nat.eq_zero_or_pos b.size with g4 | g4
          · obtain ⟨n4, e4⟩ := empty_of g4
            have z4 := list_none g4
            go_enter Tryz.func69, Tryz.ntmps69
            go_wp2_with (go_at_call 46; go_fit (i1 _); rintro e w1 ⟨rfl, hb2⟩; replace hb := hb.trans (hb2.mono hb.size); clear hb2; obtain ⟨c0, c1, c2, c3, c4, c5⟩ := HK.out _ hb)
            go_ret
            exact ⟨ret_str (WideShapes.bytes_inj (by rw [HL.out, strOf_data]; simp [markL, headL, endL, fldL, wType, wFrom, wTo, wId, Joins.data_append, z0, z1, z2, z3, z4, zD])), below_one hb⟩
          · have n4 := ne_nil g4
            have e4 := not_empty g4
            have z4 := list_some g4
            have i2 := fun w => spec_esc b w hbz
            obtain ⟨E, hE⟩ : ∃ E, E = strOf (escL b.data.toList) := ⟨_, rfl⟩
            have hEs : E.size ≤ 600000 := by rw [hE, strOf_size]; have := escL_len b.data.toList; rw [size_data] at this; omega
            have zE : E.data.toList = escL b.data.toList := by rw [hE, strOf_data]
            rw [← hE] at i2
            clear hE
            go_enter Tryz.func69, Tryz.ntmps69
            go_wp2_with (go_at_call 46; go_fit (i1 _); rintro e w1 ⟨rfl, hb2⟩; replace hb := hb.trans (hb2.mono hb.size); clear hb2; obtain ⟨c0, c1, c2, c3, c4, c5⟩ := HK.out _ hb)
            generalize hG : (⟨#[60]⟩ : ByteArray) ++ k ++ ⟨#[32, 116, 121, 112, 101, 61, 39]⟩ ++ t ++ ⟨#[39]⟩ ++ ⟨#[32, 102, 114, 111, 109, 61, 39]⟩ ++ f ++ ⟨#[39]⟩ ++ ⟨#[32, 105, 100, 61, 39]⟩ ++ D ++ ⟨#[39]⟩ = Y
            have hY : Y.size ≤ 20000000 := by rw [← hG]; simp only [ByteArray.size_append]; have l0 : (⟨#[60]⟩ : ByteArray).size = 1 := rfl; have l1 : (⟨#[32, 116, 121, 112, 101, 61, 39]⟩ : ByteArray).size = 7 := rfl; have l2 : (⟨#[32, 102, 114, 111, 109, 61, 39]⟩ : ByteArray).size = 7 := rfl; have l3 : (⟨#[32, 116, 111, 61, 39]⟩ : ByteArray).size = 5 := rfl; have l4 : (⟨#[32, 105, 100, 61, 39]⟩ : ByteArray).size = 5 := rfl; have l5 : (⟨#[39]⟩ : ByteArray).size = 1 := rfl; omega
            have zY := congrArg (fun s : ByteArray => s.data.toList) hG
            have ZY := Lib.hid zY
            clear hG zY
            have m1 : ¬ (9223372036854775807 < Y.size + 1) := by omega
            have m2 : ¬ (9223372036854775807 < Y.size + 1 + E.size) := by omega
            have m3 : ¬ (9223372036854775807 < Y.size + 1 + E.size + 2) := by omega
            have m4 : ¬ (9223372036854775807 < Y.size + 1 + E.size + 2 + k.size) := by omega
            have m5 : ¬ (9223372036854775807 < Y.size + 1 + E.size + 2 + k.size + 1) := by omega
            go_region_held3 (fun W => (W.cell? ⟨w.heap.size, 0, none⟩ = some (.string k) ∧ W.cell? ⟨w.heap.size, 1, none⟩ = some (.string t) ∧ W.cell? ⟨w.heap.size, 2, none⟩ = some (.string f) ∧ W.cell? ⟨w.heap.size, 3, none⟩ = some (.string o) ∧ W.cell? ⟨w.heap.size, 4, none⟩ = some (.int .i64 n) ∧ W.cell? ⟨w.heap.size, 5, none⟩ = some (.string b)) ∧ Below (w.alloc (.cells #[.string k, .string t, .string f, .string o, .int .i64 n, .string b] 70)).heap.size (w.alloc (.cells #[.string k, .string t, .string f, .string o, .int .i64 n, .string b] 70)) W) (with_reducible first | assumption | exact box_six hb.drew | exact box_six (heldOn (by assumption) hbN)) (first | (go_at_call 93; go_fit (i2 _); rintro e w2 ⟨rfl, hbN⟩; have hbF := heldOn (by assumption) hbN))
            all_goals
              go_wp2
              go_ret
              exact ⟨ret_str (WideShapes.bytes_inj (by rw [HL.out, strOf_data]; have zy := ZY.out; simp [Joins.data_append] at zy; simp [markL, headL, endL, fldL, wType, wFrom, wTo, wId, Joins.data_append, z0, z1, z2, z3, z4, zD, zE, ← zy])), below_one hbF⟩
      · have n2 := ne_nil g2
        have e2 := not_empty g2
        have z2 := list_some g2
        by_cases g3 : n = 0
        · subst g3
          have z3 : idL 0 = [] := rfl
          rcases Nat.eq_zero_or_pos b.size with g4 | g4
          · obtain ⟨n4, e4⟩ := empty_of g4
            have z4 := list_none g4
            go_enter Tryz.func69, Tryz.ntmps69
            go_wp2
            go_ret
            exact ⟨ret_str (WideShapes.bytes_inj (by rw [HL.out, strOf_data]; simp [markL, headL, endL, fldL, wType, wFrom, wTo, wId, Joins.data_append, z0, z1, z2, z3, z4])), below_one hb⟩
          · have n4 := ne_nil g4
            have e4 := not_empty g4
            have z4 := list_some g4
            have i2 := fun w => spec_esc b w hbz
            obtain ⟨E, hE⟩ : ∃ E, E = strOf (escL b.data.toList) := ⟨_, rfl⟩
            have hEs : E.size ≤ 600000 := by rw [hE, strOf_size]; have := escL_len b.data.toList; rw [size_data] at this; omega
            have zE : E.data.toList = escL b.data.toList := by rw [hE, strOf_data]
            rw [← hE] at i2
            clear hE
            go_enter Tryz.func69, Tryz.ntmps69
            go_wp2
            generalize hG : (⟨#[60]⟩ : ByteArray) ++ k ++ ⟨#[32, 116, 121, 112, 101, 61, 39]⟩ ++ t ++ ⟨#[39]⟩ ++ ⟨#[32, 102, 114, 111, 109, 61, 39]⟩ ++ f ++ ⟨#[39]⟩ ++ ⟨#[32, 116, 111, 61, 39]⟩ ++ o ++ ⟨#[39]⟩ = Y
            have hY : Y.size ≤ 20000000 := by rw [← hG]; simp only [ByteArray.size_append]; have l0 : (⟨#[60]⟩ : ByteArray).size = 1 := rfl; have l1 : (⟨#[32, 116, 121, 112, 101, 61, 39]⟩ : ByteArray).size = 7 := rfl; have l2 : (⟨#[32, 102, 114, 111, 109, 61, 39]⟩ : ByteArray).size = 7 := rfl; have l3 : (⟨#[32, 116, 111, 61, 39]⟩ : ByteArray).size = 5 := rfl; have l4 : (⟨#[32, 105, 100, 61, 39]⟩ : ByteArray).size = 5 := rfl; have l5 : (⟨#[39]⟩ : ByteArray).size = 1 := rfl; omega
            have zY := congrArg (fun s : ByteArray => s.data.toList) hG
            have ZY := Lib.hid zY
            clear hG zY
            have m1 : ¬ (9223372036854775807 < Y.size + 1) := by omega
            have m2 : ¬ (9223372036854775807 < Y.size + 1 + E.size) := by omega
            have m3 : ¬ (9223372036854775807 < Y.size + 1 + E.size + 2) := by omega
            have m4 : ¬ (9223372036854775807 < Y.size + 1 + E.size + 2 + k.size) := by omega
            have m5 : ¬ (9223372036854775807 < Y.size + 1 + E.size + 2 + k.size + 1) := by omega
            go_region_held3 (fun W => (W.cell? ⟨w.heap.size, 0, none⟩ = some (.string k) ∧ W.cell? ⟨w.heap.size, 1, none⟩ = some (.string t) ∧ W.cell? ⟨w.heap.size, 2, none⟩ = some (.string f) ∧ W.cell? ⟨w.heap.size, 3, none⟩ = some (.string o) ∧ W.cell? ⟨w.heap.size, 4, none⟩ = some (.int .i64 0) ∧ W.cell? ⟨w.heap.size, 5, none⟩ = some (.string b)) ∧ Below (w.alloc (.cells #[.string k, .string t, .string f, .string o, .int .i64 0, .string b] 70)).heap.size (w.alloc (.cells #[.string k, .string t, .string f, .string o, .int .i64 0, .string b] 70)) W) (with_reducible first | assumption | exact box_six hb.drew | exact box_six (heldOn (by assumption) hbN)) (first | (go_at_call 93; go_fit (i2 _); rintro e w2 ⟨rfl, hbN⟩; have hbF := heldOn (by assumption) hbN))
            all_goals
              go_wp2
              go_ret
              exact ⟨ret_str (WideShapes.bytes_inj (by rw [HL.out, strOf_data]; have zy := ZY.out; simp [Joins.data_append] at zy; simp [markL, headL, endL, fldL, wType, wFrom, wTo, wId, Joins.data_append, z0, z1, z2, z3, z4, zE, ← zy])), below_one hbF⟩
        · have e3 : (n != 0) = true := by rw [bne_iff_ne]; exact g3
          have i1 := fun w => spec_dec n w (by omega) hn1
          obtain ⟨D, hD⟩ : ∃ D, D = strOf (idL n) := ⟨_, rfl⟩
          have hDs : D.size ≤ 10 := by rw [hD, strOf_size]; exact id_len hn0 hn1
          have zD : D.data.toList = idL n := by rw [hD, strOf_data]
          rw [← hD] at i1
          clear hD
          have z3 := id_some hn0 hn1 g3
          rcases Nat.eq_zero_or_pos b.size with g4 | g4
          · obtain ⟨n4, e4⟩ := empty_of g4
            have z4 := list_none g4
            go_enter Tryz.func69, Tryz.ntmps69
            go_wp2_with (go_at_call 46; go_fit (i1 _); rintro e w1 ⟨rfl, hb2⟩; replace hb := hb.trans (hb2.mono hb.size); clear hb2; obtain ⟨c0, c1, c2, c3, c4, c5⟩ := HK.out _ hb)
            go_ret
            exact ⟨ret_str (WideShapes.bytes_inj (by rw [HL.out, strOf_data]; simp [markL, headL, endL, fldL, wType, wFrom, wTo, wId, Joins.data_append, z0, z1, z2, z3, z4, zD])), below_one hb⟩
          · have n4 := ne_nil g4
            have e4 := not_empty g4
            have z4 := list_some g4
            have i2 := fun w => spec_esc b w hbz
            obtain ⟨E, hE⟩ : ∃ E, E = strOf (escL b.data.toList) := ⟨_, rfl⟩
            have hEs : E.size ≤ 600000 := by rw [hE, strOf_size]; have := escL_len b.data.toList; rw [size_data] at this; omega
            have zE : E.data.toList = escL b.data.toList := by rw [hE, strOf_data]
            rw [← hE] at i2
            clear hE
            go_enter Tryz.func69, Tryz.ntmps69
            go_wp2_with (go_at_call 46; go_fit (i1 _); rintro e w1 ⟨rfl, hb2⟩; replace hb := hb.trans (hb2.mono hb.size); clear hb2; obtain ⟨c0, c1, c2, c3, c4, c5⟩ := HK.out _ hb)
            generalize hG : (⟨#[60]⟩ : ByteArray) ++ k ++ ⟨#[32, 116, 121, 112, 101, 61, 39]⟩ ++ t ++ ⟨#[39]⟩ ++ ⟨#[32, 102, 114, 111, 109, 61, 39]⟩ ++ f ++ ⟨#[39]⟩ ++ ⟨#[32, 116, 111, 61, 39]⟩ ++ o ++ ⟨#[39]⟩ ++ ⟨#[32, 105, 100, 61, 39]⟩ ++ D ++ ⟨#[39]⟩ = Y
            have hY : Y.size ≤ 20000000 := by rw [← hG]; simp only [ByteArray.size_append]; have l0 : (⟨#[60]⟩ : ByteArray).size = 1 := rfl; have l1 : (⟨#[32, 116, 121, 112, 101, 61, 39]⟩ : ByteArray).size = 7 := rfl; have l2 : (⟨#[32, 102, 114, 111, 109, 61, 39]⟩ : ByteArray).size = 7 := rfl; have l3 : (⟨#[32, 116, 111, 61, 39]⟩ : ByteArray).size = 5 := rfl; have l4 : (⟨#[32, 105, 100, 61, 39]⟩ : ByteArray).size = 5 := rfl; have l5 : (⟨#[39]⟩ : ByteArray).size = 1 := rfl; omega
            have zY := congrArg (fun s : ByteArray => s.data.toList) hG
            have ZY := Lib.hid zY
            clear hG zY
            have m1 : ¬ (9223372036854775807 < Y.size + 1) := by omega
            have m2 : ¬ (9223372036854775807 < Y.size + 1 + E.size) := by omega
            have m3 : ¬ (9223372036854775807 < Y.size + 1 + E.size + 2) := by omega
            have m4 : ¬ (9223372036854775807 < Y.size + 1 + E.size + 2 + k.size) := by omega
            have m5 : ¬ (9223372036854775807 < Y.size + 1 + E.size + 2 + k.size + 1) := by omega
            go_region_held3 (fun W => (W.cell? ⟨w.heap.size, 0, none⟩ = some (.string k) ∧ W.cell? ⟨w.heap.size, 1, none⟩ = some (.string t) ∧ W.cell? ⟨w.heap.size, 2, none⟩ = some (.string f) ∧ W.cell? ⟨w.heap.size, 3, none⟩ = some (.string o) ∧ W.cell? ⟨w.heap.size, 4, none⟩ = some (.int .i64 n) ∧ W.cell? ⟨w.heap.size, 5, none⟩ = some (.string b)) ∧ Below (w.alloc (.cells #[.string k, .string t, .string f, .string o, .int .i64 n, .string b] 70)).heap.size (w.alloc (.cells #[.string k, .string t, .string f, .string o, .int .i64 n, .string b] 70)) W) (with_reducible first | assumption | exact box_six hb.drew | exact box_six (heldOn (by assumption) hbN)) (first | (go_at_call 93; go_fit (i2 _); rintro e w2 ⟨rfl, hbN⟩; have hbF := heldOn (by assumption) hbN))
            all_goals
              go_wp2
              go_ret
              exact ⟨ret_str (WideShapes.bytes_inj (by rw [HL.out, strOf_data]; have zy := ZY.out; simp [Joins.data_append] at zy; simp [markL, headL, endL, fldL, wType, wFrom, wTo, wId, Joins.data_append, z0, z1, z2, z3, z4, zD, zE, ← zy])), below_one hbF⟩
end Go.Proofs.YtgcfognljkebjaaGreatDoor
