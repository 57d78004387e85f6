/- What StanzaRight answers, the program's and the specification's. -/
import Derived.Test.YtgcfognljkebjaaGreatDoorStAddr
namespace Go.Proofs.YtgcfognljkebjaaGreatDoor
set_option linter.unusedSimpArgs false
set_option linter.unusedVariables false
open Go.RowKit

/-- A valid stanza. -/
noncomputable def stB (k t f o : ByteArray) (n : Int) (b : ByteArray) : Bool :=
  kindB k && (decide (t.size = 0) || nameB t) && addrE f && addrE o && timeB n && (allC printC b && decide (b.size ≤ 400))

set_option maxRecDepth 100000 in
set_option maxHeartbeats 8000000 in
theorem impl_stright (k t f o : ByteArray) (n : Int) (b : ByteArray) (w : World) (ht : t.size ≤ maxLen) (hf : f.size ≤ maxLen) (ho : o.size ≤ maxLen) (hbz : b.size ≤ maxLen) (hm : MaxL w) :
    Calls Tryz.prog 109 #[.agg #[.string k, .string t, .string f, .string o, .int .i64 n, .string b]] w fun e w' => e = .returned (.bool (stB k t f o n b)) ∧ Below w.heap.size w w' := by
  have i1 := fun w => impl_kind k w
  have i2 := fun w => impl_name t w ht
  have i3 := fun w hm => impl_address f w hf hm
  have i4 := fun w hm => impl_address o w ho hm
  have i5 := fun w => impl_time n w
  have i6 := fun w => impl_printable b w hbz
  have HM := Lib.hid (fun W (h : Below (w.alloc (.cells #[.string k, .string t, .string f, .string o, .int .i64 n, .string b] 70)).heap.size (w.alloc (.cells #[.string k, .string t, .string f, .string o, .int .i64 n, .string b] 70)) W) => hm.below (below_one h) hm.pos)
  have HK := Lib.hid (fun W (h : Below (w.alloc (.cells #[.string k, .string t, .string f, .string o, .int .i64 n, .string b] 70)).heap.size (w.alloc (.cells #[.string k, .string t, .string f, .string o, .int .i64 n, .string b] 70)) W) => (box_six h).1)
  have hb : Below (w.alloc (.cells #[.string k, .string t, .string f, .string o, .int .i64 n, .string b] 70)).heap.size (w.alloc (.cells #[.string k, .string t, .string f, .string o, .int .i64 n, .string b] 70)) (w.alloc (.cells #[.string k, .string t, .string f, .string o, .int .i64 n, .string b] 70)) := Below.refl _ _
  unfold maxLen at hbz
  unfold stB addrE
  obtain ⟨kb, h1⟩ : ∃ v, kindB k = v := ⟨_, rfl⟩
  obtain ⟨nb, h2⟩ : ∃ v, nameB t = v := ⟨_, rfl⟩
  obtain ⟨fb, h3⟩ : ∃ v, addrB f = v := ⟨_, rfl⟩
  obtain ⟨ob, h4⟩ : ∃ v, addrB o = v := ⟨_, rfl⟩
  obtain ⟨tb, h5⟩ : ∃ v, timeB n = v := ⟨_, rfl⟩
  obtain ⟨pb, h6⟩ : ∃ v, allC printC b = v := ⟨_, rfl⟩
  rw [h1] at i1
  rw [h2] at i2
  rw [h3] at i3
  rw [h4] at i4
  rw [h5] at i5
  rw [h6] at i6
  rw [h1, h2, h3, h4, h5, h6]
  clear h1 h2 h3 h4 h5 h6 hm ht hf ho
  cases kb
  · go_enter Tryz.func109, Tryz.ntmps109
    go_wp2_with (first
      | (go_at_call 124; go_fit (i1 _); rintro e w1 ⟨rfl, rfl⟩)
      | (go_at_call 125; go_fit (i2 _); rintro e w1 ⟨rfl, rfl⟩)
      | (go_at_call 126; go_fit (i3 _ (HM.out _ hb)); rintro e w1 ⟨rfl, hb2⟩; replace hb := hb.trans (hb2.mono hb.size); clear hb2; obtain ⟨c0, c1, c2, c3, c4, c5⟩ := HK.out _ hb)
      | (go_at_call 126; go_fit (i4 _ (HM.out _ hb)); rintro e w1 ⟨rfl, hb2⟩; replace hb := hb.trans (hb2.mono hb.size); clear hb2; obtain ⟨c0, c1, c2, c3, c4, c5⟩ := HK.out _ hb)
      | (go_at_call 127; go_fit (i5 _); rintro e w1 ⟨rfl, rfl⟩)
      | (go_at_call 128; go_fit (i6 _); rintro e w1 ⟨rfl, hb2⟩; replace hb := hb.trans (hb2.mono hb.size); clear hb2))
    go_ret
    exact ⟨ret_bool (by simp), below_one hb⟩
  · rcases Nat.eq_zero_or_pos t.size with g1 | g1
    · obtain ⟨n1, e1⟩ := empty_of g1
      rw [decide_eq_true g1]
      rcases Nat.eq_zero_or_pos f.size with g2 | g2
      · obtain ⟨n2, e2⟩ := empty_of g2
        rw [decide_eq_true g2]
        rcases Nat.eq_zero_or_pos o.size with g3 | g3
        · obtain ⟨n3, e3⟩ := empty_of g3
          rw [decide_eq_true g3]
          cases tb
          · go_enter Tryz.func109, Tryz.ntmps109
            go_wp2_with (first
              | (go_at_call 124; go_fit (i1 _); rintro e w1 ⟨rfl, rfl⟩)
              | (go_at_call 125; go_fit (i2 _); rintro e w1 ⟨rfl, rfl⟩)
              | (go_at_call 126; go_fit (i3 _ (HM.out _ hb)); rintro e w1 ⟨rfl, hb2⟩; replace hb := hb.trans (hb2.mono hb.size); clear hb2; obtain ⟨c0, c1, c2, c3, c4, c5⟩ := HK.out _ hb)
              | (go_at_call 126; go_fit (i4 _ (HM.out _ hb)); rintro e w1 ⟨rfl, hb2⟩; replace hb := hb.trans (hb2.mono hb.size); clear hb2; obtain ⟨c0, c1, c2, c3, c4, c5⟩ := HK.out _ hb)
              | (go_at_call 127; go_fit (i5 _); rintro e w1 ⟨rfl, rfl⟩)
              | (go_at_call 128; go_fit (i6 _); rintro e w1 ⟨rfl, hb2⟩; replace hb := hb.trans (hb2.mono hb.size); clear hb2))
            go_ret
            exact ⟨ret_bool (by simp), below_one hb⟩
          · by_cases g5 : b.size ≤ 400
            · rw [decide_eq_true g5]
              cases pb
              · go_enter Tryz.func109, Tryz.ntmps109
                go_wp2_with (first
                  | (go_at_call 124; go_fit (i1 _); rintro e w1 ⟨rfl, rfl⟩)
                  | (go_at_call 125; go_fit (i2 _); rintro e w1 ⟨rfl, rfl⟩)
                  | (go_at_call 126; go_fit (i3 _ (HM.out _ hb)); rintro e w1 ⟨rfl, hb2⟩; replace hb := hb.trans (hb2.mono hb.size); clear hb2; obtain ⟨c0, c1, c2, c3, c4, c5⟩ := HK.out _ hb)
                  | (go_at_call 126; go_fit (i4 _ (HM.out _ hb)); rintro e w1 ⟨rfl, hb2⟩; replace hb := hb.trans (hb2.mono hb.size); clear hb2; obtain ⟨c0, c1, c2, c3, c4, c5⟩ := HK.out _ hb)
                  | (go_at_call 127; go_fit (i5 _); rintro e w1 ⟨rfl, rfl⟩)
                  | (go_at_call 128; go_fit (i6 _); rintro e w1 ⟨rfl, hb2⟩; replace hb := hb.trans (hb2.mono hb.size); clear hb2))
                go_ret
                exact ⟨ret_bool (by simp), below_one hb⟩
              · go_enter Tryz.func109, Tryz.ntmps109
                go_wp2_with (first
                  | (go_at_call 124; go_fit (i1 _); rintro e w1 ⟨rfl, rfl⟩)
                  | (go_at_call 125; go_fit (i2 _); rintro e w1 ⟨rfl, rfl⟩)
                  | (go_at_call 126; go_fit (i3 _ (HM.out _ hb)); rintro e w1 ⟨rfl, hb2⟩; replace hb := hb.trans (hb2.mono hb.size); clear hb2; obtain ⟨c0, c1, c2, c3, c4, c5⟩ := HK.out _ hb)
                  | (go_at_call 126; go_fit (i4 _ (HM.out _ hb)); rintro e w1 ⟨rfl, hb2⟩; replace hb := hb.trans (hb2.mono hb.size); clear hb2; obtain ⟨c0, c1, c2, c3, c4, c5⟩ := HK.out _ hb)
                  | (go_at_call 127; go_fit (i5 _); rintro e w1 ⟨rfl, rfl⟩)
                  | (go_at_call 128; go_fit (i6 _); rintro e w1 ⟨rfl, hb2⟩; replace hb := hb.trans (hb2.mono hb.size); clear hb2))
                go_ret
                exact ⟨ret_bool (by simp), below_one hb⟩
            · rw [decide_eq_false g5]
              go_enter Tryz.func109, Tryz.ntmps109
              go_wp2_with (first
                | (go_at_call 124; go_fit (i1 _); rintro e w1 ⟨rfl, rfl⟩)
                | (go_at_call 125; go_fit (i2 _); rintro e w1 ⟨rfl, rfl⟩)
                | (go_at_call 126; go_fit (i3 _ (HM.out _ hb)); rintro e w1 ⟨rfl, hb2⟩; replace hb := hb.trans (hb2.mono hb.size); clear hb2; obtain ⟨c0, c1, c2, c3, c4, c5⟩ := HK.out _ hb)
                | (go_at_call 126; go_fit (i4 _ (HM.out _ hb)); rintro e w1 ⟨rfl, hb2⟩; replace hb := hb.trans (hb2.mono hb.size); clear hb2; obtain ⟨c0, c1, c2, c3, c4, c5⟩ := HK.out _ hb)
                | (go_at_call 127; go_fit (i5 _); rintro e w1 ⟨rfl, rfl⟩)
                | (go_at_call 128; go_fit (i6 _); rintro e w1 ⟨rfl, hb2⟩; replace hb := hb.trans (hb2.mono hb.size); clear hb2))
              go_ret
              exact ⟨ret_bool (by simp), below_one hb⟩
        · have n3 := ne_nil g3
          have e3 := not_empty g3
          rw [decide_eq_false (by omega : ¬ o.size = 0)]
          cases ob
          · go_enter Tryz.func109, Tryz.ntmps109
            go_wp2_with (first
              | (go_at_call 124; go_fit (i1 _); rintro e w1 ⟨rfl, rfl⟩)
              | (go_at_call 125; go_fit (i2 _); rintro e w1 ⟨rfl, rfl⟩)
              | (go_at_call 126; go_fit (i3 _ (HM.out _ hb)); rintro e w1 ⟨rfl, hb2⟩; replace hb := hb.trans (hb2.mono hb.size); clear hb2; obtain ⟨c0, c1, c2, c3, c4, c5⟩ := HK.out _ hb)
              | (go_at_call 126; go_fit (i4 _ (HM.out _ hb)); rintro e w1 ⟨rfl, hb2⟩; replace hb := hb.trans (hb2.mono hb.size); clear hb2; obtain ⟨c0, c1, c2, c3, c4, c5⟩ := HK.out _ hb)
              | (go_at_call 127; go_fit (i5 _); rintro e w1 ⟨rfl, rfl⟩)
              | (go_at_call 128; go_fit (i6 _); rintro e w1 ⟨rfl, hb2⟩; replace hb := hb.trans (hb2.mono hb.size); clear hb2))
            go_ret
            exact ⟨ret_bool (by simp), below_one hb⟩
          · cases tb
            · go_enter Tryz.func109, Tryz.ntmps109
              go_wp2_with (first
                | (go_at_call 124; go_fit (i1 _); rintro e w1 ⟨rfl, rfl⟩)
                | (go_at_call 125; go_fit (i2 _); rintro e w1 ⟨rfl, rfl⟩)
                | (go_at_call 126; go_fit (i3 _ (HM.out _ hb)); rintro e w1 ⟨rfl, hb2⟩; replace hb := hb.trans (hb2.mono hb.size); clear hb2; obtain ⟨c0, c1, c2, c3, c4, c5⟩ := HK.out _ hb)
                | (go_at_call 126; go_fit (i4 _ (HM.out _ hb)); rintro e w1 ⟨rfl, hb2⟩; replace hb := hb.trans (hb2.mono hb.size); clear hb2; obtain ⟨c0, c1, c2, c3, c4, c5⟩ := HK.out _ hb)
                | (go_at_call 127; go_fit (i5 _); rintro e w1 ⟨rfl, rfl⟩)
                | (go_at_call 128; go_fit (i6 _); rintro e w1 ⟨rfl, hb2⟩; replace hb := hb.trans (hb2.mono hb.size); clear hb2))
              go_ret
              exact ⟨ret_bool (by simp), below_one hb⟩
            · by_cases g5 : b.size ≤ 400
              · rw [decide_eq_true g5]
                cases pb
                · go_enter Tryz.func109, Tryz.ntmps109
                  go_wp2_with (first
                    | (go_at_call 124; go_fit (i1 _); rintro e w1 ⟨rfl, rfl⟩)
                    | (go_at_call 125; go_fit (i2 _); rintro e w1 ⟨rfl, rfl⟩)
                    | (go_at_call 126; go_fit (i3 _ (HM.out _ hb)); rintro e w1 ⟨rfl, hb2⟩; replace hb := hb.trans (hb2.mono hb.size); clear hb2; obtain ⟨c0, c1, c2, c3, c4, c5⟩ := HK.out _ hb)
                    | (go_at_call 126; go_fit (i4 _ (HM.out _ hb)); rintro e w1 ⟨rfl, hb2⟩; replace hb := hb.trans (hb2.mono hb.size); clear hb2; obtain ⟨c0, c1, c2, c3, c4, c5⟩ := HK.out _ hb)
                    | (go_at_call 127; go_fit (i5 _); rintro e w1 ⟨rfl, rfl⟩)
                    | (go_at_call 128; go_fit (i6 _); rintro e w1 ⟨rfl, hb2⟩; replace hb := hb.trans (hb2.mono hb.size); clear hb2))
                  go_ret
                  exact ⟨ret_bool (by simp), below_one hb⟩
                · go_enter Tryz.func109, Tryz.ntmps109
                  go_wp2_with (first
                    | (go_at_call 124; go_fit (i1 _); rintro e w1 ⟨rfl, rfl⟩)
                    | (go_at_call 125; go_fit (i2 _); rintro e w1 ⟨rfl, rfl⟩)
                    | (go_at_call 126; go_fit (i3 _ (HM.out _ hb)); rintro e w1 ⟨rfl, hb2⟩; replace hb := hb.trans (hb2.mono hb.size); clear hb2; obtain ⟨c0, c1, c2, c3, c4, c5⟩ := HK.out _ hb)
                    | (go_at_call 126; go_fit (i4 _ (HM.out _ hb)); rintro e w1 ⟨rfl, hb2⟩; replace hb := hb.trans (hb2.mono hb.size); clear hb2; obtain ⟨c0, c1, c2, c3, c4, c5⟩ := HK.out _ hb)
                    | (go_at_call 127; go_fit (i5 _); rintro e w1 ⟨rfl, rfl⟩)
                    | (go_at_call 128; go_fit (i6 _); rintro e w1 ⟨rfl, hb2⟩; replace hb := hb.trans (hb2.mono hb.size); clear hb2))
                  go_ret
                  exact ⟨ret_bool (by simp), below_one hb⟩
              · rw [decide_eq_false g5]
                go_enter Tryz.func109, Tryz.ntmps109
                go_wp2_with (first
                  | (go_at_call 124; go_fit (i1 _); rintro e w1 ⟨rfl, rfl⟩)
                  | (go_at_call 125; go_fit (i2 _); rintro e w1 ⟨rfl, rfl⟩)
                  | (go_at_call 126; go_fit (i3 _ (HM.out _ hb)); rintro e w1 ⟨rfl, hb2⟩; replace hb := hb.trans (hb2.mono hb.size); clear hb2; obtain ⟨c0, c1, c2, c3, c4, c5⟩ := HK.out _ hb)
                  | (go_at_call 126; go_fit (i4 _ (HM.out _ hb)); rintro e w1 ⟨rfl, hb2⟩; replace hb := hb.trans (hb2.mono hb.size); clear hb2; obtain ⟨c0, c1, c2, c3, c4, c5⟩ := HK.out _ hb)
                  | (go_at_call 127; go_fit (i5 _); rintro e w1 ⟨rfl, rfl⟩)
                  | (go_at_call 128; go_fit (i6 _); rintro e w1 ⟨rfl, hb2⟩; replace hb := hb.trans (hb2.mono hb.size); clear hb2))
                go_ret
                exact ⟨ret_bool (by simp), below_one hb⟩
      · have n2 := ne_nil g2
        have e2 := not_empty g2
        rw [decide_eq_false (by omega : ¬ f.size = 0)]
        cases fb
        · go_enter Tryz.func109, Tryz.ntmps109
          go_wp2_with (first
            | (go_at_call 124; go_fit (i1 _); rintro e w1 ⟨rfl, rfl⟩)
            | (go_at_call 125; go_fit (i2 _); rintro e w1 ⟨rfl, rfl⟩)
            | (go_at_call 126; go_fit (i3 _ (HM.out _ hb)); rintro e w1 ⟨rfl, hb2⟩; replace hb := hb.trans (hb2.mono hb.size); clear hb2; obtain ⟨c0, c1, c2, c3, c4, c5⟩ := HK.out _ hb)
            | (go_at_call 126; go_fit (i4 _ (HM.out _ hb)); rintro e w1 ⟨rfl, hb2⟩; replace hb := hb.trans (hb2.mono hb.size); clear hb2; obtain ⟨c0, c1, c2, c3, c4, c5⟩ := HK.out _ hb)
            | (go_at_call 127; go_fit (i5 _); rintro e w1 ⟨rfl, rfl⟩)
            | (go_at_call 128; go_fit (i6 _); rintro e w1 ⟨rfl, hb2⟩; replace hb := hb.trans (hb2.mono hb.size); clear hb2))
          go_ret
          exact ⟨ret_bool (by simp), below_one hb⟩
        · rcases Nat.eq_zero_or_pos o.size with g3 | g3
          · obtain ⟨n3, e3⟩ := empty_of g3
            rw [decide_eq_true g3]
            cases tb
            · go_enter Tryz.func109, Tryz.ntmps109
              go_wp2_with (first
                | (go_at_call 124; go_fit (i1 _); rintro e w1 ⟨rfl, rfl⟩)
                | (go_at_call 125; go_fit (i2 _); rintro e w1 ⟨rfl, rfl⟩)
                | (go_at_call 126; go_fit (i3 _ (HM.out _ hb)); rintro e w1 ⟨rfl, hb2⟩; replace hb := hb.trans (hb2.mono hb.size); clear hb2; obtain ⟨c0, c1, c2, c3, c4, c5⟩ := HK.out _ hb)
                | (go_at_call 126; go_fit (i4 _ (HM.out _ hb)); rintro e w1 ⟨rfl, hb2⟩; replace hb := hb.trans (hb2.mono hb.size); clear hb2; obtain ⟨c0, c1, c2, c3, c4, c5⟩ := HK.out _ hb)
                | (go_at_call 127; go_fit (i5 _); rintro e w1 ⟨rfl, rfl⟩)
                | (go_at_call 128; go_fit (i6 _); rintro e w1 ⟨rfl, hb2⟩; replace hb := hb.trans (hb2.mono hb.size); clear hb2))
              go_ret
              exact ⟨ret_bool (by simp), below_one hb⟩
            · by_cases g5 : b.size ≤ 400
              · rw [decide_eq_true g5]
                cases pb
                · go_enter Tryz.func109, Tryz.ntmps109
                  go_wp2_with (first
                    | (go_at_call 124; go_fit (i1 _); rintro e w1 ⟨rfl, rfl⟩)
                    | (go_at_call 125; go_fit (i2 _); rintro e w1 ⟨rfl, rfl⟩)
                    | (go_at_call 126; go_fit (i3 _ (HM.out _ hb)); rintro e w1 ⟨rfl, hb2⟩; replace hb := hb.trans (hb2.mono hb.size); clear hb2; obtain ⟨c0, c1, c2, c3, c4, c5⟩ := HK.out _ hb)
                    | (go_at_call 126; go_fit (i4 _ (HM.out _ hb)); rintro e w1 ⟨rfl, hb2⟩; replace hb := hb.trans (hb2.mono hb.size); clear hb2; obtain ⟨c0, c1, c2, c3, c4, c5⟩ := HK.out _ hb)
                    | (go_at_call 127; go_fit (i5 _); rintro e w1 ⟨rfl, rfl⟩)
                    | (go_at_call 128; go_fit (i6 _); rintro e w1 ⟨rfl, hb2⟩; replace hb := hb.trans (hb2.mono hb.size); clear hb2))
                  go_ret
                  exact ⟨ret_bool (by simp), below_one hb⟩
                · go_enter Tryz.func109, Tryz.ntmps109
                  go_wp2_with (first
                    | (go_at_call 124; go_fit (i1 _); rintro e w1 ⟨rfl, rfl⟩)
                    | (go_at_call 125; go_fit (i2 _); rintro e w1 ⟨rfl, rfl⟩)
                    | (go_at_call 126; go_fit (i3 _ (HM.out _ hb)); rintro e w1 ⟨rfl, hb2⟩; replace hb := hb.trans (hb2.mono hb.size); clear hb2; obtain ⟨c0, c1, c2, c3, c4, c5⟩ := HK.out _ hb)
                    | (go_at_call 126; go_fit (i4 _ (HM.out _ hb)); rintro e w1 ⟨rfl, hb2⟩; replace hb := hb.trans (hb2.mono hb.size); clear hb2; obtain ⟨c0, c1, c2, c3, c4, c5⟩ := HK.out _ hb)
                    | (go_at_call 127; go_fit (i5 _); rintro e w1 ⟨rfl, rfl⟩)
                    | (go_at_call 128; go_fit (i6 _); rintro e w1 ⟨rfl, hb2⟩; replace hb := hb.trans (hb2.mono hb.size); clear hb2))
                  go_ret
                  exact ⟨ret_bool (by simp), below_one hb⟩
              · rw [decide_eq_false g5]
                go_enter Tryz.func109, Tryz.ntmps109
                go_wp2_with (first
                  | (go_at_call 124; go_fit (i1 _); rintro e w1 ⟨rfl, rfl⟩)
                  | (go_at_call 125; go_fit (i2 _); rintro e w1 ⟨rfl, rfl⟩)
                  | (go_at_call 126; go_fit (i3 _ (HM.out _ hb)); rintro e w1 ⟨rfl, hb2⟩; replace hb := hb.trans (hb2.mono hb.size); clear hb2; obtain ⟨c0, c1, c2, c3, c4, c5⟩ := HK.out _ hb)
                  | (go_at_call 126; go_fit (i4 _ (HM.out _ hb)); rintro e w1 ⟨rfl, hb2⟩; replace hb := hb.trans (hb2.mono hb.size); clear hb2; obtain ⟨c0, c1, c2, c3, c4, c5⟩ := HK.out _ hb)
                  | (go_at_call 127; go_fit (i5 _); rintro e w1 ⟨rfl, rfl⟩)
                  | (go_at_call 128; go_fit (i6 _); rintro e w1 ⟨rfl, hb2⟩; replace hb := hb.trans (hb2.mono hb.size); clear hb2))
                go_ret
                exact ⟨ret_bool (by simp), below_one hb⟩
          · have n3 := ne_nil g3
            have e3 := not_empty g3
            rw [decide_eq_false (by omega : ¬ o.size = 0)]
            cases ob
            · go_enter Tryz.func109, Tryz.ntmps109
              go_wp2_with (first
                | (go_at_call 124; go_fit (i1 _); rintro e w1 ⟨rfl, rfl⟩)
                | (go_at_call 125; go_fit (i2 _); rintro e w1 ⟨rfl, rfl⟩)
                | (go_at_call 126; go_fit (i3 _ (HM.out _ hb)); rintro e w1 ⟨rfl, hb2⟩; replace hb := hb.trans (hb2.mono hb.size); clear hb2; obtain ⟨c0, c1, c2, c3, c4, c5⟩ := HK.out _ hb)
                | (go_at_call 126; go_fit (i4 _ (HM.out _ hb)); rintro e w1 ⟨rfl, hb2⟩; replace hb := hb.trans (hb2.mono hb.size); clear hb2; obtain ⟨c0, c1, c2, c3, c4, c5⟩ := HK.out _ hb)
                | (go_at_call 127; go_fit (i5 _); rintro e w1 ⟨rfl, rfl⟩)
                | (go_at_call 128; go_fit (i6 _); rintro e w1 ⟨rfl, hb2⟩; replace hb := hb.trans (hb2.mono hb.size); clear hb2))
              go_ret
              exact ⟨ret_bool (by simp), below_one hb⟩
            · cases tb
              · go_enter Tryz.func109, Tryz.ntmps109
                go_wp2_with (first
                  | (go_at_call 124; go_fit (i1 _); rintro e w1 ⟨rfl, rfl⟩)
                  | (go_at_call 125; go_fit (i2 _); rintro e w1 ⟨rfl, rfl⟩)
                  | (go_at_call 126; go_fit (i3 _ (HM.out _ hb)); rintro e w1 ⟨rfl, hb2⟩; replace hb := hb.trans (hb2.mono hb.size); clear hb2; obtain ⟨c0, c1, c2, c3, c4, c5⟩ := HK.out _ hb)
                  | (go_at_call 126; go_fit (i4 _ (HM.out _ hb)); rintro e w1 ⟨rfl, hb2⟩; replace hb := hb.trans (hb2.mono hb.size); clear hb2; obtain ⟨c0, c1, c2, c3, c4, c5⟩ := HK.out _ hb)
                  | (go_at_call 127; go_fit (i5 _); rintro e w1 ⟨rfl, rfl⟩)
                  | (go_at_call 128; go_fit (i6 _); rintro e w1 ⟨rfl, hb2⟩; replace hb := hb.trans (hb2.mono hb.size); clear hb2))
                go_ret
                exact ⟨ret_bool (by simp), below_one hb⟩
              · by_cases g5 : b.size ≤ 400
                · rw [decide_eq_true g5]
                  cases pb
                  · go_enter Tryz.func109, Tryz.ntmps109
                    go_wp2_with (first
                      | (go_at_call 124; go_fit (i1 _); rintro e w1 ⟨rfl, rfl⟩)
                      | (go_at_call 125; go_fit (i2 _); rintro e w1 ⟨rfl, rfl⟩)
                      | (go_at_call 126; go_fit (i3 _ (HM.out _ hb)); rintro e w1 ⟨rfl, hb2⟩; replace hb := hb.trans (hb2.mono hb.size); clear hb2; obtain ⟨c0, c1, c2, c3, c4, c5⟩ := HK.out _ hb)
                      | (go_at_call 126; go_fit (i4 _ (HM.out _ hb)); rintro e w1 ⟨rfl, hb2⟩; replace hb := hb.trans (hb2.mono hb.size); clear hb2; obtain ⟨c0, c1, c2, c3, c4, c5⟩ := HK.out _ hb)
                      | (go_at_call 127; go_fit (i5 _); rintro e w1 ⟨rfl, rfl⟩)
                      | (go_at_call 128; go_fit (i6 _); rintro e w1 ⟨rfl, hb2⟩; replace hb := hb.trans (hb2.mono hb.size); clear hb2))
                    go_ret
                    exact ⟨ret_bool (by simp), below_one hb⟩
                  · go_enter Tryz.func109, Tryz.ntmps109
                    go_wp2_with (first
                      | (go_at_call 124; go_fit (i1 _); rintro e w1 ⟨rfl, rfl⟩)
                      | (go_at_call 125; go_fit (i2 _); rintro e w1 ⟨rfl, rfl⟩)
                      | (go_at_call 126; go_fit (i3 _ (HM.out _ hb)); rintro e w1 ⟨rfl, hb2⟩; replace hb := hb.trans (hb2.mono hb.size); clear hb2; obtain ⟨c0, c1, c2, c3, c4, c5⟩ := HK.out _ hb)
                      | (go_at_call 126; go_fit (i4 _ (HM.out _ hb)); rintro e w1 ⟨rfl, hb2⟩; replace hb := hb.trans (hb2.mono hb.size); clear hb2; obtain ⟨c0, c1, c2, c3, c4, c5⟩ := HK.out _ hb)
                      | (go_at_call 127; go_fit (i5 _); rintro e w1 ⟨rfl, rfl⟩)
                      | (go_at_call 128; go_fit (i6 _); rintro e w1 ⟨rfl, hb2⟩; replace hb := hb.trans (hb2.mono hb.size); clear hb2))
                    go_ret
                    exact ⟨ret_bool (by simp), below_one hb⟩
                · rw [decide_eq_false g5]
                  go_enter Tryz.func109, Tryz.ntmps109
                  go_wp2_with (first
                    | (go_at_call 124; go_fit (i1 _); rintro e w1 ⟨rfl, rfl⟩)
                    | (go_at_call 125; go_fit (i2 _); rintro e w1 ⟨rfl, rfl⟩)
                    | (go_at_call 126; go_fit (i3 _ (HM.out _ hb)); rintro e w1 ⟨rfl, hb2⟩; replace hb := hb.trans (hb2.mono hb.size); clear hb2; obtain ⟨c0, c1, c2, c3, c4, c5⟩ := HK.out _ hb)
                    | (go_at_call 126; go_fit (i4 _ (HM.out _ hb)); rintro e w1 ⟨rfl, hb2⟩; replace hb := hb.trans (hb2.mono hb.size); clear hb2; obtain ⟨c0, c1, c2, c3, c4, c5⟩ := HK.out _ hb)
                    | (go_at_call 127; go_fit (i5 _); rintro e w1 ⟨rfl, rfl⟩)
                    | (go_at_call 128; go_fit (i6 _); rintro e w1 ⟨rfl, hb2⟩; replace hb := hb.trans (hb2.mono hb.size); clear hb2))
                  go_ret
                  exact ⟨ret_bool (by simp), below_one hb⟩
    · have n1 := ne_nil g1
      have e1 := not_empty g1
      rw [decide_eq_false (by omega : ¬ t.size = 0)]
      cases nb
      · go_enter Tryz.func109, Tryz.ntmps109
        go_wp2_with (first
          | (go_at_call 124; go_fit (i1 _); rintro e w1 ⟨rfl, rfl⟩)
          | (go_at_call 125; go_fit (i2 _); rintro e w1 ⟨rfl, rfl⟩)
          | (go_at_call 126; go_fit (i3 _ (HM.out _ hb)); rintro e w1 ⟨rfl, hb2⟩; replace hb := hb.trans (hb2.mono hb.size); clear hb2; obtain ⟨c0, c1, c2, c3, c4, c5⟩ := HK.out _ hb)
          | (go_at_call 126; go_fit (i4 _ (HM.out _ hb)); rintro e w1 ⟨rfl, hb2⟩; replace hb := hb.trans (hb2.mono hb.size); clear hb2; obtain ⟨c0, c1, c2, c3, c4, c5⟩ := HK.out _ hb)
          | (go_at_call 127; go_fit (i5 _); rintro e w1 ⟨rfl, rfl⟩)
          | (go_at_call 128; go_fit (i6 _); rintro e w1 ⟨rfl, hb2⟩; replace hb := hb.trans (hb2.mono hb.size); clear hb2))
        go_ret
        exact ⟨ret_bool (by simp), below_one hb⟩
      · rcases Nat.eq_zero_or_pos f.size with g2 | g2
        · obtain ⟨n2, e2⟩ := empty_of g2
          rw [decide_eq_true g2]
          rcases Nat.eq_zero_or_pos o.size with g3 | g3
          · obtain ⟨n3, e3⟩ := empty_of g3
            rw [decide_eq_true g3]
            cases tb
            · go_enter Tryz.func109, Tryz.ntmps109
              go_wp2_with (first
                | (go_at_call 124; go_fit (i1 _); rintro e w1 ⟨rfl, rfl⟩)
                | (go_at_call 125; go_fit (i2 _); rintro e w1 ⟨rfl, rfl⟩)
                | (go_at_call 126; go_fit (i3 _ (HM.out _ hb)); rintro e w1 ⟨rfl, hb2⟩; replace hb := hb.trans (hb2.mono hb.size); clear hb2; obtain ⟨c0, c1, c2, c3, c4, c5⟩ := HK.out _ hb)
                | (go_at_call 126; go_fit (i4 _ (HM.out _ hb)); rintro e w1 ⟨rfl, hb2⟩; replace hb := hb.trans (hb2.mono hb.size); clear hb2; obtain ⟨c0, c1, c2, c3, c4, c5⟩ := HK.out _ hb)
                | (go_at_call 127; go_fit (i5 _); rintro e w1 ⟨rfl, rfl⟩)
                | (go_at_call 128; go_fit (i6 _); rintro e w1 ⟨rfl, hb2⟩; replace hb := hb.trans (hb2.mono hb.size); clear hb2))
              go_ret
              exact ⟨ret_bool (by simp), below_one hb⟩
            · by_cases g5 : b.size ≤ 400
              · rw [decide_eq_true g5]
                cases pb
                · go_enter Tryz.func109, Tryz.ntmps109
                  go_wp2_with (first
                    | (go_at_call 124; go_fit (i1 _); rintro e w1 ⟨rfl, rfl⟩)
                    | (go_at_call 125; go_fit (i2 _); rintro e w1 ⟨rfl, rfl⟩)
                    | (go_at_call 126; go_fit (i3 _ (HM.out _ hb)); rintro e w1 ⟨rfl, hb2⟩; replace hb := hb.trans (hb2.mono hb.size); clear hb2; obtain ⟨c0, c1, c2, c3, c4, c5⟩ := HK.out _ hb)
                    | (go_at_call 126; go_fit (i4 _ (HM.out _ hb)); rintro e w1 ⟨rfl, hb2⟩; replace hb := hb.trans (hb2.mono hb.size); clear hb2; obtain ⟨c0, c1, c2, c3, c4, c5⟩ := HK.out _ hb)
                    | (go_at_call 127; go_fit (i5 _); rintro e w1 ⟨rfl, rfl⟩)
                    | (go_at_call 128; go_fit (i6 _); rintro e w1 ⟨rfl, hb2⟩; replace hb := hb.trans (hb2.mono hb.size); clear hb2))
                  go_ret
                  exact ⟨ret_bool (by simp), below_one hb⟩
                · go_enter Tryz.func109, Tryz.ntmps109
                  go_wp2_with (first
                    | (go_at_call 124; go_fit (i1 _); rintro e w1 ⟨rfl, rfl⟩)
                    | (go_at_call 125; go_fit (i2 _); rintro e w1 ⟨rfl, rfl⟩)
                    | (go_at_call 126; go_fit (i3 _ (HM.out _ hb)); rintro e w1 ⟨rfl, hb2⟩; replace hb := hb.trans (hb2.mono hb.size); clear hb2; obtain ⟨c0, c1, c2, c3, c4, c5⟩ := HK.out _ hb)
                    | (go_at_call 126; go_fit (i4 _ (HM.out _ hb)); rintro e w1 ⟨rfl, hb2⟩; replace hb := hb.trans (hb2.mono hb.size); clear hb2; obtain ⟨c0, c1, c2, c3, c4, c5⟩ := HK.out _ hb)
                    | (go_at_call 127; go_fit (i5 _); rintro e w1 ⟨rfl, rfl⟩)
                    | (go_at_call 128; go_fit (i6 _); rintro e w1 ⟨rfl, hb2⟩; replace hb := hb.trans (hb2.mono hb.size); clear hb2))
                  go_ret
                  exact ⟨ret_bool (by simp), below_one hb⟩
              · rw [decide_eq_false g5]
                go_enter Tryz.func109, Tryz.ntmps109
                go_wp2_with (first
                  | (go_at_call 124; go_fit (i1 _); rintro e w1 ⟨rfl, rfl⟩)
                  | (go_at_call 125; go_fit (i2 _); rintro e w1 ⟨rfl, rfl⟩)
                  | (go_at_call 126; go_fit (i3 _ (HM.out _ hb)); rintro e w1 ⟨rfl, hb2⟩; replace hb := hb.trans (hb2.mono hb.size); clear hb2; obtain ⟨c0, c1, c2, c3, c4, c5⟩ := HK.out _ hb)
                  | (go_at_call 126; go_fit (i4 _ (HM.out _ hb)); rintro e w1 ⟨rfl, hb2⟩; replace hb := hb.trans (hb2.mono hb.size); clear hb2; obtain ⟨c0, c1, c2, c3, c4, c5⟩ := HK.out _ hb)
                  | (go_at_call 127; go_fit (i5 _); rintro e w1 ⟨rfl, rfl⟩)
                  | (go_at_call 128; go_fit (i6 _); rintro e w1 ⟨rfl, hb2⟩; replace hb := hb.trans (hb2.mono hb.size); clear hb2))
                go_ret
                exact ⟨ret_bool (by simp), below_one hb⟩
          · have n3 := ne_nil g3
            have e3 := not_empty g3
            rw [decide_eq_false (by omega : ¬ o.size = 0)]
            cases ob
            · go_enter Tryz.func109, Tryz.ntmps109
              go_wp2_with (first
                | (go_at_call 124; go_fit (i1 _); rintro e w1 ⟨rfl, rfl⟩)
                | (go_at_call 125; go_fit (i2 _); rintro e w1 ⟨rfl, rfl⟩)
                | (go_at_call 126; go_fit (i3 _ (HM.out _ hb)); rintro e w1 ⟨rfl, hb2⟩; replace hb := hb.trans (hb2.mono hb.size); clear hb2; obtain ⟨c0, c1, c2, c3, c4, c5⟩ := HK.out _ hb)
                | (go_at_call 126; go_fit (i4 _ (HM.out _ hb)); rintro e w1 ⟨rfl, hb2⟩; replace hb := hb.trans (hb2.mono hb.size); clear hb2; obtain ⟨c0, c1, c2, c3, c4, c5⟩ := HK.out _ hb)
                | (go_at_call 127; go_fit (i5 _); rintro e w1 ⟨rfl, rfl⟩)
                | (go_at_call 128; go_fit (i6 _); rintro e w1 ⟨rfl, hb2⟩; replace hb := hb.trans (hb2.mono hb.size); clear hb2))
              go_ret
              exact ⟨ret_bool (by simp), below_one hb⟩
            · cases tb
              · go_enter Tryz.func109, Tryz.ntmps109
                go_wp2_with (first
                  | (go_at_call 124; go_fit (i1 _); rintro e w1 ⟨rfl, rfl⟩)
                  | (go_at_call 125; go_fit (i2 _); rintro e w1 ⟨rfl, rfl⟩)
                  | (go_at_call 126; go_fit (i3 _ (HM.out _ hb)); rintro e w1 ⟨rfl, hb2⟩; replace hb := hb.trans (hb2.mono hb.size); clear hb2; obtain ⟨c0, c1, c2, c3, c4, c5⟩ := HK.out _ hb)
                  | (go_at_call 126; go_fit (i4 _ (HM.out _ hb)); rintro e w1 ⟨rfl, hb2⟩; replace hb := hb.trans (hb2.mono hb.size); clear hb2; obtain ⟨c0, c1, c2, c3, c4, c5⟩ := HK.out _ hb)
                  | (go_at_call 127; go_fit (i5 _); rintro e w1 ⟨rfl, rfl⟩)
                  | (go_at_call 128; go_fit (i6 _); rintro e w1 ⟨rfl, hb2⟩; replace hb := hb.trans (hb2.mono hb.size); clear hb2))
                go_ret
                exact ⟨ret_bool (by simp), below_one hb⟩
              · by_cases g5 : b.size ≤ 400
                · rw [decide_eq_true g5]
                  cases pb
                  · go_enter Tryz.func109, Tryz.ntmps109
                    go_wp2_with (first
                      | (go_at_call 124; go_fit (i1 _); rintro e w1 ⟨rfl, rfl⟩)
                      | (go_at_call 125; go_fit (i2 _); rintro e w1 ⟨rfl, rfl⟩)
                      | (go_at_call 126; go_fit (i3 _ (HM.out _ hb)); rintro e w1 ⟨rfl, hb2⟩; replace hb := hb.trans (hb2.mono hb.size); clear hb2; obtain ⟨c0, c1, c2, c3, c4, c5⟩ := HK.out _ hb)
                      | (go_at_call 126; go_fit (i4 _ (HM.out _ hb)); rintro e w1 ⟨rfl, hb2⟩; replace hb := hb.trans (hb2.mono hb.size); clear hb2; obtain ⟨c0, c1, c2, c3, c4, c5⟩ := HK.out _ hb)
                      | (go_at_call 127; go_fit (i5 _); rintro e w1 ⟨rfl, rfl⟩)
                      | (go_at_call 128; go_fit (i6 _); rintro e w1 ⟨rfl, hb2⟩; replace hb := hb.trans (hb2.mono hb.size); clear hb2))
                    go_ret
                    exact ⟨ret_bool (by simp), below_one hb⟩
                  · go_enter Tryz.func109, Tryz.ntmps109
                    go_wp2_with (first
                      | (go_at_call 124; go_fit (i1 _); rintro e w1 ⟨rfl, rfl⟩)
                      | (go_at_call 125; go_fit (i2 _); rintro e w1 ⟨rfl, rfl⟩)
                      | (go_at_call 126; go_fit (i3 _ (HM.out _ hb)); rintro e w1 ⟨rfl, hb2⟩; replace hb := hb.trans (hb2.mono hb.size); clear hb2; obtain ⟨c0, c1, c2, c3, c4, c5⟩ := HK.out _ hb)
                      | (go_at_call 126; go_fit (i4 _ (HM.out _ hb)); rintro e w1 ⟨rfl, hb2⟩; replace hb := hb.trans (hb2.mono hb.size); clear hb2; obtain ⟨c0, c1, c2, c3, c4, c5⟩ := HK.out _ hb)
                      | (go_at_call 127; go_fit (i5 _); rintro e w1 ⟨rfl, rfl⟩)
                      | (go_at_call 128; go_fit (i6 _); rintro e w1 ⟨rfl, hb2⟩; replace hb := hb.trans (hb2.mono hb.size); clear hb2))
                    go_ret
                    exact ⟨ret_bool (by simp), below_one hb⟩
                · rw [decide_eq_false g5]
                  go_enter Tryz.func109, Tryz.ntmps109
                  go_wp2_with (first
                    | (go_at_call 124; go_fit (i1 _); rintro e w1 ⟨rfl, rfl⟩)
                    | (go_at_call 125; go_fit (i2 _); rintro e w1 ⟨rfl, rfl⟩)
                    | (go_at_call 126; go_fit (i3 _ (HM.out _ hb)); rintro e w1 ⟨rfl, hb2⟩; replace hb := hb.trans (hb2.mono hb.size); clear hb2; obtain ⟨c0, c1, c2, c3, c4, c5⟩ := HK.out _ hb)
                    | (go_at_call 126; go_fit (i4 _ (HM.out _ hb)); rintro e w1 ⟨rfl, hb2⟩; replace hb := hb.trans (hb2.mono hb.size); clear hb2; obtain ⟨c0, c1, c2, c3, c4, c5⟩ := HK.out _ hb)
                    | (go_at_call 127; go_fit (i5 _); rintro e w1 ⟨rfl, rfl⟩)
                    | (go_at_call 128; go_fit (i6 _); rintro e w1 ⟨rfl, hb2⟩; replace hb := hb.trans (hb2.mono hb.size); clear hb2))
                  go_ret
                  exact ⟨ret_bool (by simp), below_one hb⟩
        · have n2 := ne_nil g2
          have e2 := not_empty g2
          rw [decide_eq_false (by omega : ¬ f.size = 0)]
          cases fb
          · go_enter Tryz.func109, Tryz.ntmps109
            go_wp2_with (first
              | (go_at_call 124; go_fit (i1 _); rintro e w1 ⟨rfl, rfl⟩)
              | (go_at_call 125; go_fit (i2 _); rintro e w1 ⟨rfl, rfl⟩)
              | (go_at_call 126; go_fit (i3 _ (HM.out _ hb)); rintro e w1 ⟨rfl, hb2⟩; replace hb := hb.trans (hb2.mono hb.size); clear hb2; obtain ⟨c0, c1, c2, c3, c4, c5⟩ := HK.out _ hb)
              | (go_at_call 126; go_fit (i4 _ (HM.out _ hb)); rintro e w1 ⟨rfl, hb2⟩; replace hb := hb.trans (hb2.mono hb.size); clear hb2; obtain ⟨c0, c1, c2, c3, c4, c5⟩ := HK.out _ hb)
              | (go_at_call 127; go_fit (i5 _); rintro e w1 ⟨rfl, rfl⟩)
              | (go_at_call 128; go_fit (i6 _); rintro e w1 ⟨rfl, hb2⟩; replace hb := hb.trans (hb2.mono hb.size); clear hb2))
            go_ret
            exact ⟨ret_bool (by simp), below_one hb⟩
          · rcases Nat.eq_zero_or_pos o.size with g3 | g3
            · obtain ⟨n3, e3⟩ := empty_of g3
              rw [decide_eq_true g3]
              cases tb
              · go_enter Tryz.func109, Tryz.ntmps109
                go_wp2_with (first
                  | (go_at_call 124; go_fit (i1 _); rintro e w1 ⟨rfl, rfl⟩)
                  | (go_at_call 125; go_fit (i2 _); rintro e w1 ⟨rfl, rfl⟩)
                  | (go_at_call 126; go_fit (i3 _ (HM.out _ hb)); rintro e w1 ⟨rfl, hb2⟩; replace hb := hb.trans (hb2.mono hb.size); clear hb2; obtain ⟨c0, c1, c2, c3, c4, c5⟩ := HK.out _ hb)
                  | (go_at_call 126; go_fit (i4 _ (HM.out _ hb)); rintro e w1 ⟨rfl, hb2⟩; replace hb := hb.trans (hb2.mono hb.size); clear hb2; obtain ⟨c0, c1, c2, c3, c4, c5⟩ := HK.out _ hb)
                  | (go_at_call 127; go_fit (i5 _); rintro e w1 ⟨rfl, rfl⟩)
                  | (go_at_call 128; go_fit (i6 _); rintro e w1 ⟨rfl, hb2⟩; replace hb := hb.trans (hb2.mono hb.size); clear hb2))
                go_ret
                exact ⟨ret_bool (by simp), below_one hb⟩
              · by_cases g5 : b.size ≤ 400
                · rw [decide_eq_true g5]
                  cases pb
                  · go_enter Tryz.func109, Tryz.ntmps109
                    go_wp2_with (first
                      | (go_at_call 124; go_fit (i1 _); rintro e w1 ⟨rfl, rfl⟩)
                      | (go_at_call 125; go_fit (i2 _); rintro e w1 ⟨rfl, rfl⟩)
                      | (go_at_call 126; go_fit (i3 _ (HM.out _ hb)); rintro e w1 ⟨rfl, hb2⟩; replace hb := hb.trans (hb2.mono hb.size); clear hb2; obtain ⟨c0, c1, c2, c3, c4, c5⟩ := HK.out _ hb)
                      | (go_at_call 126; go_fit (i4 _ (HM.out _ hb)); rintro e w1 ⟨rfl, hb2⟩; replace hb := hb.trans (hb2.mono hb.size); clear hb2; obtain ⟨c0, c1, c2, c3, c4, c5⟩ := HK.out _ hb)
                      | (go_at_call 127; go_fit (i5 _); rintro e w1 ⟨rfl, rfl⟩)
                      | (go_at_call 128; go_fit (i6 _); rintro e w1 ⟨rfl, hb2⟩; replace hb := hb.trans (hb2.mono hb.size); clear hb2))
                    go_ret
                    exact ⟨ret_bool (by simp), below_one hb⟩
                  · go_enter Tryz.func109, Tryz.ntmps109
                    go_wp2_with (first
                      | (go_at_call 124; go_fit (i1 _); rintro e w1 ⟨rfl, rfl⟩)
                      | (go_at_call 125; go_fit (i2 _); rintro e w1 ⟨rfl, rfl⟩)
                      | (go_at_call 126; go_fit (i3 _ (HM.out _ hb)); rintro e w1 ⟨rfl, hb2⟩; replace hb := hb.trans (hb2.mono hb.size); clear hb2; obtain ⟨c0, c1, c2, c3, c4, c5⟩ := HK.out _ hb)
                      | (go_at_call 126; go_fit (i4 _ (HM.out _ hb)); rintro e w1 ⟨rfl, hb2⟩; replace hb := hb.trans (hb2.mono hb.size); clear hb2; obtain ⟨c0, c1, c2, c3, c4, c5⟩ := HK.out _ hb)
                      | (go_at_call 127; go_fit (i5 _); rintro e w1 ⟨rfl, rfl⟩)
                      | (go_at_call 128; go_fit (i6 _); rintro e w1 ⟨rfl, hb2⟩; replace hb := hb.trans (hb2.mono hb.size); clear hb2))
                    go_ret
                    exact ⟨ret_bool (by simp), below_one hb⟩
                · rw [decide_eq_false g5]
                  go_enter Tryz.func109, Tryz.ntmps109
                  go_wp2_with (first
                    | (go_at_call 124; go_fit (i1 _); rintro e w1 ⟨rfl, rfl⟩)
                    | (go_at_call 125; go_fit (i2 _); rintro e w1 ⟨rfl, rfl⟩)
                    | (go_at_call 126; go_fit (i3 _ (HM.out _ hb)); rintro e w1 ⟨rfl, hb2⟩; replace hb := hb.trans (hb2.mono hb.size); clear hb2; obtain ⟨c0, c1, c2, c3, c4, c5⟩ := HK.out _ hb)
                    | (go_at_call 126; go_fit (i4 _ (HM.out _ hb)); rintro e w1 ⟨rfl, hb2⟩; replace hb := hb.trans (hb2.mono hb.size); clear hb2; obtain ⟨c0, c1, c2, c3, c4, c5⟩ := HK.out _ hb)
                    | (go_at_call 127; go_fit (i5 _); rintro e w1 ⟨rfl, rfl⟩)
                    | (go_at_call 128; go_fit (i6 _); rintro e w1 ⟨rfl, hb2⟩; replace hb := hb.trans (hb2.mono hb.size); clear hb2))
                  go_ret
                  exact ⟨ret_bool (by simp), below_one hb⟩
            · have n3 := ne_nil g3
              have e3 := not_empty g3
              rw [decide_eq_false (by omega : ¬ o.size = 0)]
              cases ob
              · go_enter Tryz.func109, Tryz.ntmps109
                go_wp2_with (first
                  | (go_at_call 124; go_fit (i1 _); rintro e w1 ⟨rfl, rfl⟩)
                  | (go_at_call 125; go_fit (i2 _); rintro e w1 ⟨rfl, rfl⟩)
                  | (go_at_call 126; go_fit (i3 _ (HM.out _ hb)); rintro e w1 ⟨rfl, hb2⟩; replace hb := hb.trans (hb2.mono hb.size); clear hb2; obtain ⟨c0, c1, c2, c3, c4, c5⟩ := HK.out _ hb)
                  | (go_at_call 126; go_fit (i4 _ (HM.out _ hb)); rintro e w1 ⟨rfl, hb2⟩; replace hb := hb.trans (hb2.mono hb.size); clear hb2; obtain ⟨c0, c1, c2, c3, c4, c5⟩ := HK.out _ hb)
                  | (go_at_call 127; go_fit (i5 _); rintro e w1 ⟨rfl, rfl⟩)
                  | (go_at_call 128; go_fit (i6 _); rintro e w1 ⟨rfl, hb2⟩; replace hb := hb.trans (hb2.mono hb.size); clear hb2))
                go_ret
                exact ⟨ret_bool (by simp), below_one hb⟩
              · cases tb
                · go_enter Tryz.func109, Tryz.ntmps109
                  go_wp2_with (first
                    | (go_at_call 124; go_fit (i1 _); rintro e w1 ⟨rfl, rfl⟩)
                    | (go_at_call 125; go_fit (i2 _); rintro e w1 ⟨rfl, rfl⟩)
                    | (go_at_call 126; go_fit (i3 _ (HM.out _ hb)); rintro e w1 ⟨rfl, hb2⟩; replace hb := hb.trans (hb2.mono hb.size); clear hb2; obtain ⟨c0, c1, c2, c3, c4, c5⟩ := HK.out _ hb)
                    | (go_at_call 126; go_fit (i4 _ (HM.out _ hb)); rintro e w1 ⟨rfl, hb2⟩; replace hb := hb.trans (hb2.mono hb.size); clear hb2; obtain ⟨c0, c1, c2, c3, c4, c5⟩ := HK.out _ hb)
                    | (go_at_call 127; go_fit (i5 _); rintro e w1 ⟨rfl, rfl⟩)
                    | (go_at_call 128; go_fit (i6 _); rintro e w1 ⟨rfl, hb2⟩; replace hb := hb.trans (hb2.mono hb.size); clear hb2))
                  go_ret
                  exact ⟨ret_bool (by simp), below_one hb⟩
                · by_cases g5 : b.size ≤ 400
                  · rw [decide_eq_true g5]
                    cases pb
                    · go_enter Tryz.func109, Tryz.ntmps109
                      go_wp2_with (first
                        | (go_at_call 124; go_fit (i1 _); rintro e w1 ⟨rfl, rfl⟩)
                        | (go_at_call 125; go_fit (i2 _); rintro e w1 ⟨rfl, rfl⟩)
                        | (go_at_call 126; go_fit (i3 _ (HM.out _ hb)); rintro e w1 ⟨rfl, hb2⟩; replace hb := hb.trans (hb2.mono hb.size); clear hb2; obtain ⟨c0, c1, c2, c3, c4, c5⟩ := HK.out _ hb)
                        | (go_at_call 126; go_fit (i4 _ (HM.out _ hb)); rintro e w1 ⟨rfl, hb2⟩; replace hb := hb.trans (hb2.mono hb.size); clear hb2; obtain ⟨c0, c1, c2, c3, c4, c5⟩ := HK.out _ hb)
                        | (go_at_call 127; go_fit (i5 _); rintro e w1 ⟨rfl, rfl⟩)
                        | (go_at_call 128; go_fit (i6 _); rintro e w1 ⟨rfl, hb2⟩; replace hb := hb.trans (hb2.mono hb.size); clear hb2))
                      go_ret
                      exact ⟨ret_bool (by simp), below_one hb⟩
                    · go_enter Tryz.func109, Tryz.ntmps109
                      go_wp2_with (first
                        | (go_at_call 124; go_fit (i1 _); rintro e w1 ⟨rfl, rfl⟩)
                        | (go_at_call 125; go_fit (i2 _); rintro e w1 ⟨rfl, rfl⟩)
                        | (go_at_call 126; go_fit (i3 _ (HM.out _ hb)); rintro e w1 ⟨rfl, hb2⟩; replace hb := hb.trans (hb2.mono hb.size); clear hb2; obtain ⟨c0, c1, c2, c3, c4, c5⟩ := HK.out _ hb)
                        | (go_at_call 126; go_fit (i4 _ (HM.out _ hb)); rintro e w1 ⟨rfl, hb2⟩; replace hb := hb.trans (hb2.mono hb.size); clear hb2; obtain ⟨c0, c1, c2, c3, c4, c5⟩ := HK.out _ hb)
                        | (go_at_call 127; go_fit (i5 _); rintro e w1 ⟨rfl, rfl⟩)
                        | (go_at_call 128; go_fit (i6 _); rintro e w1 ⟨rfl, hb2⟩; replace hb := hb.trans (hb2.mono hb.size); clear hb2))
                      go_ret
                      exact ⟨ret_bool (by simp), below_one hb⟩
                  · rw [decide_eq_false g5]
                    go_enter Tryz.func109, Tryz.ntmps109
                    go_wp2_with (first
                      | (go_at_call 124; go_fit (i1 _); rintro e w1 ⟨rfl, rfl⟩)
                      | (go_at_call 125; go_fit (i2 _); rintro e w1 ⟨rfl, rfl⟩)
                      | (go_at_call 126; go_fit (i3 _ (HM.out _ hb)); rintro e w1 ⟨rfl, hb2⟩; replace hb := hb.trans (hb2.mono hb.size); clear hb2; obtain ⟨c0, c1, c2, c3, c4, c5⟩ := HK.out _ hb)
                      | (go_at_call 126; go_fit (i4 _ (HM.out _ hb)); rintro e w1 ⟨rfl, hb2⟩; replace hb := hb.trans (hb2.mono hb.size); clear hb2; obtain ⟨c0, c1, c2, c3, c4, c5⟩ := HK.out _ hb)
                      | (go_at_call 127; go_fit (i5 _); rintro e w1 ⟨rfl, rfl⟩)
                      | (go_at_call 128; go_fit (i6 _); rintro e w1 ⟨rfl, hb2⟩; replace hb := hb.trans (hb2.mono hb.size); clear hb2))
                    go_ret
                    exact ⟨ret_bool (by simp), below_one hb⟩
end Go.Proofs.YtgcfognljkebjaaGreatDoor
