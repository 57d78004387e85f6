/- Several parts in one text: StRightI, StFrame, AnyOrder. -/
import Derived.Test.YtafdjjdmcnlddaaGreatHIA
import Derived.Test.YtafdjjdmcnlddaaGreatChecked
import Derived.WalkKit
import Derived.ProofKit
import Derived.OpenShut
import Derived.ShutString
import Derived.Lib.SmallJoins
import Derived.Deep.RegionHeld3
namespace Go.Proofs.YtafdjjdmcnlddaaGreat
set_option linter.unusedSimpArgs false
set_option linter.unusedVariables false
open Go.RowKit

/-- A valid stanza. -/
noncomputable def stB (k t f o : ByteArray) (n : Int) (b : ByteArray) : Bool :=
  kindB k && (decide (t.size = 0) || nameB t) && addrE f && addrE o && timeB n && (allC printC b && decide (b.size ≤ 400))

set_option maxRecDepth 100000 in
set_option maxHeartbeats 8000000 in
theorem impl_stright (k t f o : ByteArray) (n : Int) (b : ByteArray) (w : World) (ht : t.size ≤ maxLen) (hf : f.size ≤ maxLen) (ho : o.size ≤ maxLen) (hbz : b.size ≤ maxLen) (hm : MaxL w) :
    Calls Tryz.prog 39 #[.agg #[.string k, .string t, .string f, .string o, .int .i64 n, .string b]] w fun e w' => e = .returned (.bool (stB k t f o n b)) ∧ Below w.heap.size w w' := by
  have i1 := fun w => impl_kind k w
  have i2 := fun w => impl_name t w ht
  have i3 := fun w hm => impl_address f w hf hm
  have i4 := fun w hm => impl_address o w ho hm
  have i5 := fun w => impl_time n w
  have i6 := fun w => impl_printable b w hbz
  have HM := Lib.hid (fun W (h : Below (w.alloc (.cells #[.string k, .string t, .string f, .string o, .int .i64 n, .string b] 28)).heap.size (w.alloc (.cells #[.string k, .string t, .string f, .string o, .int .i64 n, .string b] 28)) W) => hm.below (below_one h) hm.pos)
  have HK := Lib.hid (fun W (h : Below (w.alloc (.cells #[.string k, .string t, .string f, .string o, .int .i64 n, .string b] 28)).heap.size (w.alloc (.cells #[.string k, .string t, .string f, .string o, .int .i64 n, .string b] 28)) W) => (box_six h).1)
  have hb : Below (w.alloc (.cells #[.string k, .string t, .string f, .string o, .int .i64 n, .string b] 28)).heap.size (w.alloc (.cells #[.string k, .string t, .string f, .string o, .int .i64 n, .string b] 28)) (w.alloc (.cells #[.string k, .string t, .string f, .string o, .int .i64 n, .string b] 28)) := Below.refl _ _
  unfold maxLen at hbz
  unfold stB addrE
  obtain ⟨kb, h1⟩ : ∃ v, kindB k = v := ⟨_, rfl⟩
  obtain ⟨nb, h2⟩ : ∃ v, nameB t = v := ⟨_, rfl⟩
  obtain ⟨fb, h3⟩ : ∃ v, addrB f = v := ⟨_, rfl⟩
  obtain ⟨ob, h4⟩ : ∃ v, addrB o = v := ⟨_, rfl⟩
  obtain ⟨tb, h5⟩ : ∃ v, timeB n = v := ⟨_, rfl⟩
  obtain ⟨pb, h6⟩ : ∃ v, allC printC b = v := ⟨_, rfl⟩
  rw [h1] at i1
  rw [h2] at i2
  rw [h3] at i3
  rw [h4] at i4
  rw [h5] at i5
  rw [h6] at i6
  rw [h1, h2, h3, h4, h5, h6]
  clear h1 h2 h3 h4 h5 h6 hm ht hf ho
  cases kb
  · go_enter Tryz.func39, Tryz.ntmps39
    go_wp2_with (first
      | (go_at_call 71; go_fit (i1 _); rintro e w1 ⟨rfl, rfl⟩)
      | (go_at_call 72; go_fit (i2 _); rintro e w1 ⟨rfl, rfl⟩)
      | (go_at_call 73; go_fit (i3 _ (HM.out _ hb)); rintro e w1 ⟨rfl, hb2⟩; replace hb := hb.trans (hb2.mono hb.size); clear hb2; obtain ⟨c0, c1, c2, c3, c4, c5⟩ := HK.out _ hb)
      | (go_at_call 73; go_fit (i4 _ (HM.out _ hb)); rintro e w1 ⟨rfl, hb2⟩; replace hb := hb.trans (hb2.mono hb.size); clear hb2; obtain ⟨c0, c1, c2, c3, c4, c5⟩ := HK.out _ hb)
      | (go_at_call 74; go_fit (i5 _); rintro e w1 ⟨rfl, rfl⟩)
      | (go_at_call 75; go_fit (i6 _); rintro e w1 ⟨rfl, hb2⟩; replace hb := hb.trans (hb2.mono hb.size); clear hb2))
    go_ret
    exact ⟨ret_bool (by simp), below_one hb⟩
  · rcases Nat.eq_zero_or_pos t.size with g1 | g1
    · obtain ⟨n1, e1⟩ := empty_of g1
      rw [decide_eq_true g1]
      rcases Nat.eq_zero_or_pos f.size with g2 | g2
      · obtain ⟨n2, e2⟩ := empty_of g2
        rw [decide_eq_true g2]
        rcases Nat.eq_zero_or_pos o.size with g3 | g3
        · obtain ⟨n3, e3⟩ := empty_of g3
          rw [decide_eq_true g3]
          cases tb
          · go_enter Tryz.func39, Tryz.ntmps39
            go_wp2_with (first
              | (go_at_call 71; go_fit (i1 _); rintro e w1 ⟨rfl, rfl⟩)
              | (go_at_call 72; go_fit (i2 _); rintro e w1 ⟨rfl, rfl⟩)
              | (go_at_call 73; go_fit (i3 _ (HM.out _ hb)); rintro e w1 ⟨rfl, hb2⟩; replace hb := hb.trans (hb2.mono hb.size); clear hb2; obtain ⟨c0, c1, c2, c3, c4, c5⟩ := HK.out _ hb)
              | (go_at_call 73; go_fit (i4 _ (HM.out _ hb)); rintro e w1 ⟨rfl, hb2⟩; replace hb := hb.trans (hb2.mono hb.size); clear hb2; obtain ⟨c0, c1, c2, c3, c4, c5⟩ := HK.out _ hb)
              | (go_at_call 74; go_fit (i5 _); rintro e w1 ⟨rfl, rfl⟩)
              | (go_at_call 75; go_fit (i6 _); rintro e w1 ⟨rfl, hb2⟩; replace hb := hb.trans (hb2.mono hb.size); clear hb2))
            go_ret
            exact ⟨ret_bool (by simp), below_one hb⟩
          · by_cases g5 : b.size ≤ 400
            · rw [decide_eq_true g5]
              cases pb
              · go_enter Tryz.func39, Tryz.ntmps39
                go_wp2_with (first
                  | (go_at_call 71; go_fit (i1 _); rintro e w1 ⟨rfl, rfl⟩)
                  | (go_at_call 72; go_fit (i2 _); rintro e w1 ⟨rfl, rfl⟩)
                  | (go_at_call 73; go_fit (i3 _ (HM.out _ hb)); rintro e w1 ⟨rfl, hb2⟩; replace hb := hb.trans (hb2.mono hb.size); clear hb2; obtain ⟨c0, c1, c2, c3, c4, c5⟩ := HK.out _ hb)
                  | (go_at_call 73; go_fit (i4 _ (HM.out _ hb)); rintro e w1 ⟨rfl, hb2⟩; replace hb := hb.trans (hb2.mono hb.size); clear hb2; obtain ⟨c0, c1, c2, c3, c4, c5⟩ := HK.out _ hb)
                  | (go_at_call 74; go_fit (i5 _); rintro e w1 ⟨rfl, rfl⟩)
                  | (go_at_call 75; go_fit (i6 _); rintro e w1 ⟨rfl, hb2⟩; replace hb := hb.trans (hb2.mono hb.size); clear hb2))
                go_ret
                exact ⟨ret_bool (by simp), below_one hb⟩
              · go_enter Tryz.func39, Tryz.ntmps39
                go_wp2_with (first
                  | (go_at_call 71; go_fit (i1 _); rintro e w1 ⟨rfl, rfl⟩)
                  | (go_at_call 72; go_fit (i2 _); rintro e w1 ⟨rfl, rfl⟩)
                  | (go_at_call 73; go_fit (i3 _ (HM.out _ hb)); rintro e w1 ⟨rfl, hb2⟩; replace hb := hb.trans (hb2.mono hb.size); clear hb2; obtain ⟨c0, c1, c2, c3, c4, c5⟩ := HK.out _ hb)
                  | (go_at_call 73; go_fit (i4 _ (HM.out _ hb)); rintro e w1 ⟨rfl, hb2⟩; replace hb := hb.trans (hb2.mono hb.size); clear hb2; obtain ⟨c0, c1, c2, c3, c4, c5⟩ := HK.out _ hb)
                  | (go_at_call 74; go_fit (i5 _); rintro e w1 ⟨rfl, rfl⟩)
                  | (go_at_call 75; go_fit (i6 _); rintro e w1 ⟨rfl, hb2⟩; replace hb := hb.trans (hb2.mono hb.size); clear hb2))
                go_ret
                exact ⟨ret_bool (by simp), below_one hb⟩
            · rw [decide_eq_false g5]
              go_enter Tryz.func39, Tryz.ntmps39
              go_wp2_with (first
                | (go_at_call 71; go_fit (i1 _); rintro e w1 ⟨rfl, rfl⟩)
                | (go_at_call 72; go_fit (i2 _); rintro e w1 ⟨rfl, rfl⟩)
                | (go_at_call 73; go_fit (i3 _ (HM.out _ hb)); rintro e w1 ⟨rfl, hb2⟩; replace hb := hb.trans (hb2.mono hb.size); clear hb2; obtain ⟨c0, c1, c2, c3, c4, c5⟩ := HK.out _ hb)
                | (go_at_call 73; go_fit (i4 _ (HM.out _ hb)); rintro e w1 ⟨rfl, hb2⟩; replace hb := hb.trans (hb2.mono hb.size); clear hb2; obtain ⟨c0, c1, c2, c3, c4, c5⟩ := HK.out _ hb)
                | (go_at_call 74; go_fit (i5 _); rintro e w1 ⟨rfl, rfl⟩)
                | (go_at_call 75; go_fit (i6 _); rintro e w1 ⟨rfl, hb2⟩; replace hb := hb.trans (hb2.mono hb.size); clear hb2))
              go_ret
              exact ⟨ret_bool (by simp), below_one hb⟩
        · have n3 := ne_nil g3
          have e3 := not_empty g3
          rw [decide_eq_false (by omega : ¬ o.size = 0)]
          cases ob
          · go_enter Tryz.func39, Tryz.ntmps39
            go_wp2_with (first
              | (go_at_call 71; go_fit (i1 _); rintro e w1 ⟨rfl, rfl⟩)
              | (go_at_call 72; go_fit (i2 _); rintro e w1 ⟨rfl, rfl⟩)
              | (go_at_call 73; go_fit (i3 _ (HM.out _ hb)); rintro e w1 ⟨rfl, hb2⟩; replace hb := hb.trans (hb2.mono hb.size); clear hb2; obtain ⟨c0, c1, c2, c3, c4, c5⟩ := HK.out _ hb)
              | (go_at_call 73; go_fit (i4 _ (HM.out _ hb)); rintro e w1 ⟨rfl, hb2⟩; replace hb := hb.trans (hb2.mono hb.size); clear hb2; obtain ⟨c0, c1, c2, c3, c4, c5⟩ := HK.out _ hb)
              | (go_at_call 74; go_fit (i5 _); rintro e w1 ⟨rfl, rfl⟩)
              | (go_at_call 75; go_fit (i6 _); rintro e w1 ⟨rfl, hb2⟩; replace hb := hb.trans (hb2.mono hb.size); clear hb2))
            go_ret
            exact ⟨ret_bool (by simp), below_one hb⟩
          · cases tb
            · go_enter Tryz.func39, Tryz.ntmps39
              go_wp2_with (first
                | (go_at_call 71; go_fit (i1 _); rintro e w1 ⟨rfl, rfl⟩)
                | (go_at_call 72; go_fit (i2 _); rintro e w1 ⟨rfl, rfl⟩)
                | (go_at_call 73; go_fit (i3 _ (HM.out _ hb)); rintro e w1 ⟨rfl, hb2⟩; replace hb := hb.trans (hb2.mono hb.size); clear hb2; obtain ⟨c0, c1, c2, c3, c4, c5⟩ := HK.out _ hb)
                | (go_at_call 73; go_fit (i4 _ (HM.out _ hb)); rintro e w1 ⟨rfl, hb2⟩; replace hb := hb.trans (hb2.mono hb.size); clear hb2; obtain ⟨c0, c1, c2, c3, c4, c5⟩ := HK.out _ hb)
                | (go_at_call 74; go_fit (i5 _); rintro e w1 ⟨rfl, rfl⟩)
                | (go_at_call 75; go_fit (i6 _); rintro e w1 ⟨rfl, hb2⟩; replace hb := hb.trans (hb2.mono hb.size); clear hb2))
              go_ret
              exact ⟨ret_bool (by simp), below_one hb⟩
            · by_cases g5 : b.size ≤ 400
              · rw [decide_eq_true g5]
                cases pb
                · go_enter Tryz.func39, Tryz.ntmps39
                  go_wp2_with (first
                    | (go_at_call 71; go_fit (i1 _); rintro e w1 ⟨rfl, rfl⟩)
                    | (go_at_call 72; go_fit (i2 _); rintro e w1 ⟨rfl, rfl⟩)
                    | (go_at_call 73; go_fit (i3 _ (HM.out _ hb)); rintro e w1 ⟨rfl, hb2⟩; replace hb := hb.trans (hb2.mono hb.size); clear hb2; obtain ⟨c0, c1, c2, c3, c4, c5⟩ := HK.out _ hb)
                    | (go_at_call 73; go_fit (i4 _ (HM.out _ hb)); rintro e w1 ⟨rfl, hb2⟩; replace hb := hb.trans (hb2.mono hb.size); clear hb2; obtain ⟨c0, c1, c2, c3, c4, c5⟩ := HK.out _ hb)
                    | (go_at_call 74; go_fit (i5 _); rintro e w1 ⟨rfl, rfl⟩)
                    | (go_at_call 75; go_fit (i6 _); rintro e w1 ⟨rfl, hb2⟩; replace hb := hb.trans (hb2.mono hb.size); clear hb2))
                  go_ret
                  exact ⟨ret_bool (by simp), below_one hb⟩
                · go_enter Tryz.func39, Tryz.ntmps39
                  go_wp2_with (first
                    | (go_at_call 71; go_fit (i1 _); rintro e w1 ⟨rfl, rfl⟩)
                    | (go_at_call 72; go_fit (i2 _); rintro e w1 ⟨rfl, rfl⟩)
                    | (go_at_call 73; go_fit (i3 _ (HM.out _ hb)); rintro e w1 ⟨rfl, hb2⟩; replace hb := hb.trans (hb2.mono hb.size); clear hb2; obtain ⟨c0, c1, c2, c3, c4, c5⟩ := HK.out _ hb)
                    | (go_at_call 73; go_fit (i4 _ (HM.out _ hb)); rintro e w1 ⟨rfl, hb2⟩; replace hb := hb.trans (hb2.mono hb.size); clear hb2; obtain ⟨c0, c1, c2, c3, c4, c5⟩ := HK.out _ hb)
                    | (go_at_call 74; go_fit (i5 _); rintro e w1 ⟨rfl, rfl⟩)
                    | (go_at_call 75; go_fit (i6 _); rintro e w1 ⟨rfl, hb2⟩; replace hb := hb.trans (hb2.mono hb.size); clear hb2))
                  go_ret
                  exact ⟨ret_bool (by simp), below_one hb⟩
              · rw [decide_eq_false g5]
                go_enter Tryz.func39, Tryz.ntmps39
                go_wp2_with (first
                  | (go_at_call 71; go_fit (i1 _); rintro e w1 ⟨rfl, rfl⟩)
                  | (go_at_call 72; go_fit (i2 _); rintro e w1 ⟨rfl, rfl⟩)
                  | (go_at_call 73; go_fit (i3 _ (HM.out _ hb)); rintro e w1 ⟨rfl, hb2⟩; replace hb := hb.trans (hb2.mono hb.size); clear hb2; obtain ⟨c0, c1, c2, c3, c4, c5⟩ := HK.out _ hb)
                  | (go_at_call 73; go_fit (i4 _ (HM.out _ hb)); rintro e w1 ⟨rfl, hb2⟩; replace hb := hb.trans (hb2.mono hb.size); clear hb2; obtain ⟨c0, c1, c2, c3, c4, c5⟩ := HK.out _ hb)
                  | (go_at_call 74; go_fit (i5 _); rintro e w1 ⟨rfl, rfl⟩)
                  | (go_at_call 75; go_fit (i6 _); rintro e w1 ⟨rfl, hb2⟩; replace hb := hb.trans (hb2.mono hb.size); clear hb2))
                go_ret
                exact ⟨ret_bool (by simp), below_one hb⟩
      · have n2 := ne_nil g2
        have e2 := not_empty g2
        rw [decide_eq_false (by omega : ¬ f.size = 0)]
        cases fb
        · go_enter Tryz.func39, Tryz.ntmps39
          go_wp2_with (first
            | (go_at_call 71; go_fit (i1 _); rintro e w1 ⟨rfl, rfl⟩)
            | (go_at_call 72; go_fit (i2 _); rintro e w1 ⟨rfl, rfl⟩)
            | (go_at_call 73; go_fit (i3 _ (HM.out _ hb)); rintro e w1 ⟨rfl, hb2⟩; replace hb := hb.trans (hb2.mono hb.size); clear hb2; obtain ⟨c0, c1, c2, c3, c4, c5⟩ := HK.out _ hb)
            | (go_at_call 73; go_fit (i4 _ (HM.out _ hb)); rintro e w1 ⟨rfl, hb2⟩; replace hb := hb.trans (hb2.mono hb.size); clear hb2; obtain ⟨c0, c1, c2, c3, c4, c5⟩ := HK.out _ hb)
            | (go_at_call 74; go_fit (i5 _); rintro e w1 ⟨rfl, rfl⟩)
            | (go_at_call 75; go_fit (i6 _); rintro e w1 ⟨rfl, hb2⟩; replace hb := hb.trans (hb2.mono hb.size); clear hb2))
          go_ret
          exact ⟨ret_bool (by simp), below_one hb⟩
        · rcases Nat.eq_zero_or_pos o.size with g3 | g3
          · obtain ⟨n3, e3⟩ := empty_of g3
            rw [decide_eq_true g3]
            cases tb
            · go_enter Tryz.func39, Tryz.ntmps39
              go_wp2_with (first
                | (go_at_call 71; go_fit (i1 _); rintro e w1 ⟨rfl, rfl⟩)
                | (go_at_call 72; go_fit (i2 _); rintro e w1 ⟨rfl, rfl⟩)
                | (go_at_call 73; go_fit (i3 _ (HM.out _ hb)); rintro e w1 ⟨rfl, hb2⟩; replace hb := hb.trans (hb2.mono hb.size); clear hb2; obtain ⟨c0, c1, c2, c3, c4, c5⟩ := HK.out _ hb)
                | (go_at_call 73; go_fit (i4 _ (HM.out _ hb)); rintro e w1 ⟨rfl, hb2⟩; replace hb := hb.trans (hb2.mono hb.size); clear hb2; obtain ⟨c0, c1, c2, c3, c4, c5⟩ := HK.out _ hb)
                | (go_at_call 74; go_fit (i5 _); rintro e w1 ⟨rfl, rfl⟩)
                | (go_at_call 75; go_fit (i6 _); rintro e w1 ⟨rfl, hb2⟩; replace hb := hb.trans (hb2.mono hb.size); clear hb2))
              go_ret
              exact ⟨ret_bool (by simp), below_one hb⟩
            · by_cases g5 : b.size ≤ 400
              · rw [decide_eq_true g5]
                cases pb
                · go_enter Tryz.func39, Tryz.ntmps39
                  go_wp2_with (first
                    | (go_at_call 71; go_fit (i1 _); rintro e w1 ⟨rfl, rfl⟩)
                    | (go_at_call 72; go_fit (i2 _); rintro e w1 ⟨rfl, rfl⟩)
                    | (go_at_call 73; go_fit (i3 _ (HM.out _ hb)); rintro e w1 ⟨rfl, hb2⟩; replace hb := hb.trans (hb2.mono hb.size); clear hb2; obtain ⟨c0, c1, c2, c3, c4, c5⟩ := HK.out _ hb)
                    | (go_at_call 73; go_fit (i4 _ (HM.out _ hb)); rintro e w1 ⟨rfl, hb2⟩; replace hb := hb.trans (hb2.mono hb.size); clear hb2; obtain ⟨c0, c1, c2, c3, c4, c5⟩ := HK.out _ hb)
                    | (go_at_call 74; go_fit (i5 _); rintro e w1 ⟨rfl, rfl⟩)
                    | (go_at_call 75; go_fit (i6 _); rintro e w1 ⟨rfl, hb2⟩; replace hb := hb.trans (hb2.mono hb.size); clear hb2))
                  go_ret
                  exact ⟨ret_bool (by simp), below_one hb⟩
                · go_enter Tryz.func39, Tryz.ntmps39
                  go_wp2_with (first
                    | (go_at_call 71; go_fit (i1 _); rintro e w1 ⟨rfl, rfl⟩)
                    | (go_at_call 72; go_fit (i2 _); rintro e w1 ⟨rfl, rfl⟩)
                    | (go_at_call 73; go_fit (i3 _ (HM.out _ hb)); rintro e w1 ⟨rfl, hb2⟩; replace hb := hb.trans (hb2.mono hb.size); clear hb2; obtain ⟨c0, c1, c2, c3, c4, c5⟩ := HK.out _ hb)
                    | (go_at_call 73; go_fit (i4 _ (HM.out _ hb)); rintro e w1 ⟨rfl, hb2⟩; replace hb := hb.trans (hb2.mono hb.size); clear hb2; obtain ⟨c0, c1, c2, c3, c4, c5⟩ := HK.out _ hb)
                    | (go_at_call 74; go_fit (i5 _); rintro e w1 ⟨rfl, rfl⟩)
                    | (go_at_call 75; go_fit (i6 _); rintro e w1 ⟨rfl, hb2⟩; replace hb := hb.trans (hb2.mono hb.size); clear hb2))
                  go_ret
                  exact ⟨ret_bool (by simp), below_one hb⟩
              · rw [decide_eq_false g5]
                go_enter Tryz.func39, Tryz.ntmps39
                go_wp2_with (first
                  | (go_at_call 71; go_fit (i1 _); rintro e w1 ⟨rfl, rfl⟩)
                  | (go_at_call 72; go_fit (i2 _); rintro e w1 ⟨rfl, rfl⟩)
                  | (go_at_call 73; go_fit (i3 _ (HM.out _ hb)); rintro e w1 ⟨rfl, hb2⟩; replace hb := hb.trans (hb2.mono hb.size); clear hb2; obtain ⟨c0, c1, c2, c3, c4, c5⟩ := HK.out _ hb)
                  | (go_at_call 73; go_fit (i4 _ (HM.out _ hb)); rintro e w1 ⟨rfl, hb2⟩; replace hb := hb.trans (hb2.mono hb.size); clear hb2; obtain ⟨c0, c1, c2, c3, c4, c5⟩ := HK.out _ hb)
                  | (go_at_call 74; go_fit (i5 _); rintro e w1 ⟨rfl, rfl⟩)
                  | (go_at_call 75; go_fit (i6 _); rintro e w1 ⟨rfl, hb2⟩; replace hb := hb.trans (hb2.mono hb.size); clear hb2))
                go_ret
                exact ⟨ret_bool (by simp), below_one hb⟩
          · have n3 := ne_nil g3
            have e3 := not_empty g3
            rw [decide_eq_false (by omega : ¬ o.size = 0)]
            cases ob
            · go_enter Tryz.func39, Tryz.ntmps39
              go_wp2_with (first
                | (go_at_call 71; go_fit (i1 _); rintro e w1 ⟨rfl, rfl⟩)
                | (go_at_call 72; go_fit (i2 _); rintro e w1 ⟨rfl, rfl⟩)
                | (go_at_call 73; go_fit (i3 _ (HM.out _ hb)); rintro e w1 ⟨rfl, hb2⟩; replace hb := hb.trans (hb2.mono hb.size); clear hb2; obtain ⟨c0, c1, c2, c3, c4, c5⟩ := HK.out _ hb)
                | (go_at_call 73; go_fit (i4 _ (HM.out _ hb)); rintro e w1 ⟨rfl, hb2⟩; replace hb := hb.trans (hb2.mono hb.size); clear hb2; obtain ⟨c0, c1, c2, c3, c4, c5⟩ := HK.out _ hb)
                | (go_at_call 74; go_fit (i5 _); rintro e w1 ⟨rfl, rfl⟩)
                | (go_at_call 75; go_fit (i6 _); rintro e w1 ⟨rfl, hb2⟩; replace hb := hb.trans (hb2.mono hb.size); clear hb2))
              go_ret
              exact ⟨ret_bool (by simp), below_one hb⟩
            · cases tb
              · go_enter Tryz.func39, Tryz.ntmps39
                go_wp2_with (first
                  | (go_at_call 71; go_fit (i1 _); rintro e w1 ⟨rfl, rfl⟩)
                  | (go_at_call 72; go_fit (i2 _); rintro e w1 ⟨rfl, rfl⟩)
                  | (go_at_call 73; go_fit (i3 _ (HM.out _ hb)); rintro e w1 ⟨rfl, hb2⟩; replace hb := hb.trans (hb2.mono hb.size); clear hb2; obtain ⟨c0, c1, c2, c3, c4, c5⟩ := HK.out _ hb)
                  | (go_at_call 73; go_fit (i4 _ (HM.out _ hb)); rintro e w1 ⟨rfl, hb2⟩; replace hb := hb.trans (hb2.mono hb.size); clear hb2; obtain ⟨c0, c1, c2, c3, c4, c5⟩ := HK.out _ hb)
                  | (go_at_call 74; go_fit (i5 _); rintro e w1 ⟨rfl, rfl⟩)
                  | (go_at_call 75; go_fit (i6 _); rintro e w1 ⟨rfl, hb2⟩; replace hb := hb.trans (hb2.mono hb.size); clear hb2))
                go_ret
                exact ⟨ret_bool (by simp), below_one hb⟩
              · by_cases g5 : b.size ≤ 400
                · rw [decide_eq_true g5]
                  cases pb
                  · go_enter Tryz.func39, Tryz.ntmps39
                    go_wp2_with (first
                      | (go_at_call 71; go_fit (i1 _); rintro e w1 ⟨rfl, rfl⟩)
                      | (go_at_call 72; go_fit (i2 _); rintro e w1 ⟨rfl, rfl⟩)
                      | (go_at_call 73; go_fit (i3 _ (HM.out _ hb)); rintro e w1 ⟨rfl, hb2⟩; replace hb := hb.trans (hb2.mono hb.size); clear hb2; obtain ⟨c0, c1, c2, c3, c4, c5⟩ := HK.out _ hb)
                      | (go_at_call 73; go_fit (i4 _ (HM.out _ hb)); rintro e w1 ⟨rfl, hb2⟩; replace hb := hb.trans (hb2.mono hb.size); clear hb2; obtain ⟨c0, c1, c2, c3, c4, c5⟩ := HK.out _ hb)
                      | (go_at_call 74; go_fit (i5 _); rintro e w1 ⟨rfl, rfl⟩)
                      | (go_at_call 75; go_fit (i6 _); rintro e w1 ⟨rfl, hb2⟩; replace hb := hb.trans (hb2.mono hb.size); clear hb2))
                    go_ret
                    exact ⟨ret_bool (by simp), below_one hb⟩
                  · go_enter Tryz.func39, Tryz.ntmps39
                    go_wp2_with (first
                      | (go_at_call 71; go_fit (i1 _); rintro e w1 ⟨rfl, rfl⟩)
                      | (go_at_call 72; go_fit (i2 _); rintro e w1 ⟨rfl, rfl⟩)
                      | (go_at_call 73; go_fit (i3 _ (HM.out _ hb)); rintro e w1 ⟨rfl, hb2⟩; replace hb := hb.trans (hb2.mono hb.size); clear hb2; obtain ⟨c0, c1, c2, c3, c4, c5⟩ := HK.out _ hb)
                      | (go_at_call 73; go_fit (i4 _ (HM.out _ hb)); rintro e w1 ⟨rfl, hb2⟩; replace hb := hb.trans (hb2.mono hb.size); clear hb2; obtain ⟨c0, c1, c2, c3, c4, c5⟩ := HK.out _ hb)
                      | (go_at_call 74; go_fit (i5 _); rintro e w1 ⟨rfl, rfl⟩)
                      | (go_at_call 75; go_fit (i6 _); rintro e w1 ⟨rfl, hb2⟩; replace hb := hb.trans (hb2.mono hb.size); clear hb2))
                    go_ret
                    exact ⟨ret_bool (by simp), below_one hb⟩
                · rw [decide_eq_false g5]
                  go_enter Tryz.func39, Tryz.ntmps39
                  go_wp2_with (first
                    | (go_at_call 71; go_fit (i1 _); rintro e w1 ⟨rfl, rfl⟩)
                    | (go_at_call 72; go_fit (i2 _); rintro e w1 ⟨rfl, rfl⟩)
                    | (go_at_call 73; go_fit (i3 _ (HM.out _ hb)); rintro e w1 ⟨rfl, hb2⟩; replace hb := hb.trans (hb2.mono hb.size); clear hb2; obtain ⟨c0, c1, c2, c3, c4, c5⟩ := HK.out _ hb)
                    | (go_at_call 73; go_fit (i4 _ (HM.out _ hb)); rintro e w1 ⟨rfl, hb2⟩; replace hb := hb.trans (hb2.mono hb.size); clear hb2; obtain ⟨c0, c1, c2, c3, c4, c5⟩ := HK.out _ hb)
                    | (go_at_call 74; go_fit (i5 _); rintro e w1 ⟨rfl, rfl⟩)
                    | (go_at_call 75; go_fit (i6 _); rintro e w1 ⟨rfl, hb2⟩; replace hb := hb.trans (hb2.mono hb.size); clear hb2))
                  go_ret
                  exact ⟨ret_bool (by simp), below_one hb⟩
    · have n1 := ne_nil g1
      have e1 := not_empty g1
      rw [decide_eq_false (by omega : ¬ t.size = 0)]
      cases nb
      · go_enter Tryz.func39, Tryz.ntmps39
        go_wp2_with (first
          | (go_at_call 71; go_fit (i1 _); rintro e w1 ⟨rfl, rfl⟩)
          | (go_at_call 72; go_fit (i2 _); rintro e w1 ⟨rfl, rfl⟩)
          | (go_at_call 73; go_fit (i3 _ (HM.out _ hb)); rintro e w1 ⟨rfl, hb2⟩; replace hb := hb.trans (hb2.mono hb.size); clear hb2; obtain ⟨c0, c1, c2, c3, c4, c5⟩ := HK.out _ hb)
          | (go_at_call 73; go_fit (i4 _ (HM.out _ hb)); rintro e w1 ⟨rfl, hb2⟩; replace hb := hb.trans (hb2.mono hb.size); clear hb2; obtain ⟨c0, c1, c2, c3, c4, c5⟩ := HK.out _ hb)
          | (go_at_call 74; go_fit (i5 _); rintro e w1 ⟨rfl, rfl⟩)
          | (go_at_call 75; go_fit (i6 _); rintro e w1 ⟨rfl, hb2⟩; replace hb := hb.trans (hb2.mono hb.size); clear hb2))
        go_ret
        exact ⟨ret_bool (by simp), below_one hb⟩
      · rcases Nat.eq_zero_or_pos f.size with g2 | g2
        · obtain ⟨n2, e2⟩ := empty_of g2
          rw [decide_eq_true g2]
          rcases Nat.eq_zero_or_pos o.size with g3 | g3
          · obtain ⟨n3, e3⟩ := empty_of g3
            rw [decide_eq_true g3]
            cases tb
            · go_enter Tryz.func39, Tryz.ntmps39
              go_wp2_with (first
                | (go_at_call 71; go_fit (i1 _); rintro e w1 ⟨rfl, rfl⟩)
                | (go_at_call 72; go_fit (i2 _); rintro e w1 ⟨rfl, rfl⟩)
                | (go_at_call 73; go_fit (i3 _ (HM.out _ hb)); rintro e w1 ⟨rfl, hb2⟩; replace hb := hb.trans (hb2.mono hb.size); clear hb2; obtain ⟨c0, c1, c2, c3, c4, c5⟩ := HK.out _ hb)
                | (go_at_call 73; go_fit (i4 _ (HM.out _ hb)); rintro e w1 ⟨rfl, hb2⟩; replace hb := hb.trans (hb2.mono hb.size); clear hb2; obtain ⟨c0, c1, c2, c3, c4, c5⟩ := HK.out _ hb)
                | (go_at_call 74; go_fit (i5 _); rintro e w1 ⟨rfl, rfl⟩)
                | (go_at_call 75; go_fit (i6 _); rintro e w1 ⟨rfl, hb2⟩; replace hb := hb.trans (hb2.mono hb.size); clear hb2))
              go_ret
              exact ⟨ret_bool (by simp), below_one hb⟩
            · by_cases g5 : b.size ≤ 400
              · rw [decide_eq_true g5]
                cases pb
                · go_enter Tryz.func39, Tryz.ntmps39
                  go_wp2_with (first
                    | (go_at_call 71; go_fit (i1 _); rintro e w1 ⟨rfl, rfl⟩)
                    | (go_at_call 72; go_fit (i2 _); rintro e w1 ⟨rfl, rfl⟩)
                    | (go_at_call 73; go_fit (i3 _ (HM.out _ hb)); rintro e w1 ⟨rfl, hb2⟩; replace hb := hb.trans (hb2.mono hb.size); clear hb2; obtain ⟨c0, c1, c2, c3, c4, c5⟩ := HK.out _ hb)
                    | (go_at_call 73; go_fit (i4 _ (HM.out _ hb)); rintro e w1 ⟨rfl, hb2⟩; replace hb := hb.trans (hb2.mono hb.size); clear hb2; obtain ⟨c0, c1, c2, c3, c4, c5⟩ := HK.out _ hb)
                    | (go_at_call 74; go_fit (i5 _); rintro e w1 ⟨rfl, rfl⟩)
                    | (go_at_call 75; go_fit (i6 _); rintro e w1 ⟨rfl, hb2⟩; replace hb := hb.trans (hb2.mono hb.size); clear hb2))
                  go_ret
                  exact ⟨ret_bool (by simp), below_one hb⟩
                · go_enter Tryz.func39, Tryz.ntmps39
                  go_wp2_with (first
                    | (go_at_call 71; go_fit (i1 _); rintro e w1 ⟨rfl, rfl⟩)
                    | (go_at_call 72; go_fit (i2 _); rintro e w1 ⟨rfl, rfl⟩)
                    | (go_at_call 73; go_fit (i3 _ (HM.out _ hb)); rintro e w1 ⟨rfl, hb2⟩; replace hb := hb.trans (hb2.mono hb.size); clear hb2; obtain ⟨c0, c1, c2, c3, c4, c5⟩ := HK.out _ hb)
                    | (go_at_call 73; go_fit (i4 _ (HM.out _ hb)); rintro e w1 ⟨rfl, hb2⟩; replace hb := hb.trans (hb2.mono hb.size); clear hb2; obtain ⟨c0, c1, c2, c3, c4, c5⟩ := HK.out _ hb)
                    | (go_at_call 74; go_fit (i5 _); rintro e w1 ⟨rfl, rfl⟩)
                    | (go_at_call 75; go_fit (i6 _); rintro e w1 ⟨rfl, hb2⟩; replace hb := hb.trans (hb2.mono hb.size); clear hb2))
                  go_ret
                  exact ⟨ret_bool (by simp), below_one hb⟩
              · rw [decide_eq_false g5]
                go_enter Tryz.func39, Tryz.ntmps39
                go_wp2_with (first
                  | (go_at_call 71; go_fit (i1 _); rintro e w1 ⟨rfl, rfl⟩)
                  | (go_at_call 72; go_fit (i2 _); rintro e w1 ⟨rfl, rfl⟩)
                  | (go_at_call 73; go_fit (i3 _ (HM.out _ hb)); rintro e w1 ⟨rfl, hb2⟩; replace hb := hb.trans (hb2.mono hb.size); clear hb2; obtain ⟨c0, c1, c2, c3, c4, c5⟩ := HK.out _ hb)
                  | (go_at_call 73; go_fit (i4 _ (HM.out _ hb)); rintro e w1 ⟨rfl, hb2⟩; replace hb := hb.trans (hb2.mono hb.size); clear hb2; obtain ⟨c0, c1, c2, c3, c4, c5⟩ := HK.out _ hb)
                  | (go_at_call 74; go_fit (i5 _); rintro e w1 ⟨rfl, rfl⟩)
                  | (go_at_call 75; go_fit (i6 _); rintro e w1 ⟨rfl, hb2⟩; replace hb := hb.trans (hb2.mono hb.size); clear hb2))
                go_ret
                exact ⟨ret_bool (by simp), below_one hb⟩
          · have n3 := ne_nil g3
            have e3 := not_empty g3
            rw [decide_eq_false (by omega : ¬ o.size = 0)]
            cases ob
            · go_enter Tryz.func39, Tryz.ntmps39
              go_wp2_with (first
                | (go_at_call 71; go_fit (i1 _); rintro e w1 ⟨rfl, rfl⟩)
                | (go_at_call 72; go_fit (i2 _); rintro e w1 ⟨rfl, rfl⟩)
                | (go_at_call 73; go_fit (i3 _ (HM.out _ hb)); rintro e w1 ⟨rfl, hb2⟩; replace hb := hb.trans (hb2.mono hb.size); clear hb2; obtain ⟨c0, c1, c2, c3, c4, c5⟩ := HK.out _ hb)
                | (go_at_call 73; go_fit (i4 _ (HM.out _ hb)); rintro e w1 ⟨rfl, hb2⟩; replace hb := hb.trans (hb2.mono hb.size); clear hb2; obtain ⟨c0, c1, c2, c3, c4, c5⟩ := HK.out _ hb)
                | (go_at_call 74; go_fit (i5 _); rintro e w1 ⟨rfl, rfl⟩)
                | (go_at_call 75; go_fit (i6 _); rintro e w1 ⟨rfl, hb2⟩; replace hb := hb.trans (hb2.mono hb.size); clear hb2))
              go_ret
              exact ⟨ret_bool (by simp), below_one hb⟩
            · cases tb
              · go_enter Tryz.func39, Tryz.ntmps39
                go_wp2_with (first
                  | (go_at_call 71; go_fit (i1 _); rintro e w1 ⟨rfl, rfl⟩)
                  | (go_at_call 72; go_fit (i2 _); rintro e w1 ⟨rfl, rfl⟩)
                  | (go_at_call 73; go_fit (i3 _ (HM.out _ hb)); rintro e w1 ⟨rfl, hb2⟩; replace hb := hb.trans (hb2.mono hb.size); clear hb2; obtain ⟨c0, c1, c2, c3, c4, c5⟩ := HK.out _ hb)
                  | (go_at_call 73; go_fit (i4 _ (HM.out _ hb)); rintro e w1 ⟨rfl, hb2⟩; replace hb := hb.trans (hb2.mono hb.size); clear hb2; obtain ⟨c0, c1, c2, c3, c4, c5⟩ := HK.out _ hb)
                  | (go_at_call 74; go_fit (i5 _); rintro e w1 ⟨rfl, rfl⟩)
                  | (go_at_call 75; go_fit (i6 _); rintro e w1 ⟨rfl, hb2⟩; replace hb := hb.trans (hb2.mono hb.size); clear hb2))
                go_ret
                exact ⟨ret_bool (by simp), below_one hb⟩
              · by_cases g5 : b.size ≤ 400
                · rw [decide_eq_true g5]
                  cases pb
                  · go_enter Tryz.func39, Tryz.ntmps39
                    go_wp2_with (first
                      | (go_at_call 71; go_fit (i1 _); rintro e w1 ⟨rfl, rfl⟩)
                      | (go_at_call 72; go_fit (i2 _); rintro e w1 ⟨rfl, rfl⟩)
                      | (go_at_call 73; go_fit (i3 _ (HM.out _ hb)); rintro e w1 ⟨rfl, hb2⟩; replace hb := hb.trans (hb2.mono hb.size); clear hb2; obtain ⟨c0, c1, c2, c3, c4, c5⟩ := HK.out _ hb)
                      | (go_at_call 73; go_fit (i4 _ (HM.out _ hb)); rintro e w1 ⟨rfl, hb2⟩; replace hb := hb.trans (hb2.mono hb.size); clear hb2; obtain ⟨c0, c1, c2, c3, c4, c5⟩ := HK.out _ hb)
                      | (go_at_call 74; go_fit (i5 _); rintro e w1 ⟨rfl, rfl⟩)
                      | (go_at_call 75; go_fit (i6 _); rintro e w1 ⟨rfl, hb2⟩; replace hb := hb.trans (hb2.mono hb.size); clear hb2))
                    go_ret
                    exact ⟨ret_bool (by simp), below_one hb⟩
                  · go_enter Tryz.func39, Tryz.ntmps39
                    go_wp2_with (first
                      | (go_at_call 71; go_fit (i1 _); rintro e w1 ⟨rfl, rfl⟩)
                      | (go_at_call 72; go_fit (i2 _); rintro e w1 ⟨rfl, rfl⟩)
                      | (go_at_call 73; go_fit (i3 _ (HM.out _ hb)); rintro e w1 ⟨rfl, hb2⟩; replace hb := hb.trans (hb2.mono hb.size); clear hb2; obtain ⟨c0, c1, c2, c3, c4, c5⟩ := HK.out _ hb)
                      | (go_at_call 73; go_fit (i4 _ (HM.out _ hb)); rintro e w1 ⟨rfl, hb2⟩; replace hb := hb.trans (hb2.mono hb.size); clear hb2; obtain ⟨c0, c1, c2, c3, c4, c5⟩ := HK.out _ hb)
                      | (go_at_call 74; go_fit (i5 _); rintro e w1 ⟨rfl, rfl⟩)
                      | (go_at_call 75; go_fit (i6 _); rintro e w1 ⟨rfl, hb2⟩; replace hb := hb.trans (hb2.mono hb.size); clear hb2))
                    go_ret
                    exact ⟨ret_bool (by simp), below_one hb⟩
                · rw [decide_eq_false g5]
                  go_enter Tryz.func39, Tryz.ntmps39
                  go_wp2_with (first
                    | (go_at_call 71; go_fit (i1 _); rintro e w1 ⟨rfl, rfl⟩)
                    | (go_at_call 72; go_fit (i2 _); rintro e w1 ⟨rfl, rfl⟩)
                    | (go_at_call 73; go_fit (i3 _ (HM.out _ hb)); rintro e w1 ⟨rfl, hb2⟩; replace hb := hb.trans (hb2.mono hb.size); clear hb2; obtain ⟨c0, c1, c2, c3, c4, c5⟩ := HK.out _ hb)
                    | (go_at_call 73; go_fit (i4 _ (HM.out _ hb)); rintro e w1 ⟨rfl, hb2⟩; replace hb := hb.trans (hb2.mono hb.size); clear hb2; obtain ⟨c0, c1, c2, c3, c4, c5⟩ := HK.out _ hb)
                    | (go_at_call 74; go_fit (i5 _); rintro e w1 ⟨rfl, rfl⟩)
                    | (go_at_call 75; go_fit (i6 _); rintro e w1 ⟨rfl, hb2⟩; replace hb := hb.trans (hb2.mono hb.size); clear hb2))
                  go_ret
                  exact ⟨ret_bool (by simp), below_one hb⟩
        · have n2 := ne_nil g2
          have e2 := not_empty g2
          rw [decide_eq_false (by omega : ¬ f.size = 0)]
          cases fb
          · go_enter Tryz.func39, Tryz.ntmps39
            go_wp2_with (first
              | (go_at_call 71; go_fit (i1 _); rintro e w1 ⟨rfl, rfl⟩)
              | (go_at_call 72; go_fit (i2 _); rintro e w1 ⟨rfl, rfl⟩)
              | (go_at_call 73; go_fit (i3 _ (HM.out _ hb)); rintro e w1 ⟨rfl, hb2⟩; replace hb := hb.trans (hb2.mono hb.size); clear hb2; obtain ⟨c0, c1, c2, c3, c4, c5⟩ := HK.out _ hb)
              | (go_at_call 73; go_fit (i4 _ (HM.out _ hb)); rintro e w1 ⟨rfl, hb2⟩; replace hb := hb.trans (hb2.mono hb.size); clear hb2; obtain ⟨c0, c1, c2, c3, c4, c5⟩ := HK.out _ hb)
              | (go_at_call 74; go_fit (i5 _); rintro e w1 ⟨rfl, rfl⟩)
              | (go_at_call 75; go_fit (i6 _); rintro e w1 ⟨rfl, hb2⟩; replace hb := hb.trans (hb2.mono hb.size); clear hb2))
            go_ret
            exact ⟨ret_bool (by simp), below_one hb⟩
          · rcases Nat.eq_zero_or_pos o.size with g3 | g3
            · obtain ⟨n3, e3⟩ := empty_of g3
              rw [decide_eq_true g3]
              cases tb
              · go_enter Tryz.func39, Tryz.ntmps39
                go_wp2_with (first
                  | (go_at_call 71; go_fit (i1 _); rintro e w1 ⟨rfl, rfl⟩)
                  | (go_at_call 72; go_fit (i2 _); rintro e w1 ⟨rfl, rfl⟩)
                  | (go_at_call 73; go_fit (i3 _ (HM.out _ hb)); rintro e w1 ⟨rfl, hb2⟩; replace hb := hb.trans (hb2.mono hb.size); clear hb2; obtain ⟨c0, c1, c2, c3, c4, c5⟩ := HK.out _ hb)
                  | (go_at_call 73; go_fit (i4 _ (HM.out _ hb)); rintro e w1 ⟨rfl, hb2⟩; replace hb := hb.trans (hb2.mono hb.size); clear hb2; obtain ⟨c0, c1, c2, c3, c4, c5⟩ := HK.out _ hb)
                  | (go_at_call 74; go_fit (i5 _); rintro e w1 ⟨rfl, rfl⟩)
                  | (go_at_call 75; go_fit (i6 _); rintro e w1 ⟨rfl, hb2⟩; replace hb := hb.trans (hb2.mono hb.size); clear hb2))
                go_ret
                exact ⟨ret_bool (by simp), below_one hb⟩
              · by_cases g5 : b.size ≤ 400
                · rw [decide_eq_true g5]
                  cases pb
                  · go_enter Tryz.func39, Tryz.ntmps39
                    go_wp2_with (first
                      | (go_at_call 71; go_fit (i1 _); rintro e w1 ⟨rfl, rfl⟩)
                      | (go_at_call 72; go_fit (i2 _); rintro e w1 ⟨rfl, rfl⟩)
                      | (go_at_call 73; go_fit (i3 _ (HM.out _ hb)); rintro e w1 ⟨rfl, hb2⟩; replace hb := hb.trans (hb2.mono hb.size); clear hb2; obtain ⟨c0, c1, c2, c3, c4, c5⟩ := HK.out _ hb)
                      | (go_at_call 73; go_fit (i4 _ (HM.out _ hb)); rintro e w1 ⟨rfl, hb2⟩; replace hb := hb.trans (hb2.mono hb.size); clear hb2; obtain ⟨c0, c1, c2, c3, c4, c5⟩ := HK.out _ hb)
                      | (go_at_call 74; go_fit (i5 _); rintro e w1 ⟨rfl, rfl⟩)
                      | (go_at_call 75; go_fit (i6 _); rintro e w1 ⟨rfl, hb2⟩; replace hb := hb.trans (hb2.mono hb.size); clear hb2))
                    go_ret
                    exact ⟨ret_bool (by simp), below_one hb⟩
                  · go_enter Tryz.func39, Tryz.ntmps39
                    go_wp2_with (first
                      | (go_at_call 71; go_fit (i1 _); rintro e w1 ⟨rfl, rfl⟩)
                      | (go_at_call 72; go_fit (i2 _); rintro e w1 ⟨rfl, rfl⟩)
                      | (go_at_call 73; go_fit (i3 _ (HM.out _ hb)); rintro e w1 ⟨rfl, hb2⟩; replace hb := hb.trans (hb2.mono hb.size); clear hb2; obtain ⟨c0, c1, c2, c3, c4, c5⟩ := HK.out _ hb)
                      | (go_at_call 73; go_fit (i4 _ (HM.out _ hb)); rintro e w1 ⟨rfl, hb2⟩; replace hb := hb.trans (hb2.mono hb.size); clear hb2; obtain ⟨c0, c1, c2, c3, c4, c5⟩ := HK.out _ hb)
                      | (go_at_call 74; go_fit (i5 _); rintro e w1 ⟨rfl, rfl⟩)
                      | (go_at_call 75; go_fit (i6 _); rintro e w1 ⟨rfl, hb2⟩; replace hb := hb.trans (hb2.mono hb.size); clear hb2))
                    go_ret
                    exact ⟨ret_bool (by simp), below_one hb⟩
                · rw [decide_eq_false g5]
                  go_enter Tryz.func39, Tryz.ntmps39
                  go_wp2_with (first
                    | (go_at_call 71; go_fit (i1 _); rintro e w1 ⟨rfl, rfl⟩)
                    | (go_at_call 72; go_fit (i2 _); rintro e w1 ⟨rfl, rfl⟩)
                    | (go_at_call 73; go_fit (i3 _ (HM.out _ hb)); rintro e w1 ⟨rfl, hb2⟩; replace hb := hb.trans (hb2.mono hb.size); clear hb2; obtain ⟨c0, c1, c2, c3, c4, c5⟩ := HK.out _ hb)
                    | (go_at_call 73; go_fit (i4 _ (HM.out _ hb)); rintro e w1 ⟨rfl, hb2⟩; replace hb := hb.trans (hb2.mono hb.size); clear hb2; obtain ⟨c0, c1, c2, c3, c4, c5⟩ := HK.out _ hb)
                    | (go_at_call 74; go_fit (i5 _); rintro e w1 ⟨rfl, rfl⟩)
                    | (go_at_call 75; go_fit (i6 _); rintro e w1 ⟨rfl, hb2⟩; replace hb := hb.trans (hb2.mono hb.size); clear hb2))
                  go_ret
                  exact ⟨ret_bool (by simp), below_one hb⟩
            · have n3 := ne_nil g3
              have e3 := not_empty g3
              rw [decide_eq_false (by omega : ¬ o.size = 0)]
              cases ob
              · go_enter Tryz.func39, Tryz.ntmps39
                go_wp2_with (first
                  | (go_at_call 71; go_fit (i1 _); rintro e w1 ⟨rfl, rfl⟩)
                  | (go_at_call 72; go_fit (i2 _); rintro e w1 ⟨rfl, rfl⟩)
                  | (go_at_call 73; go_fit (i3 _ (HM.out _ hb)); rintro e w1 ⟨rfl, hb2⟩; replace hb := hb.trans (hb2.mono hb.size); clear hb2; obtain ⟨c0, c1, c2, c3, c4, c5⟩ := HK.out _ hb)
                  | (go_at_call 73; go_fit (i4 _ (HM.out _ hb)); rintro e w1 ⟨rfl, hb2⟩; replace hb := hb.trans (hb2.mono hb.size); clear hb2; obtain ⟨c0, c1, c2, c3, c4, c5⟩ := HK.out _ hb)
                  | (go_at_call 74; go_fit (i5 _); rintro e w1 ⟨rfl, rfl⟩)
                  | (go_at_call 75; go_fit (i6 _); rintro e w1 ⟨rfl, hb2⟩; replace hb := hb.trans (hb2.mono hb.size); clear hb2))
                go_ret
                exact ⟨ret_bool (by simp), below_one hb⟩
              · cases tb
                · go_enter Tryz.func39, Tryz.ntmps39
                  go_wp2_with (first
                    | (go_at_call 71; go_fit (i1 _); rintro e w1 ⟨rfl, rfl⟩)
                    | (go_at_call 72; go_fit (i2 _); rintro e w1 ⟨rfl, rfl⟩)
                    | (go_at_call 73; go_fit (i3 _ (HM.out _ hb)); rintro e w1 ⟨rfl, hb2⟩; replace hb := hb.trans (hb2.mono hb.size); clear hb2; obtain ⟨c0, c1, c2, c3, c4, c5⟩ := HK.out _ hb)
                    | (go_at_call 73; go_fit (i4 _ (HM.out _ hb)); rintro e w1 ⟨rfl, hb2⟩; replace hb := hb.trans (hb2.mono hb.size); clear hb2; obtain ⟨c0, c1, c2, c3, c4, c5⟩ := HK.out _ hb)
                    | (go_at_call 74; go_fit (i5 _); rintro e w1 ⟨rfl, rfl⟩)
                    | (go_at_call 75; go_fit (i6 _); rintro e w1 ⟨rfl, hb2⟩; replace hb := hb.trans (hb2.mono hb.size); clear hb2))
                  go_ret
                  exact ⟨ret_bool (by simp), below_one hb⟩
                · by_cases g5 : b.size ≤ 400
                  · rw [decide_eq_true g5]
                    cases pb
                    · go_enter Tryz.func39, Tryz.ntmps39
                      go_wp2_with (first
                        | (go_at_call 71; go_fit (i1 _); rintro e w1 ⟨rfl, rfl⟩)
                        | (go_at_call 72; go_fit (i2 _); rintro e w1 ⟨rfl, rfl⟩)
                        | (go_at_call 73; go_fit (i3 _ (HM.out _ hb)); rintro e w1 ⟨rfl, hb2⟩; replace hb := hb.trans (hb2.mono hb.size); clear hb2; obtain ⟨c0, c1, c2, c3, c4, c5⟩ := HK.out _ hb)
                        | (go_at_call 73; go_fit (i4 _ (HM.out _ hb)); rintro e w1 ⟨rfl, hb2⟩; replace hb := hb.trans (hb2.mono hb.size); clear hb2; obtain ⟨c0, c1, c2, c3, c4, c5⟩ := HK.out _ hb)
                        | (go_at_call 74; go_fit (i5 _); rintro e w1 ⟨rfl, rfl⟩)
                        | (go_at_call 75; go_fit (i6 _); rintro e w1 ⟨rfl, hb2⟩; replace hb := hb.trans (hb2.mono hb.size); clear hb2))
                      go_ret
                      exact ⟨ret_bool (by simp), below_one hb⟩
                    · go_enter Tryz.func39, Tryz.ntmps39
                      go_wp2_with (first
                        | (go_at_call 71; go_fit (i1 _); rintro e w1 ⟨rfl, rfl⟩)
                        | (go_at_call 72; go_fit (i2 _); rintro e w1 ⟨rfl, rfl⟩)
                        | (go_at_call 73; go_fit (i3 _ (HM.out _ hb)); rintro e w1 ⟨rfl, hb2⟩; replace hb := hb.trans (hb2.mono hb.size); clear hb2; obtain ⟨c0, c1, c2, c3, c4, c5⟩ := HK.out _ hb)
                        | (go_at_call 73; go_fit (i4 _ (HM.out _ hb)); rintro e w1 ⟨rfl, hb2⟩; replace hb := hb.trans (hb2.mono hb.size); clear hb2; obtain ⟨c0, c1, c2, c3, c4, c5⟩ := HK.out _ hb)
                        | (go_at_call 74; go_fit (i5 _); rintro e w1 ⟨rfl, rfl⟩)
                        | (go_at_call 75; go_fit (i6 _); rintro e w1 ⟨rfl, hb2⟩; replace hb := hb.trans (hb2.mono hb.size); clear hb2))
                      go_ret
                      exact ⟨ret_bool (by simp), below_one hb⟩
                  · rw [decide_eq_false g5]
                    go_enter Tryz.func39, Tryz.ntmps39
                    go_wp2_with (first
                      | (go_at_call 71; go_fit (i1 _); rintro e w1 ⟨rfl, rfl⟩)
                      | (go_at_call 72; go_fit (i2 _); rintro e w1 ⟨rfl, rfl⟩)
                      | (go_at_call 73; go_fit (i3 _ (HM.out _ hb)); rintro e w1 ⟨rfl, hb2⟩; replace hb := hb.trans (hb2.mono hb.size); clear hb2; obtain ⟨c0, c1, c2, c3, c4, c5⟩ := HK.out _ hb)
                      | (go_at_call 73; go_fit (i4 _ (HM.out _ hb)); rintro e w1 ⟨rfl, hb2⟩; replace hb := hb.trans (hb2.mono hb.size); clear hb2; obtain ⟨c0, c1, c2, c3, c4, c5⟩ := HK.out _ hb)
                      | (go_at_call 74; go_fit (i5 _); rintro e w1 ⟨rfl, rfl⟩)
                      | (go_at_call 75; go_fit (i6 _); rintro e w1 ⟨rfl, hb2⟩; replace hb := hb.trans (hb2.mono hb.size); clear hb2))
                    go_ret
                    exact ⟨ret_bool (by simp), below_one hb⟩
end Go.Proofs.YtafdjjdmcnlddaaGreat

namespace Go.Proofs.YtafdjjdmcnlddaaGreat
set_option linter.unusedSimpArgs false
set_option linter.unusedVariables false
open Go.ChangeShapes Go.WideShapes Go.ChangeAt Go.RowKit Go.Joins

theorem cellsStr : Tryz.prog.cellsOf 9 = 1 := by kernel_rfl
theorem cellsI64 : Tryz.prog.cellsOf 2 = 1 := by kernel_rfl
def stV (k t f o : ByteArray) (n : Int) (b : ByteArray) : Value := .agg #[.string k, .string t, .string f, .string o, .int .i64 n, .string b]
def stD {H : Type} (k t f o : ByteArray) (n : Int) (b : ByteArray) : DataW H :=
  .agg [.lit (.string k.data.toList), .lit (.string t.data.toList), .lit (.string f.data.toList), .lit (.string o.data.toList), .lit (.int .i64 n), .lit (.string b.data.toList)]
end Go.Proofs.YtafdjjdmcnlddaaGreat

namespace Go.Proofs.YtafdjjdmcnlddaaGreat
set_option linter.unusedSimpArgs false
set_option linter.unusedVariables false

theorem countP_lt {p q : Nat → Bool} (hpq : ∀ j, q j = true → p j = true) {i : Nat} (hp : p i = true) (hq : q i = false) : ∀ l : List Nat, i ∈ l → l.countP q < l.countP p
  | [], h => by cases h
  | x :: l, h => by
    have hle : l.countP q ≤ l.countP p := List.countP_mono_left (fun y _ h => hpq y h)
    rw [List.countP_cons, List.countP_cons]
    rcases List.mem_cons.1 h with rfl | h
    · rw [hp, hq]
      simp
      omega
    · have ih := countP_lt hpq hp hq l h
      cases hx : q x
      · simp
        split <;> omega
      · rw [hpq x hx]
        simp
        omega
def unlisted (ops : Array Oper) (listed : Array Bool) : Nat := (List.range ops.size).countP (fun i => !listed.getD i true)
theorem ready_spec {md : Region.Mode} {ops : Array Oper} {listed : Array Bool} {i : Nat} (h : i ∈ Region.ready md ops listed) :
    i < ops.size ∧ listed.getD i true = false ∧ ((ops[i]?).map (·.after.all fun e => !Region.binds md e || listed.getD e.on false)).getD false = true := by
  unfold Region.ready at h
  rw [List.mem_filter] at h
  simp only [List.mem_range, Bool.and_eq_true, Bool.not_eq_true'] at h
  exact ⟨h.1, h.2.1, h.2.2⟩
theorem ready_nil {md : Region.Mode} {ops : Array Oper} {listed : Array Bool} (h : Region.ready md ops listed = []) (i : Nat) (hi : i < ops.size) (hd : ((ops[i]?).map (·.after.all fun e => !Region.binds md e || listed.getD e.on false)).getD false = true) : listed.getD i true = true := by
  cases hl : listed.getD i true
  · exfalso
    have : i ∈ Region.ready md ops listed := by
      unfold Region.ready
      rw [List.mem_filter]
      exact ⟨List.mem_range.2 hi, by rw [hl, hd]; rfl⟩
    rw [h] at this
    cases this
  · rfl
theorem getD_set (l : Array Bool) (i j : Nat) : (l.setIfInBounds i true).getD j true = (if j = i then true else l.getD j true) := by
  simp only [Array.getD_eq_getD_getElem?, Array.getElem?_setIfInBounds]
  split
  · rename_i e
    subst e
    simp only [if_true]
    split
    · rfl
    · rfl
  · rename_i e
    rw [if_neg (fun h => e h.symm)]
theorem unlisted_lt {md : Region.Mode} {ops : Array Oper} {listed : Array Bool} {i : Nat} (h : i ∈ Region.ready md ops listed) : unlisted ops (listed.setIfInBounds i true) < unlisted ops listed := by
  obtain ⟨h1, h2, _⟩ := ready_spec h
  refine countP_lt (i := i) (fun j hj => ?_) (by simp [h2]) (by simp [getD_set]) _ (List.mem_range.2 h1)
  rw [getD_set] at hj
  split at hj
  · simp at hj
  · exact hj
theorem any_order {P : Program} {md : Region.Mode} {ops : Array Oper} {Q : Exit → Act → World → Prop} {S : World → Prop} (Inv : Array Bool → Act → World → Prop)
    (hstep : ∀ listed a w i, Inv listed a w → i ∈ Region.ready md ops listed → wpOp P ops Q i (fun a' w' => S w' ∧ Inv (listed.setIfInBounds i true) a' w') a w)
    (hdone : ∀ listed a w, Inv listed a w → Region.ready md ops listed = [] → Q .normal a w) :
    ∀ (fuel : Nat) (listed : Array Bool) (a : Act) (w : World), unlisted ops listed ≤ fuel → Inv listed a w → wpAnyH P md ops Q S fuel listed a w
  | 0, listed, a, w, hf, hI => by
    have hr : Region.ready md ops listed = [] := by
      rcases h : Region.ready md ops listed with _ | ⟨i, l⟩
      · rfl
      · have := unlisted_lt (md := md) (ops := ops) (listed := listed) (i := i) (by rw [h]; simp)
        omega
    exact ⟨hr, hdone _ _ _ hI hr⟩
  | fuel + 1, listed, a, w, hf, hI => by
    refine ⟨fun hr => hdone _ _ _ hI hr, fun i hi => ?_⟩
    refine wpOp_mono (fun a' w' h' => ⟨h'.1, ?_⟩) (hstep listed a w i hI hi)
    exact any_order Inv hstep hdone fuel _ a' w' (by have := unlisted_lt hi; omega) h'.2
end Go.Proofs.YtafdjjdmcnlddaaGreat
