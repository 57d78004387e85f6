/- What impl.Fault and spec.Fault answer. -/
import Derived.Test.YtihjgkicmgomcaaStReplyS
namespace Go.Proofs.Ytihjgkicmgomcaa
set_option linter.unusedSimpArgs false
set_option linter.unusedVariables false
open Go.RowKit

def errS : ByteArray := ⟨#[101, 114, 114, 111, 114]⟩
theorem err_list : errS.toList = [101, 114, 114, 111, 114] := by rw [ByteArray.toList_eq]; rfl
/-- What Fault answers. -/
noncomputable def fltV (k t f o : ByteArray) (n : Int) (b nm : ByteArray) : Value :=
  if ((t.toList == errS.toList) || !nameB nm) = true then stV ⟨#[]⟩ ⟨#[]⟩ ⟨#[]⟩ ⟨#[]⟩ 0 ⟨#[]⟩ else repV k t f o n b errS nm
theorem fltV_yes {k t f o : ByteArray} {n : Int} {b nm : ByteArray} (h : (t.toList == errS.toList) = true) : fltV k t f o n b nm = stV ⟨#[]⟩ ⟨#[]⟩ ⟨#[]⟩ ⟨#[]⟩ 0 ⟨#[]⟩ := by unfold fltV; rw [h]; rfl
theorem fltV_bad {k t f o : ByteArray} {n : Int} {b nm : ByteArray} (h : nameB nm = false) : fltV k t f o n b nm = stV ⟨#[]⟩ ⟨#[]⟩ ⟨#[]⟩ ⟨#[]⟩ 0 ⟨#[]⟩ := by unfold fltV; rw [h, Bool.not_false, Bool.or_true]; rfl
theorem fltV_rep {k t f o : ByteArray} {n : Int} {b nm : ByteArray} (h1 : (t.toList == errS.toList) = false) (h2 : nameB nm = true) : fltV k t f o n b nm = repV k t f o n b errS nm := by unfold fltV; rw [h1, h2]; rfl
theorem rep_form (k t f o : ByteArray) (n : Int) (b kd bd : ByteArray) : ∃ x y z u m v, repV k t f o n b kd bd = stV x y z u m v := by
  unfold repV
  split
  · exact ⟨_, _, _, _, _, _, rfl⟩
  · exact ⟨_, _, _, _, _, _, rfl⟩
theorem name_le {s : ByteArray} (h : nameB s = true) : s.size ≤ 20 := by
  unfold nameB at h
  simp at h
  exact h.2.1

set_option maxRecDepth 100000 in
set_option maxHeartbeats 2000000 in
theorem impl_fault (k t f o : ByteArray) (n : Int) (b nm : ByteArray) (w : World) (hk : k.size ≤ 2000000) (ht : t.size ≤ 2000000) (hf : f.size ≤ 2000000) (ho : o.size ≤ 2000000) (hbz : b.size ≤ 2000000) (hnm : nm.size ≤ 2000000) (hm : MaxL w) :
    Calls Try.prog 20 #[.agg #[.string k, .string t, .string f, .string o, .int .i64 n, .string b], .string nm] w fun e w' => e = .returned (fltV k t f o n b nm) ∧ Below w.heap.size w w' := by
  have i1 := fun w => impl_name nm w (by unfold maxLen; omega)
  have i2 := fun w hm => impl_reply k t f o n b errS nm w hk ht hf ho hbz (by decide) hnm hm
  cases h1 : (t.toList == errS.toList)
  · cases h2 : nameB nm
    · rw [fltV_bad h2]
      rw [h2] at i1
      rw [err_list] at h1
      clear h2 i2 hm
      go_enter Try.func20, Try.ntmps20
      go_wp2_with (go_at_call 41; go_fit (i1 _); rintro e w1 ⟨rfl, rfl⟩)
      exact bodyPost_ret (v := stV ⟨#[]⟩ ⟨#[]⟩ ⟨#[]⟩ ⟨#[]⟩ 0 ⟨#[]⟩) (by simp [results, Try.results20, go_sem, stV]) rfl ⟨rfl, ((Below.refl _ _).alloc (Nat.le_refl _) _).alloc (by simp) _⟩
    · rw [fltV_rep h1 h2]
      rw [h2] at i1
      obtain ⟨x, y, z, u, m, v, hv⟩ := rep_form k t f o n b errS nm
      rw [hv] at i2 ⊢
      unfold stV at i2
      rw [err_list] at h1
      unfold errS at i2
      clear h2 hv
      have HM := Lib.hid (fun W (h : Below w.heap.size w W) => hm.below h hm.pos)
      clear hm
      go_enter Try.func20, Try.ntmps20
      go_wp2_with (first
        | (go_at_call 41; go_fit (i1 _); rintro e w1 ⟨rfl, rfl⟩)
        | (go_at_call 17; go_fit (i2 _ (HM.out _ (((Below.refl _ _).alloc (Nat.le_refl _) _).alloc (by simp) _))); rintro e w1 ⟨rfl, hb⟩; have hS := two_boxes hb; obtain ⟨⟨⟨p0, p1, p2, p3, p4, p5⟩, s0, s1, s2, s3, s4, s5⟩, ⟨f0, f1, f2, f3, f4, f5⟩, hz⟩ := cells_of_s hS; have HS := Lib.hid hS; clear hS))
      exact bodyPost_ret (v := stV x y z u m v) (by simp [results, Try.results20, go_sem, s0, s1, s2, s3, s4, s5, hz, stV]; try omega) rfl ⟨rfl, repS_ans HS.out _ _ _ _ _ _⟩
  · rw [fltV_yes h1]
    rw [err_list] at h1
    clear i1 i2 hm
    go_enter Try.func20, Try.ntmps20
    go_wp2
    exact bodyPost_ret (v := stV ⟨#[]⟩ ⟨#[]⟩ ⟨#[]⟩ ⟨#[]⟩ 0 ⟨#[]⟩) (by simp [results, Try.results20, go_sem, stV]) rfl ⟨rfl, ((Below.refl _ _).alloc (Nat.le_refl _) _).alloc (by simp) _⟩

set_option maxRecDepth 100000 in
set_option maxHeartbeats 2000000 in
theorem spec_fault (k t f o : ByteArray) (n : Int) (b nm : ByteArray) (w : World) (ht : t.size ≤ maxLen) (hf : f.size ≤ 2000000) (ho : o.size ≤ 2000000) (hbz : b.size ≤ maxLen) (hnm : nm.size ≤ maxLen) :
    Calls Try.prog 21 #[.agg #[.string k, .string t, .string f, .string o, .int .i64 n, .string b], .string nm] w fun e w' => e = .returned (fltV k t f o n b nm) ∧ Below w.heap.size w w' := by
  have i1 := fun w => spec_stright k t f o n b w ht hf ho hbz
  have i2 := fun w => spec_l04reply k t f o n b errS nm w (by unfold maxLen; decide) hf ho hnm
  have i3 := fun w => spec_name nm w hnm
  unfold maxLen at hnm
  by_cases g1 : 20000 < nm.size
  · rw [fltV_bad (by cases h : nameB nm; · rfl
                     · have := name_le h; omega)]
    clear i1 i2 i3
    go_enter Try.func21, Try.ntmps21
    go_wp2
    exact bodyPost_ret (v := stV ⟨#[]⟩ ⟨#[]⟩ ⟨#[]⟩ ⟨#[]⟩ 0 ⟨#[]⟩) (by simp [results, Try.results21, go_sem, stV]) rfl ⟨rfl, ((Below.refl _ _).alloc (Nat.le_refl _) _).alloc (by simp) _⟩
  cases hx : stB k t f o n b
  · have hz : fltV k t f o n b nm = stV ⟨#[]⟩ ⟨#[]⟩ ⟨#[]⟩ ⟨#[]⟩ 0 ⟨#[]⟩ := by
      unfold fltV
      rw [repV_no hx]
      split <;> rfl
    rw [hz]
    rw [hx] at i1
    clear hx hz i2 i3
    go_enter Try.func21, Try.ntmps21
    go_wp2_with (go_at_call 23; go_fit (i1 _); rintro e w1 ⟨rfl, hb⟩; have hS := two_boxes hb; obtain ⟨⟨⟨p0, p1, p2, p3, p4, p5⟩, s0, s1, s2, s3, s4, s5⟩, ⟨f0, f1, f2, f3, f4, f5⟩, hz⟩ := cells_of_s hS; have HS := Lib.hid hS; clear hS)
    exact bodyPost_ret (v := stV ⟨#[]⟩ ⟨#[]⟩ ⟨#[]⟩ ⟨#[]⟩ 0 ⟨#[]⟩) (by simp [results, Try.results21, go_sem, s0, s1, s2, s3, s4, s5, hz, stV]; try omega) rfl ⟨rfl, repS_ans HS.out _ _ _ _ _ _⟩
  rw [hx] at i1
  cases h1 : (t.toList == errS.toList)
  · cases h2 : nameB nm
    · rw [fltV_bad h2]
      rw [h2] at i3
      rw [err_list] at h1
      clear h2 i2 hx
      go_enter Try.func21, Try.ntmps21
      go_wp2_with (first
        | (go_at_call 23; go_fit (i1 _); rintro e w1 ⟨rfl, hb⟩; have hS := two_boxes hb; obtain ⟨⟨⟨p0, p1, p2, p3, p4, p5⟩, s0, s1, s2, s3, s4, s5⟩, ⟨f0, f1, f2, f3, f4, f5⟩, hz⟩ := cells_of_s hS; have HS := Lib.hid hS; clear hS)
        | (go_at_call 42; go_fit (i3 _); rintro e w2 ⟨rfl, rfl⟩))
      exact bodyPost_ret (v := stV ⟨#[]⟩ ⟨#[]⟩ ⟨#[]⟩ ⟨#[]⟩ 0 ⟨#[]⟩) (by simp [results, Try.results21, go_sem, s0, s1, s2, s3, s4, s5, hz, stV]; try omega) rfl ⟨rfl, repS_ans HS.out _ _ _ _ _ _⟩
    · rw [fltV_rep h1 h2, repV_l4 hx]
      rw [h2] at i3
      obtain ⟨x, y, z, u, m, v, hv⟩ := l4_form k f o n errS nm
      rw [hv] at i2 ⊢
      unfold stV at i2
      rw [err_list] at h1
      unfold errS at i2
      clear h2 hv hx
      go_enter Try.func21, Try.ntmps21
      go_wp2_with (first
        | (go_at_call 23; go_fit (i1 _); rintro e w1 ⟨rfl, hb⟩; have hS := two_boxes hb; obtain ⟨⟨⟨p0, p1, p2, p3, p4, p5⟩, s0, s1, s2, s3, s4, s5⟩, ⟨f0, f1, f2, f3, f4, f5⟩, hz⟩ := cells_of_s hS; have HS := Lib.hid hS; clear hS)
        | (go_at_call 42; go_fit (i3 _); rintro e w2 ⟨rfl, rfl⟩)
        | (go_at_call 40; go_fit (i2 _); rintro e w2 ⟨rfl, hb2⟩; have hS := repS_on HS.out hb2; obtain ⟨⟨⟨p0, p1, p2, p3, p4, p5⟩, s0, s1, s2, s3, s4, s5⟩, ⟨f0, f1, f2, f3, f4, f5⟩, hz⟩ := cells_of_s hS; have HS := Lib.hid hS; clear hS))
      exact bodyPost_ret (v := stV x y z u m v) (by simp [results, Try.results21, go_sem, s0, s1, s2, s3, s4, s5, hz, stV]; try omega) rfl ⟨rfl, repS_ans HS.out _ _ _ _ _ _⟩
  · rw [fltV_yes h1]
    rw [err_list] at h1
    clear i2 i3 hx
    go_enter Try.func21, Try.ntmps21
    go_wp2_with (go_at_call 23; go_fit (i1 _); rintro e w1 ⟨rfl, hb⟩; have hS := two_boxes hb; obtain ⟨⟨⟨p0, p1, p2, p3, p4, p5⟩, s0, s1, s2, s3, s4, s5⟩, ⟨f0, f1, f2, f3, f4, f5⟩, hz⟩ := cells_of_s hS; have HS := Lib.hid hS; clear hS)
    exact bodyPost_ret (v := stV ⟨#[]⟩ ⟨#[]⟩ ⟨#[]⟩ ⟨#[]⟩ 0 ⟨#[]⟩) (by simp [results, Try.results21, go_sem, s0, s1, s2, s3, s4, s5, hz, stV]; try omega) rfl ⟨rfl, repS_ans HS.out _ _ _ _ _ _⟩
end Go.Proofs.Ytihjgkicmgomcaa
