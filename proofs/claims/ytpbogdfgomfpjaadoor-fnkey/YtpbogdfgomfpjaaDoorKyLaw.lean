/- FnKey's walk. -/
import Derived.Test.YtpbogdfgomfpjaaDoorKyDraws
namespace Go.Proofs.YtpbogdfgomfpjaaDoor
set_option linter.unusedSimpArgs false
set_option linter.unusedVariables false
open Go.RowKit

theorem ky_len {s t f : ByteArray} {n : Int} : ((kyS s t f n).size = 0 ∧ kyS s t f n = ⟨#[]⟩) ∨ (kyS s t f n).size = 64 := by
  cases h : kyB s t f n
  · left
    rw [kyS_no h]
    exact ⟨rfl, rfl⟩
  · right
    rw [kyS_yes h, strOf_size, hexL_len, macIn_len]
/-- What DrawDbAnswer answers. -/
def KaDrawn (v : Value) : Prop := ∃ (s t f : ByteArray) (n : Int) (k : ByteArray), v = .tuple #[.string s, .string t, .string f, .int .i64 n, .string k] ∧ s.size ≤ 101 ∧ t.size ≤ 3 ∧ f.size ≤ 3 ∧ k.size ≤ 74
set_option maxRecDepth 100000 in
set_option maxHeartbeats 400000 in
theorem draw_answer (a : Option Addr) (len cap : Nat) (w : World) (hlen : len ≤ 1048576) (hrow : SrcRow w w.heap.size a len) :
    Calls Tryd.prog 14 #[.slice a len cap] w fun e w' => (∃ v, e = .returned v ∧ KaDrawn v) ∧ Below w.heap.size w w' := by
  have HR := Lib.hid hrow
  clear hrow
  go_enter Tryd.func14, Tryd.ntmps14
  go_wp2_with fail
  refine (draw_key a len cap _ hlen HR.out).mono ?_
  rintro e w1 ⟨⟨_, rfl, ⟨s, t, f, n, rfl, hs, ht, hf⟩⟩, hb1⟩
  go_wp2_with fail
  refine (src_source a len cap _ hlen (HR.out.lift hb1 hb1.size)).mono ?_
  rintro e w2 ⟨rfl, hS2, hb2⟩
  have hbb2 := hb1.trans (hb2.mono hb1.size)
  obtain ⟨K, hK⟩ : ∃ K, kyS s t f n = K := ⟨_, rfl⟩
  have hKs : K.size ≤ 64 := by rw [← hK]; rcases ky_len (s := s) (t := t) (f := f) (n := n) with h | h <;> omega
  have i1 := fun W => spec_dbkey s t f n W (by unfold maxLen; omega) (by unfold maxLen; omega) (by unfold maxLen; omega)
  rw [hK] at i1
  clear hK
  go_wp2_with (go_at_call 12; go_fit (i1 _); rintro e w3 ⟨rfl, hb3⟩)
  have hS3 := hS2.on hb3
  have hbb3 := hbb2.trans (hb3.mono hbb2.size)
  have hsz1 := hb1.size
  clear hS2 hb3 hbb2
  refine (src_one w1.heap.size w1.heap.size 3 _ (by omega) hS3).mono ?_
  rintro e w4 ⟨_, rfl, ⟨q, rfl⟩, hS4, hg4⟩
  have hbb4 := below_grown hbb3 hbb3.size hg4 hsz1
  clear hS3 hg4 hbb3
  cases q
  · go_wp2
    exact bodyPost_ret (v := .tuple #[.string s, .string t, .string f, .int .i64 n, .string K]) (by simp [results, Tryd.results14, go_sem]) rfl ⟨⟨_, rfl, ⟨s, t, f, n, K, rfl, hs, ht, hf, by omega⟩⟩, hbb4⟩
  · go_wp2_with fail
    refine (src_spoilM w1.heap.size w1.heap.size 64 K _ hKs (by omega) hS4).mono ?_
    rintro e w5 ⟨_, rfl, ⟨x, rfl, hx⟩, hS5, hg5⟩
    have hbb5 := below_grown hbb4 hbb4.size hg5 hsz1
    go_wp2
    exact bodyPost_ret (v := .tuple #[.string s, .string t, .string f, .int .i64 n, .string x]) (by simp [results, Tryd.results14, go_sem]) rfl ⟨⟨_, rfl, ⟨s, t, f, n, x, rfl, hs, ht, hf, by omega⟩⟩, hbb5⟩
set_option maxRecDepth 100000 in
set_option maxHeartbeats 1000000 in
theorem key_law (a0 : Option Addr) (len0 cap0 : Nat) (a1 : Option Addr) (len1 cap1 : Nat) (w : World) (h0 : len0 ≤ 1048576) (h1 : len1 ≤ 1048576) (r0 : SrcRow w w.heap.size a0 len0) (r1 : SrcRow w w.heap.size a1 len1) (hm : MaxL w) (hp : TabP w) (hT : Tabs w) :
    Calls Tryd.prog 3 #[.slice a0 len0 cap0, .slice a1 len1 cap1] w fun e w' => e = .returned (.bool true) ∧ Below w.heap.size w w' := by
  have R0 := Lib.hid r0
  have R1 := Lib.hid r1
  have HM := Lib.hid (fun W (h : Below w.heap.size w W) => hm.below h hm.pos)
  have HT := Lib.hid (fun W (h : Below w.heap.size w W) => hT.below h)
  have HP := Lib.hid (fun W (h : Below w.heap.size w W) => hp.below h)
  clear r0 r1 hm hT hp
  have g0 : ¬ ((1048576 : Int) < len0) := by omega
  have g1 : ¬ ((1048576 : Int) < len1) := by omega
  go_enter Tryd.func3, Tryd.ntmps3
  go_wp2_with fail
  refine (draw_key a0 len0 cap0 _ h0 R0.out).mono ?_
  rintro e w1 ⟨⟨_, rfl, ⟨s, t, f, n, rfl, hs, ht, hf⟩⟩, hb1⟩
  have HB1 := Lib.hid hb1
  clear hb1
  have i1 := fun W hT hp hm => impl_dbkey s t f n W hT hp hm (by unfold maxLen; omega) (by unfold maxLen; omega) (by unfold maxLen; omega)
  have i2 := fun W => spec_dbkey s t f n W (by unfold maxLen; omega) (by unfold maxLen; omega) (by unfold maxLen; omega)
  have i3 := fun W hT hp hm => impl_answer s t f n (kyS s t f n) W hT hp hm (by unfold maxLen; omega) (by unfold maxLen; omega) (by unfold maxLen; omega)
  have hl := ky_len (s := s) (t := t) (f := f) (n := n)
  have han : (kyS s t f n).size = 64 → anB s t f n (kyS s t f n) = true := fun h => by unfold anB; rw [h]; simp
  obtain ⟨K, hK⟩ : ∃ K, kyS s t f n = K := ⟨_, rfl⟩
  rw [hK] at i1 i2 i3 hl han
  have rest : ∀ (w5 : World) (A : Act), Below w.heap.size w w5 → True := fun _ _ _ => trivial
  clear rest hK
  rcases hl with ⟨hl, rfl⟩ | hl
  · clear i3 han hl
    go_wp2_with (first
      | (go_at_call 11; go_fit (i1 _ (HT.out _ HB1.out) (HP.out _ HB1.out) (HM.out _ HB1.out)); rintro e w2 ⟨rfl, hb⟩; have HB2 := Lib.hid (HB1.out.trans (hb.mono HB1.out.size)); clear hb)
      | (go_at_call 12; have _ := HB2; go_fit (i2 _); rintro e w3 ⟨rfl, hb⟩; have HB3 := Lib.hid (HB2.out.trans (hb.mono HB2.out.size)); clear hb)
      | (go_at_call 14; refine (draw_answer a1 len1 cap1 _ h1 (R1.out.lift HB3.out HB3.out.size)).mono ?_; rintro e w5 ⟨⟨_, rfl, ⟨s2, t2, f2, n2, k2, rfl, hs2, ht2, hf2, hk2⟩⟩, hb⟩; have HB5 := Lib.hid (HB3.out.trans (hb.mono HB3.out.size)); clear hb))
    clear i1 i2
    have j1 := fun W hT hp hm => impl_answer s2 t2 f2 n2 k2 W hT hp hm (by unfold maxLen; omega) (by unfold maxLen; omega) (by unfold maxLen; omega)
    have j2 := fun W => spec_dbkey s2 t2 f2 n2 W (by unfold maxLen; omega) (by unfold maxLen; omega) (by unfold maxLen; omega)
    unfold anB at j1
    obtain ⟨Z, hZ⟩ : ∃ Z, kyS s2 t2 f2 n2 = Z := ⟨_, rfl⟩
    rw [hZ] at j1 j2
    clear hZ
    rcases Nat.eq_zero_or_pos k2.size with hk | hk
    · obtain ⟨n2', e2'⟩ := empty_of hk
      rw [decide_eq_false (show ¬ 0 < k2.size by omega), Bool.false_and] at j1
      go_wp2_with (go_at_call 13; go_fit (j1 _ (HT.out _ HB5.out) (HP.out _ HB5.out) (HM.out _ HB5.out)); rintro e w6 ⟨rfl, hb⟩; have HB6 := Lib.hid (HB5.out.trans (hb.mono HB5.out.size)); clear hb)
      go_ret
      exact ⟨rfl, HB6.out⟩
    · have n2' := ne_nil hk
      have e2' := not_empty hk
      rw [decide_eq_true hk, Bool.true_and, BEq.comm] at j1
      obtain ⟨b, hb0⟩ : ∃ b, (Z.toList == k2.toList) = b := ⟨_, rfl⟩
      rw [hb0] at j1
      go_wp2_with (first
        | (go_at_call 13; go_fit (j1 _ (HT.out _ HB5.out) (HP.out _ HB5.out) (HM.out _ HB5.out)); rintro e w6 ⟨rfl, hb⟩; have HB6 := Lib.hid (HB5.out.trans (hb.mono HB5.out.size)); clear hb)
        | (go_at_call 12; have _ := HB6; go_fit (j2 _); rintro e w7 ⟨rfl, hb⟩; have HB7 := Lib.hid (HB6.out.trans (hb.mono HB6.out.size)); clear hb))
      go_ret
      exact ⟨by cases b <;> rfl, HB7.out⟩
  · have hA := han hl
    rw [hA] at i3
    have n1 := ne_nil (s := K) (by omega)
    have e1 := not_empty (s := K) (by omega)
    have hl' : ((K.size : Int) == 64) = true := by rw [hl]; rfl
    clear han hA
    go_wp2_with (first
      | (go_at_call 11; go_fit (i1 _ (HT.out _ HB1.out) (HP.out _ HB1.out) (HM.out _ HB1.out)); rintro e w2 ⟨rfl, hb⟩; have HB2 := Lib.hid (HB1.out.trans (hb.mono HB1.out.size)); clear hb)
      | (go_at_call 12; have _ := HB2; go_fit (i2 _); rintro e w3 ⟨rfl, hb⟩; have HB3a := Lib.hid (HB2.out.trans (hb.mono HB2.out.size)); clear hb)
      | (go_at_call 13; go_fit (i3 _ (HT.out _ HB3a.out) (HP.out _ HB3a.out) (HM.out _ HB3a.out)); rintro e w4 ⟨rfl, hb⟩; have HB3 := Lib.hid (HB3a.out.trans (hb.mono HB3a.out.size)); clear hb)
      | (go_at_call 14; refine (draw_answer a1 len1 cap1 _ h1 (R1.out.lift HB3.out HB3.out.size)).mono ?_; rintro e w5 ⟨⟨_, rfl, ⟨s2, t2, f2, n2, k2, rfl, hs2, ht2, hf2, hk2⟩⟩, hb⟩; have HB5 := Lib.hid (HB3.out.trans (hb.mono HB3.out.size)); clear hb))
    clear i1 i2 i3 n1 e1 hl hl'
    have j1 := fun W hT hp hm => impl_answer s2 t2 f2 n2 k2 W hT hp hm (by unfold maxLen; omega) (by unfold maxLen; omega) (by unfold maxLen; omega)
    have j2 := fun W => spec_dbkey s2 t2 f2 n2 W (by unfold maxLen; omega) (by unfold maxLen; omega) (by unfold maxLen; omega)
    unfold anB at j1
    obtain ⟨Z, hZ⟩ : ∃ Z, kyS s2 t2 f2 n2 = Z := ⟨_, rfl⟩
    rw [hZ] at j1 j2
    clear hZ
    rcases Nat.eq_zero_or_pos k2.size with hk | hk
    · obtain ⟨n2', e2'⟩ := empty_of hk
      rw [decide_eq_false (show ¬ 0 < k2.size by omega), Bool.false_and] at j1
      go_wp2_with (go_at_call 13; go_fit (j1 _ (HT.out _ HB5.out) (HP.out _ HB5.out) (HM.out _ HB5.out)); rintro e w6 ⟨rfl, hb⟩; have HB6 := Lib.hid (HB5.out.trans (hb.mono HB5.out.size)); clear hb)
      go_ret
      exact ⟨rfl, HB6.out⟩
    · have n2' := ne_nil hk
      have e2' := not_empty hk
      rw [decide_eq_true hk, Bool.true_and, BEq.comm] at j1
      obtain ⟨b, hb0⟩ : ∃ b, (Z.toList == k2.toList) = b := ⟨_, rfl⟩
      rw [hb0] at j1
      go_wp2_with (first
        | (go_at_call 13; go_fit (j1 _ (HT.out _ HB5.out) (HP.out _ HB5.out) (HM.out _ HB5.out)); rintro e w6 ⟨rfl, hb⟩; have HB6 := Lib.hid (HB5.out.trans (hb.mono HB5.out.size)); clear hb)
        | (go_at_call 12; have _ := HB6; go_fit (j2 _); rintro e w7 ⟨rfl, hb⟩; have HB7 := Lib.hid (HB6.out.trans (hb.mono HB6.out.size)); clear hb))
      go_ret
      exact ⟨by cases b <;> rfl, HB7.out⟩
end Go.Proofs.YtpbogdfgomfpjaaDoor
