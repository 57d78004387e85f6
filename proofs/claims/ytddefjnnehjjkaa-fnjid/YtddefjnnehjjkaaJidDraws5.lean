/- What DrawJidRead answers: any string of at most 1010 bytes. -/
import Derived.Test.YtddefjnnehjjkaaJidDraws4
namespace Go.Proofs.Ytddefjnnehjjkaa
set_option linter.unusedSimpArgs false
set_option linter.unusedVariables false
open Go.RowKit

theorem list_read : ∀ s ∈ ([⟨#[65, 110, 110, 64, 65, 46, 69, 120, 97, 109, 112, 108, 101, 47, 72, 111, 109, 101]⟩, ⟨#[64, 97]⟩, ⟨#[97, 64]⟩, ⟨#[97, 64, 98, 64, 99]⟩, ⟨#[97, 47]⟩, ⟨#[47, 97]⟩, ⟨#[97, 64, 98, 47, 99, 47, 100]⟩, ⟨#[]⟩, ⟨#[65, 78, 78, 64, 66]⟩] : List ByteArray), s.size ≤ 200 := by decide
set_option maxRecDepth 100000 in
set_option maxHeartbeats 2000000 in
theorem draw_jidread (a : Option Addr) (len cap : Nat) (w : World) (hlen : len ≤ 1048576) (hrow : SrcRow w w.heap.size a len) :
    Calls Try.prog 20 #[.slice a len cap] w fun e w' => (∃ v, e = .returned v ∧ StrIn 1010 v) ∧ Below w.heap.size w w' := by
  have HR := Lib.hid hrow
  clear hrow
  go_enter Try.func20, Try.ntmps20
  go_wp2_with fail
  refine (src_source a len cap _ hlen HR.out).mono ?_
  rintro e w1 ⟨rfl, hS1, hb1⟩
  have hz1 := hS1.lt
  go_wp2_with fail
  refine (src_jid _ _ _ hS1).mono ?_
  rintro e w2 ⟨_, rfl, ⟨l, d, r, rfl, hl, hd, hr⟩, hS2, hg2⟩
  have hb2 := src_below hb1 hg2
  have hz2 := hS2.lt
  clear hS1 hg2 hb1
  go_wp2_with fail
  refine (spec_text l d r _ (by unfold maxLen; omega) (by unfold maxLen; omega) (by unfold maxLen; omega)).mono ?_
  rintro e w3 ⟨rfl, hb3⟩
  have hS3 := hS2.on hb3
  have hb4 := hb2.trans (hb3.mono hb2.size)
  have ht := textS_le hl hd hr
  obtain ⟨t, ht0⟩ : ∃ t, t = jidTextS l d r := ⟨_, rfl⟩
  rw [← ht0] at ht ⊢
  clear hb2 hb3 hS2 ht0 hl hd hr
  have hz3 := hS3.lt
  go_wp2_with fail
  refine (src_one _ _ 3 _ (by omega) hS3).mono ?_
  rintro e w4 ⟨_, rfl, ⟨q, rfl⟩, hS4, hg4⟩
  have hb5 := src_below hb4 hg4
  clear hS3 hg4 hb4
  have hz4 := hS4.lt
  cases q
  · go_wp2_with fail
    refine (src_one _ _ 4 _ (by omega) hS4).mono ?_
    rintro e w5 ⟨_, rfl, ⟨q, rfl⟩, hS5, hg5⟩
    have hb6 := src_below hb5 hg5
    clear hS4 hg5 hb5
    cases q
    · go_wp2
      go_ret
      exact ⟨⟨_, rfl, ⟨t, rfl, by omega⟩⟩, hb6⟩
    · go_wp2_with fail
      refine (src_spoil _ _ t _ (by omega) hS5).mono ?_
      rintro e w6 ⟨_, rfl, ⟨u, rfl, hu⟩, hS6, hg6⟩
      have hb7 := src_below hb6 hg6
      clear hS5 hS6 hg6 hb6
      go_wp2
      go_ret
      exact ⟨⟨_, rfl, ⟨u, rfl, hu⟩⟩, hb7⟩
  · go_wp2_with fail
    refine (src_pick _ _ w4.heap.size 9 200 _ (by omega) (by omega) (hS4.alloc _) (by omega) (strRow_at w4 9 200 _ [⟨#[65, 110, 110, 64, 65, 46, 69, 120, 97, 109, 112, 108, 101, 47, 72, 111, 109, 101]⟩, ⟨#[64, 97]⟩, ⟨#[97, 64]⟩, ⟨#[97, 64, 98, 64, 99]⟩, ⟨#[97, 47]⟩, ⟨#[47, 97]⟩, ⟨#[97, 64, 98, 47, 99, 47, 100]⟩, ⟨#[]⟩, ⟨#[65, 78, 78, 64, 66]⟩] rfl list_read)).mono ?_
    rintro e w5 ⟨_, rfl, ⟨t2, rfl, ht2⟩, hS5, hg5⟩
    have hb6 := src_below (hb5.alloc hb5.size _) hg5
    clear hS4 hg5 hb5
    go_wp2_with fail
    refine (src_one _ _ 4 _ (by omega) hS5).mono ?_
    rintro e w6 ⟨_, rfl, ⟨q, rfl⟩, hS6, hg6⟩
    have hb7 := src_below hb6 hg6
    clear hS5 hg6 hb6
    cases q
    · go_wp2
      go_ret
      exact ⟨⟨_, rfl, ⟨t2, rfl, by omega⟩⟩, hb7⟩
    · go_wp2_with fail
      refine (src_spoil _ _ t2 _ (by omega) hS6).mono ?_
      rintro e w7 ⟨_, rfl, ⟨u, rfl, hu⟩, hS7, hg7⟩
      have hb8 := src_below hb7 hg7
      clear hS6 hS7 hg7 hb7
      go_wp2
      go_ret
      exact ⟨⟨_, rfl, ⟨u, rfl, hu⟩⟩, hb8⟩
end Go.Proofs.Ytddefjnnehjjkaa
