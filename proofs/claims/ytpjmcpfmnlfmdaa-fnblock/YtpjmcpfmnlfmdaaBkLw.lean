/- laws.lwBlocks; a text taken out of a valid list. -/
import Derived.Test.YtpjmcpfmnlfmdaaBkIns
import Derived.Test.YtpjmcpfmnlfmdaaBkOutL
import Derived.Test.YtpjmcpfmnlfmdaaSeLw
import Derived.Test.YtpjmcpfmnlfmdaaBkIter
namespace Go.Proofs.Ytpjmcpfmnlfmdaa
set_option linter.unusedSimpArgs false
set_option linter.unusedVariables false
open Go.RowKit Go.Joins

def outT (j : ByteArray) (xs : List ByteArray) : List ByteArray := xs.take (posT j xs) ++ xs.drop (posT j xs + 1)
theorem outT_lo {j : ByteArray} {xs : List ByteArray} {i : Nat} (h : i < posT j xs) (h1 : i < (outT j xs).length) (h2 : i < xs.length) : (outT j xs)[i] = xs[i] := by
  refine get_of ?_ h1
  unfold outT
  rw [List.getElem?_append_left (by rw [List.length_take]; omega), List.getElem?_take, if_pos h, List.getElem?_eq_getElem h2]
theorem outT_hi {j : ByteArray} {xs : List ByteArray} {i : Nat} (h : posT j xs ≤ i) (h1 : i < (outT j xs).length) (h2 : i + 1 < xs.length) : (outT j xs)[i] = xs[i + 1] := by
  refine get_of ?_ h1
  have hl : (xs.take (posT j xs)).length = posT j xs := by rw [List.length_take]; omega
  unfold outT
  rw [List.getElem?_append_right (by omega), hl, List.getElem?_drop, show posT j xs + 1 + (i - posT j xs) = i + 1 by omega]
  exact List.getElem?_eq_getElem h2
theorem outT_right {j : ByteArray} {xs : List ByteArray} (hk : bkB xs = true) (hh : hereT j xs = true) : bkB (outT j xs) = true := by
  obtain ⟨q1, q2, q3⟩ := bkB_iff.1 hk
  have hp := hereT_lt hh
  have hlen : (outT j xs).length = xs.length - 1 := by
    unfold outT
    rw [List.length_append, List.length_take, List.length_drop]
    omega
  refine bkB_true ⟨by omega, fun i hi h0 _ h' => ?_, fun i hi _ => ?_⟩
  · rcases Nat.lt_trichotomy i (posT j xs) with h | h | h
    · rw [outT_lo (by omega) h' (by omega), outT_lo h hi (by omega)]
      exact q2 i (by omega) h0 (by omega) (by omega)
    · rw [outT_lo (by omega) h' (by omega), outT_hi (by omega) hi (by omega)]
      exact incT_all q2 (i + 1) (i - 1) (by omega) (by omega)
    · rw [outT_hi (by omega) h' (by omega), outT_hi (by omega) hi (by omega)]
      exact incT_all q2 (i + 1) (i - 1 + 1) (by omega) (by omega)
  · rcases Nat.lt_or_ge i (posT j xs) with h | h
    · rw [outT_lo h hi (by omega)]
      exact q3 i (by omega) (by omega)
    · rw [outT_hi h hi (by omega)]
      exact q3 (i + 1) (by omega) (by omega)
theorem del_ok {j : ByteArray} {xs : List ByteArray} (h : (delR xs j).c = 0) : bkB (delR xs j).l = true := by
  unfold delR illB at h ⊢
  by_cases h1 : 400 < xs.length ∨ 20000 < j.size
  · rw [if_pos h1] at h; cases h
  rw [if_neg h1] at h ⊢
  by_cases h2 : bkB xs = false
  · rw [if_pos h2] at h; cases h
  rw [if_neg h2] at h ⊢
  by_cases h3 : hereT j xs = false
  · rw [if_pos h3] at h; cases h
  rw [if_neg h3]
  exact outT_right (by simpa using h2) (by simpa using h3)
/-- What was added is blocked. -/
theorem add_blk {j : ByteArray} {xs : List ByteArray} (h : (addR xs j).c = 0) : bkB (addR xs j).l = true ∧ addrB j = true ∧ j ∈ (addR xs j).l ∧ delR (addR xs j).l j = ⟨xs, 0⟩ := by
  obtain ⟨h1, h2, h3, h4, h5⟩ := add_del h
  rw [h1]
  refine ⟨h4, h3, ?_, h5⟩
  unfold insT
  exact List.mem_append.2 (.inl (List.mem_append.2 (.inr (List.mem_singleton.2 rfl))))
theorem match_self {l d r : ByteArray} (h : jidB l d r = true) : matchJ l d r l d r = true := by
  unfold matchJ
  rw [h]
  simp
set_option maxRecDepth 100000 in
set_option maxHeartbeats 1000000 in
theorem lw_blocks (R : BoL) (p q : Option Addr) (k l : Nat) (w : World) (hn : R.l.length ≤ 1048576) (hz : ∀ x ∈ R.l, x.size ≤ 2000000) (hok : R.c = 0 → bkB R.l = true) (hp : RowC strC 1 w p R.l) (hq : RowC strC 1 w q R.l) :
    Calls Try.prog 13 #[boV R p k, boV R q l] w fun e w' => e = .returned (.bool true) ∧ Below w.heap.size w w' := by
  have i1 := fun W hp hq => lw_texts R.l p q k l W (by omega) hp hq
  have i2 := fun W h => spec_bkright R.l p k W hn hz h
  have HK := Lib.hid (fun w1 (h : Below ((w.alloc (.cells (boC R p k).toArray 27)).alloc (.cells (boC R q l).toArray 27)).heap.size ((w.alloc (.cells (boC R p k).toArray 27)).alloc (.cells (boC R q l).toArray 27)) w1) => twoX h)
  have HP := Lib.hid (hp.on (((Below.refl _ _).alloc (Nat.le_refl _) (.cells (boC R p k).toArray 27)).alloc (by simp) (.cells (boC R q l).toArray 27)))
  have HQ := Lib.hid (hq.on (((Below.refl _ _).alloc (Nat.le_refl _) (.cells (boC R p k).toArray 27)).alloc (by simp) (.cells (boC R q l).toArray 27)))
  have HP0 := Lib.hid (fun W (h : Below w.heap.size w W) => hp.on h)
  clear hp hq
  unfold boV
  by_cases hc : R.c = 0
  · have hb := hok hc
    rw [hb] at i2
    have q1 : (R.c == 0) = true := by rw [hc]; rfl
    have q2 : (R.c != 0) = false := by rw [hc]; rfl
    have HC := Lib.hid hc
    clear hc hok hb
    go_enter Try.func13, Try.ntmps13
    go_wp2_with (first
      | (go_at_call 20; have _ := HB1; go_fit (i2 _ (HP0.out _ HB1.out)); rintro e w2 ⟨rfl, hb2⟩; have HB2 := Lib.hid (HB1.out.trans (hb2.mono HB1.out.size)); clear hb2)
      | (go_at_call 21; go_fit (i1 _ HP.out HQ.out); rintro e w1 ⟨rfl, hb1⟩; obtain ⟨hA, hB, hb⟩ := HK.out _ hb1; have HB1 := Lib.hid hb; obtain ⟨⟨c0, c1⟩, _⟩ := arrX_two hA; obtain ⟨⟨d0, d1⟩, _⟩ := arrX_two hB; clear hA hB hb1 hb))
    go_ret
    exact ⟨rfl, HB2.out⟩
  · have q1 : (R.c != 0) = true := by simpa using hc
    go_enter Try.func13, Try.ntmps13
    go_wp2_with (go_at_call 21; go_fit (i1 _ HP.out HQ.out); rintro e w1 ⟨rfl, hb1⟩; obtain ⟨hA, hB, hb⟩ := HK.out _ hb1; have HB1 := Lib.hid hb; obtain ⟨⟨c0, c1⟩, _⟩ := arrX_two hA; obtain ⟨⟨d0, d1⟩, _⟩ := arrX_two hB; clear hA hB hb1 hb)
    go_ret
    exact ⟨rfl, HB1.out⟩
end Go.Proofs.Ytpjmcpfmnlfmdaa
