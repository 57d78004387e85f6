/- Letters in lower case, and the place of a byte: impl.lowered, spec.l03Lower, spec.l03At. -/
import Derived.Test.YtpjmcpfmnlfmdaaJidCells
import Derived.Test.YtpjmcpfmnlfmdaaJidReadMath
import Derived.Test.YtpjmcpfmnlfmdaaOwnBytes
namespace Go.Proofs.Ytpjmcpfmnlfmdaa
set_option linter.unusedSimpArgs false
set_option linter.unusedVariables false
open Go.RowKit

/-- Block g holds the bytes l, and may be written. -/
def BAt (w : World) (g cap : Nat) (l : List UInt8) : Prop := l.length ≤ cap ∧ g < w.heap.size ∧ (∀ j (h : j < l.length), w.cell? ⟨g, j, none⟩ = some (byteV l[j])) ∧
  ∀ j, j < cap → (w.cell? ⟨g, j, none⟩).isSome = true ∧ w.frozen? ⟨g, j, none⟩ = false
theorem BAt.put {w : World} {g cap : Nat} {l : List UInt8} (h : BAt w g cap l) {i : Nat} (hi : i < l.length) (b : UInt8) : BAt (w.setCell ⟨g, i, none⟩ (byteV b)) g cap (l.set i b) := by
  obtain ⟨h1, h2, h3, h4⟩ := h
  have hc : ∀ j, j < cap → (w.setCell ⟨g, i, none⟩ (byteV b)).cell? ⟨g, j, none⟩ = if j = i then some (byteV b) else w.cell? ⟨g, j, none⟩ := by
    intro j hj
    by_cases e : j = i
    · subst e
      rw [if_pos rfl]
      exact World.cell?_setCell_same w ⟨g, j, none⟩ _ (h3 j hi)
    · rw [if_neg e]
      exact World.cell?_setCell_other w ⟨g, i, none⟩ ⟨g, j, none⟩ _ (fun h => by simp at h <;> exact e h)
  refine ⟨by simpa using h1, by simpa [World.setCell] using h2, fun j hj => ?_, fun j hj => ⟨?_, ?_⟩⟩
  · have hj' : j < l.length := by simpa using hj
    rw [hc j (by omega)]
    by_cases e : j = i
    · subst e
      rw [if_pos rfl]
      simp
    · rw [if_neg e, h3 j hj', List.getElem_set_ne (Ne.symm e)]
  · rw [hc j hj]
    split
    · rfl
    · exact (h4 j hj).1
  · rw [World.frozen?_setCell]
    exact (h4 j hj).2
theorem BAt.str {w : World} {g cap : Nat} {l : List UInt8} (h : BAt w g cap l) : (convert 22 9 (.slice (some ⟨g, 0, none⟩) l.length cap)).run Try.prog w = .ok (.string (strOf l)) w :=
  run_convert_bytes_back w 22 9 5 ⟨g, 0, none⟩ cap l Try.underlying22 Try.underlying5 Try.underlying9 (fun j hj => by
    rw [show (⟨g, 0, none⟩ : Addr).add j = ⟨g, j, none⟩ by unfold Addr.add; split <;> simp_all]
    exact h.2.2.1 j hj)
/-- The first k bytes in lower case. -/
def lowTo (k : Nat) (T : List UInt8) : List UInt8 := (T.take k).map lowC ++ T.drop k
theorem lowTo_len (k : Nat) (T : List UInt8) : (lowTo k T).length = T.length := by
  unfold lowTo
  simp
  omega
theorem lowTo_zero (T : List UInt8) : lowTo 0 T = T := by simp [lowTo]
theorem lowTo_all (T : List UInt8) : lowTo T.length T = T.map lowC := by simp [lowTo]
theorem lowTo_at (k : Nat) (T : List UInt8) (h : k < T.length) : (lowTo k T)[k]'(by rw [lowTo_len]; exact h) = T[k] := by
  unfold lowTo
  rw [List.getElem_append_right (by simp; omega)]
  simp [Nat.min_eq_left (Nat.le_of_lt h)]
theorem lowTo_succ (k : Nat) (T : List UInt8) (h : k < T.length) : lowTo (k + 1) T = (lowTo k T).set k (lowC T[k]) := by
  unfold lowTo
  rw [List.take_succ_eq_append_getElem h, List.map_append, List.append_assoc]
  rw [List.set_append_right _ _ (by simp; omega)]
  have e : k - ((T.take k).map lowC).length = 0 := by simp; omega
  rw [e, List.drop_eq_getElem_cons h, List.set_cons_zero]
  simp only [List.map_cons, List.map_nil, List.cons_append, List.nil_append]
theorem lowTo_same (k : Nat) (T : List UInt8) (h : k < T.length) (hc : lowC T[k] = T[k]) : lowTo (k + 1) T = lowTo k T := by
  rw [lowTo_succ k T h, hc]
  conv => lhs; arg 3; rw [← lowTo_at k T h]
  exact List.set_getElem_self _
theorem lowC_up {c : UInt8} (h1 : 65 ≤ (c.toNat : Int)) (h2 : (c.toNat : Int) ≤ 90) : Value.int .u8 ((c.toNat : Int) + 32) = byteV (lowC c) := by
  unfold lowC
  rw [if_pos (by omega)]
  exact byteV_ofNat (by omega) (by omega)
theorem lowC_no {c : UInt8} (h : (c.toNat : Int) < 65 ∨ 90 < (c.toNat : Int)) : lowC c = c := by
  unfold lowC
  rw [if_neg (by omega)]

set_option maxRecDepth 100000 in
set_option maxHeartbeats 4000000 in
theorem spec_lower (s : ByteArray) (w : World) (hs : s.size ≤ 2000000) :
    Calls Try.prog 108 #[.string s] w fun e w' => e = .returned (.string (strOf (s.data.toList.map lowC))) ∧ Below w.heap.size w w' := by
  have hlen : s.data.toList.length = s.size := size_data s
  obtain ⟨T, hT⟩ : ∃ T, T = s.data.toList := ⟨_, rfl⟩
  rw [← hT] at hlen ⊢
  have HT := Lib.hid hT
  clear hT
  obtain ⟨n, hn⟩ : ∃ n, n = s.size := ⟨_, rfl⟩
  rw [← hn] at hlen hs
  clear hn
  subst hlen
  go_enter Try.func108, Try.ntmps108
  go_wp2_with (first | (refine wpList_bytes _ rfl _ rfl s rfl ?_; intro v0 w1 ho1 hb1; rw [← HT.out] at ho1; obtain ⟨g, cap, rfl, hgB, hg, hl, hc, ht⟩ := ho1; have HB := Lib.hid hb1; have HA : Hid (BAt w1 g cap T) := Lib.hid ⟨hl, hg, hc, ht⟩; clear hb1 hc ht))
  have HG := Lib.hid hgB
  go_loopw [4] (fun i wr => ∃ k : Nat, k ≤ T.length ∧ i = .int .i64 (k : Int) ∧ BAt wr g cap (lowTo k T) ∧ Below w.heap.size w wr) (fun i _ => T.length - (intOf i).toNat)
  case atStart => exact ⟨0, Nat.zero_le _, rfl, by rw [lowTo_zero]; exact HA.out, HB.out⟩
  case round =>
    obtain ⟨k, hk, rfl, hA, hbel⟩ := hrel
    have HA := Lib.hid hA
    have HBel := Lib.hid hbel
    by_cases hlt : k < T.length
    · have hcell : wr.cell? ⟨g, k, none⟩ = some (.int .u8 (T[k].toNat : Int)) := by
        have h := hA.2.2.1 k (by rw [lowTo_len]; exact hlt)
        rw [lowTo_at k T hlt] at h
        exact h
      have hfz : wr.frozen? ⟨g, k, none⟩ = false := (hA.2.2.2 k (by have := hA.1; rw [lowTo_len] at this; omega)).2
      clear hA hbel
      have hb0 : 0 ≤ (T[k].toNat : Int) := by omega
      have hb1 : (T[k].toNat : Int) ≤ 255 := by have := byte_le T[k]; omega
      by_cases h1 : 65 ≤ (T[k].toNat : Int)
      · by_cases h2 : (T[k].toNat : Int) ≤ 90
        · go_wp2
          go_roundw
          case rel => exact ⟨k + 1, by omega, by go_num, by rw [lowTo_succ k T hlt, lowC_up h1 h2]; exact HA.out.put (by rw [lowTo_len]; exact hlt) _, HBel.out.setCell HG.out _⟩
          case measure => simp [intOf]; omega
        · go_wp2
          go_roundw
          case rel => exact ⟨k + 1, by omega, by go_num, by rw [lowTo_same k T hlt (lowC_no (by omega))]; exact HA.out, HBel.out⟩
          case measure => simp [intOf]; omega
      · go_wp2
        go_roundw
        case rel => exact ⟨k + 1, by omega, by go_num, by rw [lowTo_same k T hlt (lowC_no (by omega))]; exact HA.out, HBel.out⟩
        case measure => simp [intOf]; omega
    · obtain rfl : k = T.length := by omega
      have hcv := hA.str
      rw [lowTo_len, lowTo_all] at hcv
      clear hA hbel
      go_wp2
      go_ret
      exact ⟨rfl, HBel.out⟩

theorem lowL_to (T : List UInt8) : lowL T = lowTo (Lib.cut T [47]).1.length T ∧ (Lib.cut T [47]).1.length ≤ T.length := by
  unfold lowL lowTo
  rcases cut_form T 47 with ⟨A, R, rfl, h⟩ | h
  · rw [cut_app h]
    simp
  · rw [cut_not h]
    simp
theorem lowC_up2 {c : UInt8} (h1 : 65 ≤ (c.toNat : Int)) (h2 : (c.toNat : Int) ≤ 90) : Value.int .u8 ((c.toNat : Int) - 65 + 97) = byteV (lowC c) := by
  rw [← lowC_up h1 h2, show (c.toNat : Int) - 65 + 97 = (c.toNat : Int) + 32 by omega]

set_option maxRecDepth 100000 in
set_option maxHeartbeats 4000000 in
theorem impl_lowered (s : ByteArray) (w : World) (hs : s.size ≤ 2000000) (hm : MaxL w) :
    Calls Try.prog 81 #[.string s] w fun e w' => e = .returned (.string (strOf (lowL s.data.toList))) ∧ Below w.heap.size w w' := by
  have hlen : s.data.toList.length = s.size := size_data s
  have hcut := fun W m => Try.strings_Cut s ⟨#[47]⟩ m W (by omega)
  rw [show (⟨#[47]⟩ : ByteArray).data.toList = [47] from rfl] at hcut
  obtain ⟨T, hT⟩ : ∃ T, T = s.data.toList := ⟨_, rfl⟩
  rw [← hT] at hlen hcut ⊢
  have HT := Lib.hid hT
  clear hT
  obtain ⟨hlow, hle⟩ := lowL_to T
  obtain ⟨c1, c2, c3, hc⟩ : ∃ c1 c2 c3, Lib.cut T [47] = (c1, c2, c3) := ⟨_, _, _, rfl⟩
  rw [hc] at hlow hle hcut
  dsimp only at hlow hle hcut
  rw [hlow]
  clear hlow hc
  have hsz : (⟨c1.toArray⟩ : ByteArray).size = c1.length := by simp [ByteArray.size]
  obtain ⟨n, hn⟩ : ∃ n, n = s.size := ⟨_, rfl⟩
  rw [← hn] at hlen hs
  clear hn
  subst hlen
  have HM := Lib.hid hm
  clear hm
  go_enter Try.func81, Try.ntmps81
  go_wp2_with (first
    | (refine wpList_bytes _ rfl _ rfl s rfl ?_; intro v0 w1 ho1 hb1; rw [← HT.out] at ho1; obtain ⟨g, cap, rfl, hgB, hg, hl, hc, ht⟩ := ho1; have HB := Lib.hid hb1; have HA : Hid (BAt w1 g cap T) := Lib.hid ⟨hl, hg, hc, ht⟩; obtain ⟨m, hm⟩ := HM.out.below hb1 HM.out.pos; have hct := hcut w1 m hm; clear hb1 hc ht hcut)
    | (go_at_call 98; go_fit hct; rintro e w2 ⟨rfl, nd, rfl⟩))
  obtain ⟨W1, hW1⟩ : ∃ W1, W1 = w1.drewN nd := ⟨_, rfl⟩
  have HA1 : Hid (BAt W1 g cap T) := Lib.hid (by rw [hW1]; exact HA.out)
  have HB1 : Hid (Below w.heap.size w W1) := Lib.hid (by rw [hW1]; exact below_drewN HB.out nd)
  have HG := Lib.hid hgB
  rw [← hW1]
  clear hW1 HA HB hm hct hgB hg
  go_loopw [19] (fun i wr => ∃ k : Nat, k ≤ c1.length ∧ i = .int .i64 (k : Int) ∧ BAt wr g cap (lowTo k T) ∧ Below w.heap.size w wr) (fun i _ => c1.length - (intOf i).toNat)
  case atStart => exact ⟨0, Nat.zero_le _, rfl, by rw [lowTo_zero]; exact HA1.out, HB1.out⟩
  case round =>
    obtain ⟨k, hk, rfl, hA, hbel⟩ := hrel
    have HA := Lib.hid hA
    have HBel := Lib.hid hbel
    by_cases hlt1 : k < c1.length
    · have hlt : k < T.length := by omega
      have hcell : wr.cell? ⟨g, k, none⟩ = some (.int .u8 (T[k].toNat : Int)) := by
        have h := hA.2.2.1 k (by rw [lowTo_len]; exact hlt)
        rw [lowTo_at k T hlt] at h
        exact h
      have hfz : wr.frozen? ⟨g, k, none⟩ = false := (hA.2.2.2 k (by have := hA.1; rw [lowTo_len] at this; omega)).2
      clear hA hbel
      have hb0 : 0 ≤ (T[k].toNat : Int) := by omega
      have hb1 : (T[k].toNat : Int) ≤ 255 := by have := byte_le T[k]; omega
      by_cases h1 : 65 ≤ (T[k].toNat : Int)
      · by_cases h2 : (T[k].toNat : Int) ≤ 90
        · have hz : (T[k].toNat : Int) - 65 + 97 = (T[k].toNat : Int) + 32 := by omega
          go_wp2
          go_roundw
          case rel => exact ⟨k + 1, by omega, by go_num, by (first | rw [lowTo_succ k T hlt, lowC_up h1 h2] | rw [lowTo_succ k T hlt, lowC_up2 h1 h2]); exact HA.out.put (by rw [lowTo_len]; exact hlt) _, HBel.out.setCell HG.out _⟩
          case measure => simp [intOf]; omega
        · go_wp2
          go_roundw
          case rel => exact ⟨k + 1, by omega, by go_num, by rw [lowTo_same k T hlt (lowC_no (by omega))]; exact HA.out, HBel.out⟩
          case measure => simp [intOf]; omega
      · go_wp2
        go_roundw
        case rel => exact ⟨k + 1, by omega, by go_num, by rw [lowTo_same k T hlt (lowC_no (by omega))]; exact HA.out, HBel.out⟩
        case measure => simp [intOf]; omega
    · obtain rfl : k = c1.length := by omega
      have hcv := hA.str
      rw [lowTo_len] at hcv
      clear hA hbel
      go_wp2
      go_ret
      exact ⟨rfl, HBel.out⟩
set_option maxHeartbeats 1000000 in
theorem spec_at (s : ByteArray) (c : UInt8) (w : World) (hs : s.size ≤ maxLen) :
    Calls Try.prog 107 #[.string s, .int .u8 (c.toNat : Int)] w fun e w' => e = .returned (.int .i64 (Lib.index s.data.toList [c])) ∧ w = w' := by
  unfold maxLen at hs
  have hlen : s.data.toList.length = s.size := size_data s
  have hget : ∀ j (h : j < s.size), s.data.toList[j]? = some s[j] := fun j h => Lib.data_getElem? s j h
  have hocc : ∀ j (h : j < s.size), Lib.occAt s.data.toList [c] j = (c == s[j]) := by
    intro j h
    unfold Lib.occAt
    rw [List.drop_eq_getElem_cons (by omega), Array.getElem_toList]
    simp [List.isPrefixOf]
    rfl
  obtain ⟨v, hv⟩ : ∃ v, Lib.index s.data.toList [c] = v := ⟨_, rfl⟩
  rw [hv]
  have HV := Lib.hid hv
  have HO := Lib.hid hocc
  have HL := Lib.hid hlen
  clear hv hocc hget hlen
  go_enter Try.func107, Try.ntmps107
  go_wp2
  go_loop [5] (fun i => ∃ k : Nat, k ≤ s.size ∧ i = .int .i64 (k : Int) ∧ ∀ j, j < k → Lib.occAt s.data.toList [c] j = false) (fun i => s.size - (intOf i).toNat)
  case atStart => exact ⟨0, Nat.zero_le _, rfl, fun j h => absurd h (Nat.not_lt_zero _)⟩
  case round =>
    obtain ⟨k, hk, rfl, hno⟩ := hrel
    have HN := Lib.hid hno
    clear hno
    by_cases hlt : k < s.size
    · by_cases he : (s[k].toNat : Int) = (c.toNat : Int)
      · have HE : Hid (Lib.occAt s.data.toList [c] k = true) := Lib.hid (by
          rw [HO.out k hlt, beq_iff_eq]
          exact UInt8.toNat_inj.1 (by omega))
        go_wp2
        go_ret
        exact ⟨ret_int (by rw [← HV.out]; exact (Lib.index_first (by rw [HL.out]; omega) HE.out HN.out).symm), rfl⟩
      · have HE : Hid (Lib.occAt s.data.toList [c] k = false) := Lib.hid (by
          rw [HO.out k hlt, beq_eq_false_iff_ne]
          intro e
          rw [e] at he
          exact he rfl)
        go_wp2
        go_round
        case rel => exact ⟨k + 1, by omega, by go_num, fun j hj => by
          by_cases e : j = k
          · subst e; exact HE.out
          · exact HN.out j (by omega)⟩
        case measure => simp [intOf]; omega
    · have HI : Hid (v = -1) := Lib.hid (by
        rw [← HV.out]
        refine Lib.index_none fun j hj => ?_
        by_cases h : j < k
        · exact HN.out j h
        · rw [Bool.eq_false_iff]
          intro ho
          rcases Lib.occAt_room ho with h1 | h1
          · rw [HL.out] at h1
            simp at h1
            omega
          · cases h1)
      go_wp2
      go_ret
      exact ⟨ret_int HI.out.symm, rfl⟩
end Go.Proofs.Ytpjmcpfmnlfmdaa
