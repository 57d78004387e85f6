/- A sealed string is recovered; with one byte changed it is not; a CRC goes on over concatenated strings. -/
import Derived.Test.YtnejnhfdinmicaaUnsealWalks
namespace Go.Proofs.Ytnejnhfdinmicaa
open Go.RowKit

theorem fourL_inj {n m : Nat} (hn : n < 4294967296) (hm : m < 4294967296) (h : fourL n = fourL m) : n = m := by
  unfold fourL at h
  simp only [List.cons.injEq, and_true] at h
  obtain ⟨h1, h2, h3, h4⟩ := h
  have e : ∀ a b : Nat, a < 256 → b < 256 → UInt8.ofNat a = UInt8.ofNat b → a = b := by
    intro a b ha hb h
    have := congrArg UInt8.toNat h
    simp at this
    omega
  have k1 := e _ _ (by omega) (by omega) h1
  have k2 := e _ _ (by omega) (by omega) h2
  have k3 := e _ _ (by omega) (by omega) h3
  have k4 := e _ _ (by omega) (by omega) h4
  omega
theorem data_inj {a b : ByteArray} (h : a.data.toList = b.data.toList) : a = b := WideShapes.bytes_inj h
theorem extract_list (s : ByteArray) (a b : Nat) : (s.extract a b).data.toList = (s.data.toList.take b).drop a := by simp [List.drop_take]
theorem front_of {L : List UInt8} {m : Nat} (hm : L.length = m + 4) : frontOf (strOf L) = strOf (L.take m) := by
  apply data_inj
  unfold frontOf
  rw [extract_list, strOf_data, strOf_size, strOf_data, hm]
  simp
theorem back_of {L : List UInt8} {m : Nat} (hm : L.length = m + 4) : backOf (strOf L) = strOf (L.drop m) := by
  apply data_inj
  unfold backOf
  rw [extract_list, strOf_data, strOf_size, strOf_data, hm]
  rw [List.take_of_length_le (by omega)]
  simp
theorem strOf_inj {l m : List UInt8} (h : strOf l = strOf m) : l = m := by
  have := congrArg (fun s : ByteArray => s.data.toList) h
  simpa [strOf_data] using this
theorem unseal_at {L : List UInt8} {m : Nat} (hm : L.length = m + 4) (hle : m ≤ 19996) :
    unsealV (strOf L) = if L.drop m = crcL (strOf (L.take m)) then textOut (strOf (L.take m)) 0 0 else textOut ⟨#[]⟩ 0 5 := by
  unfold unsealV
  rw [if_neg (by rw [strOf_size]; omega), if_neg (by rw [strOf_size]; omega), back_of hm, front_of hm]
  by_cases h : L.drop m = crcL (strOf (L.take m))
  · rw [if_pos h, if_pos (by rw [h])]
  · rw [if_neg h, if_neg (fun e => h (strOf_inj e))]
theorem seal_len {s : ByteArray} (h : ¬ 19996 < s.size) : (sealL s).length = s.size + 4 := by
  rw [sealL_small h, List.length_append, size_data, crcL_len]
theorem unseal_good {s : ByteArray} (h : ¬ 19996 < s.size) : unsealV (strOf (sealL s)) = textOut s 0 0 := by
  rw [unseal_at (seal_len h) (by omega), sealL_small h]
  have e1 : (s.data.toList ++ crcL s).take s.size = s.data.toList := by rw [← size_data s]; simp
  have e2 : (s.data.toList ++ crcL s).drop s.size = crcL s := by rw [← size_data s]; simp
  rw [e1, e2, strOf_toList, if_pos rfl]
theorem unseal_changed {s : ByteArray} (h : ¬ 19996 < s.size) {k : Nat} (hk : k < (sealL s).length) {y : UInt8} (hy : y ≠ (sealL s)[k]) : unsealV (strOf ((sealL s).set k y)) = textOut ⟨#[]⟩ 0 5 := by
  have hlen := seal_len h
  rw [unseal_at (m := s.size) (by rw [List.length_set]; exact hlen) (by omega), if_neg]
  intro hc
  have hS := sealL_small h
  by_cases hks : k < s.size
  · have e1 : ((sealL s).set k y).drop s.size = crcL s := by
      rw [List.drop_set_of_lt hks, hS, ← size_data s]
      simp
    have e2 : ((sealL s).set k y).take s.size = s.data.toList.set k y := by
      rw [List.take_set, hS, ← size_data s]
      simp
    rw [e1, e2] at hc
    unfold crcL at hc
    rw [strOf_data] at hc
    have hcr := fourL_inj (crcOf_lt (by omega) _) (crcOf_lt (by omega) _) hc
    have hkl : k < s.data.toList.length := by rw [size_data]; exact hks
    have hne : y ≠ s.data.toList[k] := by
      intro e
      apply hy
      rw [e]
      simp only [hS]
      rw [List.getElem_append_left hkl]
    rw [List.set_eq_take_append_cons_drop, if_pos hkl] at hcr
    have e3 : s.data.toList = s.data.toList.take k ++ s.data.toList[k] :: s.data.toList.drop (k + 1) := by
      rw [← List.drop_eq_getElem_cons hkl, List.take_append_drop]
    exact crcOf_changed (c := 0) (by omega) (s.data.toList.take k) (s.data.toList.drop (k + 1)) (fun e => hne e.symm) (by rw [← e3]; exact hcr)
  · have e2 : ((sealL s).set k y).take s.size = s.data.toList := by
      rw [List.take_set_of_le (by omega), hS, ← size_data s]
      simp
    rw [e2, strOf_toList] at hc
    have hc2 : ((sealL s).set k y)[k]? = (sealL s)[k]? := by
      have e4 : (((sealL s).set k y).drop s.size)[k - s.size]? = ((sealL s).drop s.size)[k - s.size]? := by
        rw [hc, hS, ← size_data s]
        simp
      rw [List.getElem?_drop, List.getElem?_drop, show s.size + (k - s.size) = k by omega] at e4
      exact e4
    rw [List.getElem?_set_self hk, List.getElem?_eq_getElem hk] at hc2
    exact hy (Option.some.inj hc2)

theorem crc_goes_on {t u : ByteArray} (h : t.size + u.size ≤ 20000) : crcMoreZ (crcMoreZ 0 t) u = crcMoreZ 0 (t ++ u) := by
  have e0 : crcMoreZ 0 t = ((crcOf 0 t.data.toList : Nat) : Int) := crcMoreZ_in (c := 0) (by omega) (by omega)
  have e1 : crcMoreZ 0 (t ++ u) = ((crcOf 0 (t ++ u).data.toList : Nat) : Int) := crcMoreZ_in (c := 0) (by omega) (by rw [ByteArray.size_append]; omega)
  rw [e0, e1, crcMoreZ_in (crcOf_lt (by omega) _) (by omega), crcOf_append]
  rw [show (t ++ u).data.toList = t.data.toList ++ u.data.toList by simp [ByteArray.data_append]]
theorem xor8_ne {a x : Nat} (ha : a < 256) (hx : x < 256) (h0 : 0 < x) : a ^^^ x < 256 ∧ a ^^^ x ≠ a := by
  refine ⟨Nat.xor_lt_two_pow (n := 8) ha hx, fun h => ?_⟩
  have h2 := congrArg (a ^^^ ·) h
  simp [← Nat.xor_assoc] at h2
  omega
end Go.Proofs.Ytnejnhfdinmicaa
