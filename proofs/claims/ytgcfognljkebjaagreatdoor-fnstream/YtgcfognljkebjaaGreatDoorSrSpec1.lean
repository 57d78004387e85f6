/- What spec.l04Num and spec.l04Cut answer. -/
import Derived.Test.YtgcfognljkebjaaGreatDoorStReadW
import Derived.Test.YtgcfognljkebjaaGreatDoorStPlainL
namespace Go.Proofs.YtgcfognljkebjaaGreatDoor
set_option linter.unusedSimpArgs false
set_option linter.unusedVariables false
open Go.RowKit

set_option maxRecDepth 100000 in
theorem spec_cut4 (s : ByteArray) (c : UInt8) (w : World) (hs : s.size ≤ 2000000) :
    Calls Tryz.prog 81 #[.string s, .int .u8 (c.toNat : Int)] w fun e w' => e = .returned (.tuple #[.string (strOf (Lib.cut s.data.toList [c]).1), .string (strOf (Lib.cut s.data.toList [c]).2.1)]) ∧ Below w.heap.size w w' := by
  have i1 := fun w => spec_at s c w (by unfold maxLen; omega)
  rcases cut_form s.data.toList c with ⟨A, R, hT, hA⟩ | hA
  · have hlen := size_data s
    rw [hT, index_app c R A hA] at i1
    have x1 : s.extract 0 A.length = strOf A := WideShapes.bytes_inj (by rw [ext_toList s 0 A.length (by omega) (by rw [hT] at hlen; simp at hlen; omega), hT, strOf_data]; simp)
    have x2 : s.extract (A.length + 1) s.size = strOf R := WideShapes.bytes_inj (by
      rw [ext_toList s (A.length + 1) s.size (by rw [hT] at hlen; simp at hlen; omega) (Nat.le_refl _), ← hlen, List.take_length, hT, strOf_data, show A ++ c :: R = (A ++ [c]) ++ R by simp, show A.length + 1 = (A ++ [c]).length by simp, List.drop_left])
    rw [hT, cut_app hA]
    dsimp only
    rw [hT] at hlen
    simp only [List.length_append, List.length_cons] at hlen
    have hl1 : A.length + 1 ≤ s.size := by omega
    clear hT hA hlen
    obtain ⟨a, ha⟩ : ∃ a, a = A.length := ⟨_, rfl⟩
    obtain ⟨U, hU⟩ : ∃ U, U = strOf A := ⟨_, rfl⟩
    obtain ⟨V, hV⟩ : ∃ V, V = strOf R := ⟨_, rfl⟩
    rw [← ha] at i1 x1 x2 hl1
    rw [← hU] at x1 ⊢
    rw [← hV] at x2 ⊢
    clear ha hU hV
    have hl2 : (a : Int) + 1 ≤ s.size := by omega
    have hl3 : ((a : Int) + 1).toNat = a + 1 := by omega
    go_enter Tryz.func81, Tryz.ntmps81
    go_wp2_with (go_at_call 43; go_fit (i1 _); rintro e w' ⟨rfl, rfl⟩)
    go_quiet (fail)
    go_wp2
    go_ret2
    exact ⟨rfl, below_drewN (Below.refl _ _) _⟩
  · rw [index_not c _ hA] at i1
    rw [cut_not hA]
    dsimp only
    rw [strOf_toList]
    clear hA
    go_enter Tryz.func81, Tryz.ntmps81
    go_wp2_with (go_at_call 43; go_fit (i1 _); rintro e w' ⟨rfl, rfl⟩)
    go_ret2
    exact ⟨rfl, Below.refl _ _⟩
def foldTo (T : List UInt8) (k : Nat) : Int := foldN (T.take k)
theorem foldTo_succ {T : List UInt8} {k : Nat} (h : k < T.length) : foldTo T (k + 1) = 10 * foldTo T k + ((T[k].toNat : Int) - 48) := by
  unfold foldTo
  rw [List.take_succ_eq_append_getElem h, foldN_app]
theorem foldTo_le {T : List UInt8} : ∀ k, k ≤ T.length → (∀ j (h : j < T.length), j < k → digC T[j].toNat = true) → 0 ≤ foldTo T k ∧ foldTo T k < 10 ^ k
  | 0, _, _ => by unfold foldTo foldN; simp
  | k + 1, hk, hd => by
    obtain ⟨h1, h2⟩ := foldTo_le k (by omega) (fun j h hj => hd j h (by omega))
    rw [foldTo_succ (by omega)]
    have := hd k (by omega) (by omega)
    unfold digC at this
    simp only [decide_eq_true_eq] at this
    have e : (10 : Int) ^ (k + 1) = 10 * 10 ^ k := by rw [Int.pow_succ]; omega
    rw [e]
    omega
theorem pow_ten {k : Nat} (h : k ≤ 10) : (10 : Int) ^ k ≤ 10000000000 := by
  have h1 : (10 : Nat) ^ k ≤ 10 ^ 10 := Nat.pow_le_pow_right (by decide) h
  have h2 : ((10 ^ k : Nat) : Int) = (10 : Int) ^ k := by simp
  omega
set_option maxRecDepth 100000 in
set_option maxHeartbeats 1000000 in
theorem spec_num4 (s : ByteArray) (w : World) (hs : s.size ≤ 2000000) :
    Calls Tryz.prog 82 #[.string s] w fun e w' => e = .returned (.int .i64 (numL s.data.toList)) ∧ w = w' := by
  have hlen := size_data s
  have hget : ∀ j (h : j < s.size) (h' : j < s.data.toList.length), s.data.toList[j] = s[j] := fun j h h' => rfl
  unfold numL
  by_cases h10 : 10 < s.size
  · rw [if_neg (by omega)]
    clear hget hlen
    go_enter Tryz.func82, Tryz.ntmps82
    go_wp2
    go_ret
    exact ⟨rfl, rfl⟩
  · obtain ⟨v, hv⟩ : ∃ v, (if s.data.toList.length ≤ 10 ∧ s.data.toList.all (fun c => digC c.toNat) = true then foldN s.data.toList else 0) = v := ⟨_, rfl⟩
    rw [hv]
    have HV := Lib.hid hv
    have HL := Lib.hid hlen
    have HG := Lib.hid hget
    clear hv hlen hget
    go_enter Tryz.func82, Tryz.ntmps82
    go_wp2
    go_loop [3, 4] (fun n i => ∃ k : Nat, k ≤ s.size ∧ i = .int .i64 (k : Int) ∧ n = .int .i64 (foldTo s.data.toList k) ∧ ∀ j (h : j < s.data.toList.length), j < k → digC s.data.toList[j].toNat = true) (fun _ i => s.size - (intOf i).toNat)
    case atStart => exact ⟨0, Nat.zero_le _, rfl, rfl, fun j _ h => absurd h (Nat.not_lt_zero _)⟩
    case round =>
      obtain ⟨k, hk, rfl, rfl, hno⟩ := hrel
      have HN := Lib.hid hno
      clear hno
      by_cases hlt : k < s.size
      · have hb2 := byte_le s[k]
        by_cases hd : 48 ≤ s[k].toNat ∧ s[k].toNat ≤ 57
        · have HD : Hid (∀ j (h : j < s.data.toList.length), j < k + 1 → digC s.data.toList[j].toNat = true) := Lib.hid (by
            intro j h hj
            by_cases e : j = k
            · subst e
              rw [HG.out j hlt h]
              unfold digC
              simpa using hd
            · exact HN.out j h (by omega))
          have hF := foldTo_le k (by rw [HL.out]; omega) HN.out
          have hp := pow_ten (show k ≤ 10 by omega)
          have HS : Hid (foldTo s.data.toList (k + 1) = 10 * foldTo s.data.toList k + ((s[k].toNat : Int) - 48)) := Lib.hid (by rw [foldTo_succ (by rw [HL.out]; omega), HG.out k hlt (by rw [HL.out]; omega)])
          obtain ⟨q, hq⟩ : ∃ q, foldTo s.data.toList k = q := ⟨_, rfl⟩
          rw [hq] at hF HS ⊢
          have q1 : 0 ≤ q := hF.1
          have q2 : q ≤ 10000000000 := by omega
          obtain ⟨d1, d2⟩ := hd
          have d3 : (48 : Int) ≤ (s[k].toNat : Int) := by omega
          have d4 : (s[k].toNat : Int) ≤ 57 := by omega
          clear hF hp hq
          go_wp2
          go_round
          case rel => exact ⟨k + 1, by omega, by go_num, by rw [HS.out], HD.out⟩
          case measure => simp [intOf]; omega
        · have HZ : Hid (v = 0) := Lib.hid (by
            rw [← HV.out, if_neg]
            rintro ⟨_, h⟩
            rw [List.all_eq_true] at h
            have := h (s.data.toList[k]'(by rw [HL.out]; omega)) (List.getElem_mem _)
            rw [HG.out k hlt (by rw [HL.out]; omega)] at this
            unfold digC at this
            simp at this
            omega)
          have hd' : (s[k].toNat : Int) < 48 ∨ 57 < (s[k].toNat : Int) := by omega
          rcases hd' with hd' | hd' <;>
            (go_wp2
             go_ret
             exact ⟨ret_int HZ.out.symm, rfl⟩)
      · have HZ : Hid (v = foldTo s.data.toList k) := Lib.hid (by
          rw [← HV.out]
          have : k = s.data.toList.length := by rw [HL.out]; omega
          rw [if_pos]
          · unfold foldTo
            rw [this, List.take_length]
          · refine ⟨by rw [HL.out]; omega, ?_⟩
            rw [List.all_eq_true]
            intro x hx
            obtain ⟨j, hj, rfl⟩ := List.getElem_of_mem hx
            exact HN.out j hj (by omega))
        go_wp2
        go_ret
        exact ⟨ret_int HZ.out.symm, rfl⟩
end Go.Proofs.YtgcfognljkebjaaGreatDoor
