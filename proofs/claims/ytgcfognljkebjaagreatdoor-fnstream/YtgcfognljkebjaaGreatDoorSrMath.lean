/- The sizes of what the readers read; the number that strconv.ParseInt answers. -/
import Derived.Test.YtgcfognljkebjaaGreatDoorStReadW
import Derived.Lib.ParseIntB
import Derived.Lib.SplitLaws
namespace Go.Proofs.YtgcfognljkebjaaGreatDoor
set_option linter.unusedSimpArgs false
set_option linter.unusedVariables false
open Go.Joins

/-- Every part is at most so long. -/
def LeL (x : StL) (m : Nat) : Prop := x.k.length ≤ m ∧ x.t.length ≤ m ∧ x.f.length ≤ m ∧ x.o.length ≤ m ∧ x.b.length ≤ m
theorem withF_le {x : StL} {m : Nat} (h : LeL x m) (N V : List UInt8) (hV : V.length ≤ m) : LeL (withF x N V) m := by
  obtain ⟨h1, h2, h3, h4, h5⟩ := h
  unfold withF
  repeat' split
  all_goals exact ⟨by assumption, by assumption, by assumption, by assumption, by assumption⟩
theorem parts_le : ∀ (f : Nat) (x : StL) (T : List UInt8) (m : Nat), LeL x m → T.length ≤ m → LeL (partsS f x T).1 m ∧ (partsS f x T).2.length ≤ T.length
  | 0, x, T, m, hx, hT => ⟨hx, Nat.le_refl _⟩
  | f + 1, x, [], m, hx, hT => ⟨hx, Nat.le_refl _⟩
  | f + 1, x, c :: T', m, hx, hT => by
    simp only [partsS]
    split
    · have l1 := cut_len T' 61
      cases hc : (Lib.cut T' [61]).2.1 with
      | nil => exact ⟨hx, Nat.le_refl _⟩
      | cons q R =>
        simp only
        rw [hc] at l1
        simp only [List.length_cons] at l1 hT
        have l2 := cut_len R 39
        have l3 := cut_le R 39
        split
        · obtain ⟨a, b⟩ := parts_le f (withF x (Lib.cut T' [61]).1 (Lib.cut R [39]).1) (Lib.cut R [39]).2.1 m (withF_le hx _ _ (by omega)) (by omega)
          exact ⟨a, by simp only [List.length_cons]; omega⟩
        · exact ⟨hx, Nat.le_refl _⟩
    · exact ⟨hx, Nat.le_refl _⟩
theorem kinds_le {k : List UInt8} (h : k ∈ kindsL) : k.length ≤ 10 := by
  unfold kindsL at h
  simp only [List.mem_cons, List.not_mem_nil, or_false] at h
  rcases h with rfl | rfl | rfl | rfl <;> decide
theorem zero_le (m : Nat) : LeL zeroL m := ⟨Nat.zero_le _, Nat.zero_le _, Nat.zero_le _, Nat.zero_le _, Nat.zero_le _⟩
theorem tail_le {k : List UInt8} {x : StL} {r : List UInt8} {m : Nat} (hx : LeL x m) (hk : k.length ≤ m) (hr : r.length ≤ m) : LeL (tailS k x r) m := by
  obtain ⟨h1, h2, h3, h4, h5⟩ := hx
  unfold tailS
  split
  · exact ⟨hk, h2, h3, h4, h5⟩
  · cases r with
    | nil => exact ⟨hk, h2, h3, h4, h5⟩
    | cons c R =>
      simp only
      split
      · refine ⟨hk, h2, h3, h4, ?_⟩
        have l1 := cut_le R 60
        have l2 := body_len (Lib.cut R [60]).1
        simp only [List.length_cons] at hr
        show (bodyS (Lib.cut R [60]).1).length ≤ m
        omega
      · exact ⟨hk, h2, h3, h4, h5⟩
theorem rdS_le (T : List UInt8) {m : Nat} (h : T.length ≤ m) (hm : 10 ≤ m) : LeL (rdS T) m := by
  unfold rdS
  split
  · exact zero_le m
  · rename_i k hk
    have hkm := kinds_le (List.mem_of_find?_eq_some hk)
    have hl : (T.drop (k.length + 1)).length ≤ m := by simp; omega
    obtain ⟨a, b⟩ := parts_le (T.drop (k.length + 1)).length zeroL (T.drop (k.length + 1)) m (zero_le m) hl
    exact tail_le a (by omega) (by omega)
/-! the number -/
def numI (T : List UInt8) : Int := match Lib.parseIntB 64 T with | .ok v => v | .range => Lib.intSat 64 T | .«syntax» => 0
theorem uint_fold : ∀ (T : List UInt8) (acc M : Nat), T.all (fun c => digC c.toNat) = true → (∀ k ≤ T.length, (T.take k).foldl (fun n c => 10 * n + (c.toNat - 48)) acc ≤ M ) → M < 1844674407370955162 →
    Lib.parseUintM 18446744073709551615 acc T = .ok (T.foldl (fun n c => 10 * n + (c.toNat - 48)) acc)
  | [], acc, M, _, _, _ => rfl
  | c :: T, acc, M, hd, hM, hb => by
    rw [List.all_cons, Bool.and_eq_true] at hd
    have h1 := hd.1
    unfold digC at h1
    simp only [decide_eq_true_eq] at h1
    have h0 := hM 0 (Nat.zero_le _)
    have h2 := hM 1 (by simp)
    simp only [List.take_zero, List.foldl_nil] at h0
    simp only [List.take_succ_cons, List.take_zero, List.foldl_cons, List.foldl_nil] at h2
    unfold Lib.parseUintM
    rw [if_pos h1, if_neg (by omega), if_neg (by omega), show acc * 10 + (c.toNat - 48) = 10 * acc + (c.toNat - 48) by omega]
    rw [uint_fold T _ M hd.2 (fun k hk => by have := hM (k + 1) (by simpa using hk); simpa using this) hb]
    rfl
theorem decD_all (m : Nat) : (Lib.decDigits m).all (fun c => digC c.toNat) = true := (dec_fold m).2
theorem foldD_nat (T : List UInt8) (acc : Nat) (h : T.all (fun c => digC c.toNat) = true) : ((T.foldl (fun n c => 10 * n + (c.toNat - 48)) acc : Nat) : Int) = T.foldl (fun (n : Int) c => 10 * n + ((c.toNat : Int) - 48)) (acc : Int) := by
  induction T generalizing acc with
  | nil => rfl
  | cons c T ih =>
    rw [List.all_cons, Bool.and_eq_true] at h
    have h1 := h.1
    unfold digC at h1
    simp only [decide_eq_true_eq] at h1
    simp only [List.foldl_cons]
    rw [ih _ h.2]
    congr 1
    omega
theorem foldD_mono (T : List UInt8) : ∀ (k acc : Nat), (T.take k).foldl (fun n c => 10 * n + (c.toNat - 48)) acc ≤ T.foldl (fun n c => 10 * n + (c.toNat - 48)) acc := by
  induction T with
  | nil => intro k acc; simp
  | cons c T ih =>
    intro k acc
    cases k with
    | zero =>
      simp only [List.take_zero, List.foldl_nil, List.foldl_cons]
      have := ih 0 (10 * acc + (c.toNat - 48))
      simp only [List.take_zero, List.foldl_nil] at this
      omega
    | succ k =>
      simp only [List.take_succ_cons, List.foldl_cons]
      exact ih k _
theorem decD_head (m : Nat) : ∃ c r, Lib.decDigits m = c :: r ∧ digC c.toNat = true := by
  cases h : Lib.decDigits m with
  | nil =>
    exfalso
    rw [Lib.decDigits] at h
    split at h <;> simp at h
  | cons c r =>
    have := decD_all m
    rw [h, List.all_cons, Bool.and_eq_true] at this
    exact ⟨c, r, rfl, this.1⟩
theorem numI_id {n : Int} (h0 : 0 ≤ n) (h1 : n ≤ 1000000000) (hz : n ≠ 0) : numI (idL n) = n := by
  have e : idL n = Lib.decDigits n.toNat := by unfold idL Lib.itoa; rw [if_neg hz, if_neg (by omega)]
  rw [e]
  obtain ⟨c, r, hc, hd⟩ := decD_head n.toNat
  have hf := foldD_nat (Lib.decDigits n.toNat) 0 (decD_all _)
  have hfn := (dec_fold n.toNat).1
  unfold foldN at hfn
  rw [show ((0 : Nat) : Int) = 0 from rfl, hfn] at hf
  have hv : (Lib.decDigits n.toNat).foldl (fun n c => 10 * n + (c.toNat - 48)) 0 = n.toNat := by omega
  have hu := uint_fold (Lib.decDigits n.toNat) 0 n.toNat (decD_all _) (fun k _ => by have := foldD_mono (Lib.decDigits n.toNat) k 0; rw [hv] at this; exact this) (by omega)
  rw [hv] at hu
  unfold digC at hd
  simp only [decide_eq_true_eq] at hd
  have hp : Lib.parseIntB 64 (Lib.decDigits n.toNat) = .ok n := by
    rw [hc] at hu ⊢
    unfold Lib.parseIntB
    simp only
    rw [if_neg (by omega)]
    unfold Lib.parseUintB
    rw [if_neg (by simp), show (2 ^ 64 - 1 : Nat) = 18446744073709551615 from rfl, hu]
    simp only
    rw [if_neg (by have : (2 ^ (64 - 1) : Nat) = 9223372036854775808 := rfl; omega), if_neg (by omega), if_neg (by omega)]
    congr 1
    omega
  unfold numI
  rw [hp]
end Go.Proofs.YtgcfognljkebjaaGreatDoor
