/- The small tests of a stanza's fields, the program's and the specification's. -/
import Derived.Test.YtpjmcpfmnlfmdaaStHand
import Derived.Lib.OthersKept
import Derived.Laws.RangeAny
namespace Go.Proofs.Ytpjmcpfmnlfmdaa
set_option linter.unusedSimpArgs false
set_option linter.unusedVariables false
open Go.RowKit

def kPres : ByteArray := ⟨#[112, 114, 101, 115, 101, 110, 99, 101]⟩
def kMess : ByteArray := ⟨#[109, 101, 115, 115, 97, 103, 101]⟩
def kIq : ByteArray := ⟨#[105, 113]⟩
def kDb : ByteArray := ⟨#[100, 98]⟩
/-- A kind. -/
def kindB (k : ByteArray) : Bool := (k.toList == kPres.toList) || (k.toList == kMess.toList) || (k.toList == kIq.toList) || (k.toList == kDb.toList)
def timeB (n : Int) : Bool := decide (0 ≤ n ∧ n ≤ 1000000000)
def printC (c : Nat) : Bool := decide (32 ≤ c ∧ c ≤ 126)

theorem impl_kind (k : ByteArray) (w : World) : Calls Try.prog 88 #[.string k] w (SaysB (kindB k) w) := by
  unfold kindB
  obtain ⟨b1, h1⟩ : ∃ b, (k.toList == kPres.toList) = b := ⟨_, rfl⟩
  obtain ⟨b2, h2⟩ : ∃ b, (k.toList == kMess.toList) = b := ⟨_, rfl⟩
  obtain ⟨b3, h3⟩ : ∃ b, (k.toList == kIq.toList) = b := ⟨_, rfl⟩
  obtain ⟨b4, h4⟩ : ∃ b, (k.toList == kDb.toList) = b := ⟨_, rfl⟩
  rw [h1, h2, h3, h4]
  unfold kPres at h1
  unfold kMess at h2
  unfold kIq at h3
  unfold kDb at h4
  cases b1
  · cases b2
    · cases b3
      · go_enter Try.func88, Try.ntmps88
        go_wp2
        all_goals (go_ret; exact ⟨ret_bool (by simp_all), rfl⟩)
      · go_enter Try.func88, Try.ntmps88
        go_wp2
        all_goals (go_ret; exact ⟨ret_bool (by simp_all), rfl⟩)
    · go_enter Try.func88, Try.ntmps88
      go_wp2
      all_goals (go_ret; exact ⟨ret_bool (by simp_all), rfl⟩)
  · go_enter Try.func88, Try.ntmps88
    go_wp2
    all_goals (go_ret; exact ⟨ret_bool (by simp_all), rfl⟩)
theorem impl_time (n : Int) (w : World) : Calls Try.prog 90 #[.int .i64 n] w (SaysB (timeB n) w) := by
  go_enter Try.func90, Try.ntmps90
  go_wp2
  all_goals (go_ret; refine ⟨ret_bool ?_, rfl⟩; unfold timeB; simp; try omega)
theorem spec_is (n : Int) (w : World) : Calls Try.prog 67 #[.int .i64 n, .int .i64 0, .int .i64 1000000000] w (SaysB (timeB n) w) := by
  go_enter Try.func67, Try.ntmps67
  go_wp2
  all_goals (go_ret; refine ⟨ret_bool ?_, rfl⟩; unfold timeB; simp; try omega)

set_option maxRecDepth 100000 in
set_option maxHeartbeats 1000000 in
theorem spec_body (s : ByteArray) (w : World) (hs : s.size ≤ maxLen) : Calls Try.prog 68 #[.string s] w (SaysB (allC printC s && decide (s.size ≤ 400)) w) := by
  unfold maxLen at hs
  go_enter Try.func68, Try.ntmps68
  go_wp2
  go_loop [3] (fun i => ∃ k : Nat, k ≤ s.size ∧ i = .int .i64 k ∧ Upto printC s k) (fun i => s.size - (intOf i).toNat)
  case atStart => exact ⟨0, Nat.zero_le _, rfl, upto_zero _ _⟩
  case round =>
    obtain ⟨k, hk, rfl, hup⟩ := hrel
    by_cases hlt : k < s.size
    · have hc := byte_le s[k]
      obtain ⟨b, hb⟩ : ∃ b, printC s[k].toNat = b := ⟨_, rfl⟩
      cases b
      · have h1 : (s[k].toNat : Int) < 32 ∨ 126 < (s[k].toNat : Int) := by unfold printC at hb; simp at hb; omega
        have HB := Lib.hid (all_no hlt hb)
        go_wp2
        all_goals (go_ret; refine ⟨ret_bool ?_, rfl⟩; rw [HB.out]; rfl)
      · have h1 : 32 ≤ (s[k].toNat : Int) ∧ (s[k].toNat : Int) ≤ 126 := by unfold printC at hb; simp at hb; omega
        go_wp2
        exact ⟨⟨k + 1, hlt, rfl, upto_succ hup hlt hb⟩, by simp [intOf]; omega⟩
    · have HB := Lib.hid (upto_all hup hlt)
      go_wp2
      go_ret
      refine ⟨ret_bool ?_, rfl⟩
      rw [HB.out]
      simp
      try omega

set_option maxRecDepth 100000 in
set_option maxHeartbeats 1000000 in
theorem impl_printable (s : ByteArray) (w : World) (hs : s.size ≤ maxLen) : Calls Try.prog 91 #[.string s] w fun e w' => e = .returned (.bool (allC printC s)) ∧ Below w.heap.size w w' := by
  unfold maxLen at hs
  go_enter Try.func91, Try.ntmps91
  go_wp2
  go_loopw [] (fun wr => ∃ pos : Nat, pos ≤ s.size ∧ wr = w.iter s pos ∧ Upto printC s pos) (fun wr => s.size - wr.iterPos w.heap.size)
  case atStart => exact ⟨0, Nat.zero_le _, rfl, upto_zero _ _⟩
  case round =>
    obtain ⟨pos, hk, rfl, hup⟩ := hrel
    have hB : ∀ p, Below w.heap.size w (w.iter s p) := fun p => (Below.refl _ _).alloc (Nat.le_refl _) _
    by_cases hlt : pos < s.size
    · obtain ⟨b, hb⟩ : ∃ b, printC s[pos].toNat = b := ⟨_, rfl⟩
      by_cases ha : s[pos].toNat < 128
      · have hnx := fun ty => run_next_ascii (P := Try.prog) w s pos ty hlt ha
        have hc := byte_le s[pos]
        cases b
        · have h1 : (s[pos].toNat : Int) < 32 ∨ 126 < (s[pos].toNat : Int) := by unfold printC at hb; simp at hb; omega
          have HB := Lib.hid (all_no hlt hb)
          go_wp2
          all_goals (go_ret; refine ⟨ret_bool ?_, hB _⟩; rw [HB.out])
        · have h1 : 32 ≤ (s[pos].toNat : Int) ∧ (s[pos].toNat : Int) ≤ 126 := by unfold printC at hb; simp at hb; omega
          go_wp2
          go_roundw
          case rel => exact ⟨pos + 1, hlt, rfl, upto_succ hup hlt hb⟩
          case measure => simp; omega
      · have hnx := fun ty => run_next_any (P := Try.prog) w s pos ty hlt
        have hd := (decode_high s pos hlt (by omega)).1
        have hl := decode_le s pos
        have h1 : 126 < ((Utf8.decode s pos).1 : Int) := by omega
        have h2 : ¬ ((Utf8.decode s pos).1 : Int) < 32 := by omega
        have HB := Lib.hid (all_no hlt (show printC s[pos].toNat = false by unfold printC; simp; omega))
        go_wp2
        all_goals (go_ret; refine ⟨ret_bool ?_, hB _⟩; rw [HB.out])
    · have hnx := fun ty => run_next_end (P := Try.prog) w s pos ty hlt
      have HB := Lib.hid (upto_all hup hlt)
      go_wp2
      go_ret
      refine ⟨ret_bool ?_, hB _⟩
      rw [HB.out]

theorem spec_kinds (w : World) : Calls Try.prog 64 #[] w fun e w' => e = .returned (.slice (some ⟨w.heap.size, 0, none⟩) 4 4) ∧ w' = w.alloc (.cells #[.string kPres, .string kMess, .string kIq, .string kDb] 9) := by
  go_enter Try.func64, Try.ntmps64
  go_wp2
  go_ret
  exact ⟨rfl, rfl⟩

set_option maxRecDepth 100000 in
set_option maxHeartbeats 1000000 in
theorem spec_in (b c : Nat) (ks : List ByteArray) (k : ByteArray) (w : World) (hlen : ks.length ≤ 1000) (hc : ∀ j (h : j < ks.length), w.cell? ⟨b, j, none⟩ = some (.string ks[j])) :
    Calls Try.prog 50 #[.slice (some ⟨b, 0, none⟩) ks.length c, .string k] w (SaysB (ks.any fun x => x.toList == k.toList) w) := by
  have HC := Lib.hid hc
  clear hc
  go_enter Try.func50, Try.ntmps50
  go_wp2
  go_loop [5] (fun i => ∃ j : Nat, j ≤ ks.length ∧ i = .int .i64 j ∧ ∀ m (h : m < ks.length), m < j → (ks[m].toList == k.toList) = false) (fun i => ks.length - (intOf i).toNat)
  case atStart => exact ⟨0, Nat.zero_le _, rfl, fun _ _ h => absurd h (Nat.not_lt_zero _)⟩
  case round =>
    obtain ⟨j, hj, rfl, hno⟩ := hrel
    have HN := Lib.hid hno
    clear hno
    by_cases hlt : j < ks.length
    · have hcell := HC.out j hlt
      obtain ⟨x, hx⟩ : ∃ x, x = ks[j] := ⟨_, rfl⟩
      rw [← hx] at hcell
      obtain ⟨b1, h1⟩ : ∃ b, (x.toList == k.toList) = b := ⟨_, rfl⟩
      have HX := Lib.hid hx
      clear hx
      cases b1
      · go_wp2
        refine ⟨⟨j + 1, hlt, rfl, fun m hm h => ?_⟩, by simp [intOf]; omega⟩
        by_cases e : m < j
        · exact HN.out m hm e
        · obtain rfl : m = j := by omega
          rw [← HX.out]
          exact h1
      · have HA : Hid ((ks.any fun x => x.toList == k.toList) = true) := Lib.hid (List.any_eq_true.2 ⟨x, by rw [HX.out]; exact List.getElem_mem hlt, h1⟩)
        go_wp2
        go_ret
        exact ⟨ret_bool HA.out.symm, rfl⟩
    · have HA : Hid ((ks.any fun x => x.toList == k.toList) = false) := Lib.hid (by
        rw [List.any_eq_false]
        intro x hx
        obtain ⟨m, hm, rfl⟩ := List.getElem_of_mem hx
        rw [HN.out m hm (by omega)]
        exact Bool.false_ne_true)
      go_wp2
      go_ret
      exact ⟨ret_bool HA.out.symm, rfl⟩
theorem any_kind (k : ByteArray) : ([kPres, kMess, kIq, kDb].any fun x => x.toList == k.toList) = kindB k := by
  have e : ∀ x : ByteArray, (x.toList == k.toList) = (k.toList == x.toList) := fun x => Bool.eq_iff_iff.2 (by rw [beq_iff_eq, beq_iff_eq]; exact eq_comm)
  simp only [List.any_cons, List.any_nil, e, Bool.or_false, kindB, Bool.or_assoc]
/-- isAddress, and l04Address of what is not empty. -/
noncomputable def addrB (t : ByteArray) : Bool := goodR t.data.toList && ((jidT (strOf (readL t.data.toList).1) (strOf (readL t.data.toList).2.1) (strOf (readL t.data.toList).2.2)).toList == t.toList)
end Go.Proofs.Ytpjmcpfmnlfmdaa
