/- What impl.joined answers: the concatenation of its parts. -/
import Derived.Test.YtpjmcpfmnlfmdaaChecked
import Derived.Test.YtpjmcpfmnlfmdaaMath
import Derived.WalkKit
import Derived.ProofKit
import Derived.OpenShut
import Derived.Lib.Hide
import Derived.Lib.BufferWrite
import Derived.Laws.CopyOwn
namespace Go.Proofs.Ytpjmcpfmnlfmdaa
set_option linter.unusedSimpArgs false
set_option linter.unusedVariables false
open Go.RowKit

/-- The bytes of some strings, one behind the other. -/
def flat (ss : List ByteArray) : List UInt8 := ss.flatMap (·.data.toList)
theorem flat_succ (ss : List ByteArray) (k : Nat) (h : k < ss.length) : flat (ss.take (k + 1)) = flat (ss.take k) ++ ss[k].data.toList := by
  unfold flat
  rw [List.take_succ_eq_append_getElem h, List.flatMap_append]
  simp only [List.flatMap_cons, List.flatMap_nil, List.append_nil]
theorem flat_take_le (ss : List ByteArray) (k : Nat) : (flat (ss.take k)).length ≤ (flat ss).length := by
  have e : flat ss = flat (ss.take k) ++ flat (ss.drop k) := by
    unfold flat
    rw [← List.flatMap_append, List.take_append_drop]
  rw [e]; simp
theorem size_data (s : ByteArray) : s.data.toList.length = s.size := by rw [Array.length_toList]; rfl
theorem info_u8j : (Try.prog.info? 5).map (fun i => (i.zero, i.size, i.bytes)) = some (some (.int .u8 0), 1, 1) := by kernel_rfl
theorem size_u8j : (Try.prog.info? 5).map (·.size) = some 1 := by kernel_rfl

theorem Heads.more {cs : List Value} {l m : List UInt8} (h : Heads cs l) : Heads (cs.take l.length ++ m.map byteV ++ cs.drop (l.length + m.length)) (l ++ m) := by
  unfold Heads at h ⊢
  rw [h, ← List.map_append]
  rw [show (l ++ m).length = ((l ++ m).map byteV).length by simp]
  exact List.take_left

theorem Arr.row {w : World} {b t : Nat} {cs : List Value} (h : Arr w b t cs) (l : List Value) : Arr (w.setRow b l.toArray) b t l := setRow_heap w b _ _ t _ h

/-- copy(buf[at:], s) where s fits. -/
theorem copy_part (w : World) (ty g at_ n : Nat) (cs : List Value) (s : ByteArray) (hA : Arr w g 5 cs) (hn : cs.length = n) (hfit : at_ + s.size ≤ n) :
    (Builtin.copy_ #[22, 9] ty #[.slice (some ⟨g, at_, none⟩) (n - at_) (n - at_), .string s]).run Try.prog w =
      .ok (.int .i64 (s.size : Int)) (w.setRow g (cs.take at_ ++ s.data.toList.map byteV ++ cs.drop (at_ + s.size)).toArray) := by
  have h := Lib.run_copy_row_string (P := Try.prog) w 22 9 ty 5 g at_ (n - at_) (n - at_) s cs.toArray 5 Try.underlying22 size_u8j hA (by omega) (by simpa using by omega)
  have e : Lib.byteCells s.data.toList = s.data.toList.map byteV := rfl
  rw [e] at h
  exact h
theorem copy_none (w : World) (ty : Nat) (d : Option Addr) (l c : Nat) (s : ByteArray) (h0 : s.size = 0) :
    (Builtin.copy_ #[22, 9] ty #[.slice d l c, .string s]).run Try.prog w = .ok (.int .i64 0) w :=
  Lib.run_copy_empty_string (P := Try.prog) w 22 9 ty 5 d l c s Try.underlying22 (by rw [size_u8j]; rfl) h0

set_option maxRecDepth 100000 in
set_option maxHeartbeats 800000 in
theorem impl_joined (b c : Nat) (ss : List ByteArray) (w : World) (hb : b < w.heap.size) (hc : ∀ j (h : j < ss.length), w.cell? ⟨b, j, none⟩ = some (.string ss[j])) (hlen : ss.length ≤ 1000000)
    (htot : (flat ss).length ≤ 1099511627776) :
    Calls Try.prog 48 #[.slice (some ⟨b, 0, none⟩) ss.length c] w fun e w' => e = .returned (.string (strOf (flat ss))) ∧ Below w.heap.size w w' := by
  obtain ⟨i0, hi, hz0, hz1, hz2⟩ := info_parts info_u8j
  have HC := Lib.hid hc
  clear hc
  go_enter Try.func48, Try.ntmps48
  go_wp2
  go_loop [3, 12] (fun s i => ∃ k : Nat, k ≤ ss.length ∧ i = .int .i64 k ∧ s = .int .i64 ((flat (ss.take k)).length : Int)) (fun _ i => ss.length - (intOf i).toNat)
  case atStart => exact ⟨0, Nat.zero_le _, rfl, rfl⟩
  case round =>
    obtain ⟨k, hk, rfl, rfl⟩ := hrel
    by_cases hlt : k < ss.length
    · have hcell := HC.out k hlt
      have hs := flat_succ ss k hlt
      have hle := flat_take_le ss (k + 1)
      have hle2 : (flat (ss.take k)).length + ss[k].size ≤ (flat ss).length := by rw [hs, List.length_append, size_data] at hle; exact hle
      have HS := Lib.hid hs
      clear hs hle
      go_wp2
      go_round
      case rel => exact ⟨k + 1, by omega, by go_num, by rw [HS.out, List.length_append, size_data]; go_num⟩
      case measure => simp [intOf]; omega
    · have hk' : k = ss.length := by omega
      subst hk'
      clear hlt hk
      rw [List.take_length]
      obtain ⟨n, hn⟩ : ∃ n, n = (flat ss).length := ⟨_, rfl⟩
      rw [← hn] at htot ⊢
      have HN := Lib.hid hn
      clear hn
      have hmk : ∀ u : World, (Instr.makeSlice 22 (.int .i64 (n : Int)) (.int .i64 (n : Int))).run Try.prog u =
          .ok (.slice (some ⟨u.heap.size, 0, none⟩) n n) (u.alloc (.cells (madeCells #[.int .u8 0] n) 5)) := fun u => by
        have h := run_make (P := Try.prog) u 22 5 i0 (.int .u8 0) Try.underlying22 hi hz0 .i64 .i64 (n : Int) (n : Int) (by omega) (Int.le_refl _) (by rw [hz2]; omega) (by omega)
        simpa [hz1, Value.cells] using h
      go_wp2
      have hsize : w.heap.size < (w.alloc (.cells (madeCells #[.int .u8 0] n) 5)).heap.size := by simp
      have hA0 : Arr (w.alloc (.cells (madeCells #[.int .u8 0] n) 5)) w.heap.size 5 (madeCells #[.int .u8 0] n).toList := heap_alloc_new w _
      go_loopw [7, 25] (fun s i wr => ∃ (k : Nat) (cs : List Value), k ≤ ss.length ∧ i = .int .i64 k ∧ s = .int .i64 ((flat (ss.take k)).length : Int) ∧ Arr wr w.heap.size 5 cs ∧ cs.length = n ∧ Heads cs (flat (ss.take k)) ∧ Below w.heap.size w wr) (fun _ i _ => ss.length - (intOf i).toNat)
      case atStart => exact ⟨0, _, Nat.zero_le _, rfl, rfl, hA0, by simp [size_madeCells], rfl, (Below.refl _ _).alloc (Nat.le_refl _) _⟩
      case round =>
        clear hA0 hsize hmk
        obtain ⟨k, cs, hk, rfl, rfl, hA, hcs, hH, hbel⟩ := hrel
        by_cases hlt : k < ss.length
        · have hcell := (hbel.cell (p := ⟨b, k, none⟩) hb).trans (HC.out k hlt)
          have hs := flat_succ ss k hlt
          have hle := flat_take_le ss (k + 1)
          rw [hs, List.length_append, size_data, ← HN.out] at hle
          have HS := Lib.hid hs
          have HA := Lib.hid hA
          have HH := Lib.hid hH
          have HCS := Lib.hid hcs
          clear hs hA hH hcs
          obtain ⟨m, hm⟩ : ∃ m, m = (flat (ss.take k)).length := ⟨_, rfl⟩
          rw [← hm] at hle ⊢
          have HM := Lib.hid hm
          clear hm
          by_cases h0 : ss[k].size = 0
          · have hcp := fun ty d l c => copy_none wr ty d l c ss[k] h0
            have H0 := Lib.hid h0
            clear h0
            have HF : Hid (flat (ss.take (k + 1)) = flat (ss.take k)) := Lib.hid (by
              rw [HS.out, List.eq_nil_of_length_eq_zero ((size_data _).trans H0.out), List.append_nil])
            go_wp2
            go_roundw
            case rel => exact ⟨k + 1, cs, by omega, by go_num, by rw [HF.out, ← HM.out], HA.out, HCS.out, by rw [HF.out]; exact HH.out, hbel⟩
            case measure => simp [intOf]; omega
          · have hcp := fun ty => copy_part wr ty w.heap.size m n cs ss[k] HA.out HCS.out (by omega)
            have hmn : m < n := by omega
            go_wp2
            go_roundw
            case rel =>
              have hR := HH.out.more (m := ss[k].data.toList)
              rw [← HS.out, ← HM.out, size_data, List.append_assoc] at hR
              refine ⟨k + 1, _, by omega, by go_num, by rw [HS.out, List.length_append, size_data, ← HM.out]; go_num, Arr.row HA.out _, ?_, hR, below_setRow hbel (Nat.le_refl _) _⟩
              have := HCS.out
              simp [size_data]
              omega
            case measure => simp [intOf]; omega
        · have hk' : k = ss.length := by omega
          subst hk'
          rw [List.take_length] at hH
          have hcv := run_string_arr (P := Try.prog) wr 22 9 5 _ _ n n _ _ hA hH HN.out Try.underlying22 Try.underlying5 Try.underlying9
          clear hA hH hcs
          go_wp2
          go_ret
          exact ⟨rfl, hbel⟩
theorem flat_one (a : ByteArray) : flat [a] = a.data.toList := by simp [flat]
theorem joined_one (a : ByteArray) : strOf (flat [a]) = a := by rw [flat_one]; rfl
theorem one_cells (w : World) (a : ByteArray) (t : Nat) : ∀ j (h : j < [a].length), (w.alloc (.cells #[.string a] t)).cell? ⟨w.heap.size, j, none⟩ = some (.string [a][j]) := by
  intro j h
  rw [(Arr.fresh w t [.string a]).cell]
  match j, h with
  | 0, _ => rfl

end Go.Proofs.Ytpjmcpfmnlfmdaa
