/- Draws of strings: any bytes. -/
import Derived.Test.YtihjgkicmgomcaaDrawBase
namespace Go.Proofs.Ytihjgkicmgomcaa
open Go.RowKit

set_option maxRecDepth 100000 in
set_option maxHeartbeats 2000000 in
theorem src_bytes (B g : Nat) (n : Nat) (w : World) (hn : n ≤ 1000) (hB : B ≤ w.heap.size) (hS : Src w B g) (hg : g < w.heap.size) :
    Calls Try.prog 32 #[.pointer (some ⟨g, 0, none⟩), .int .i64 (n : Int)] w (Drew B g w (StrIn n)) := by
  obtain ⟨i0, hi, hz0, hz1, hz2⟩ := info_parts info_u8d
  have HS := Lib.hid hS
  clear hS
  go_enter Try.func32, Try.ntmps32
  go_wp2
  go_loopw [5, 6] (fun v i wr => ∃ (k : Nat) (acc : List UInt8), i = .int .i64 (k : Int) ∧ k ≤ n ∧ acc.length = k ∧ wr.ownsRow w.heap.size 5 1 v acc.length (acc.map byteV) ∧ Src wr B g ∧ w.grownBy wr (some g)) (fun _ i _ => n - (intOf i).toNat)
  case atStart => exact ⟨0, [], rfl, by omega, rfl, own_empty_d _ _, (HS.out).alloc _, grown_alloc (World.grownBy.refl w _) _⟩
  case round =>
    obtain ⟨k, acc, rfl, hk, hkl, hown, hS, hgr⟩ := hrel
    have HKL := Lib.hid hkl
    clear hkl
    have HSr := Lib.hid hS
    clear hS
    by_cases hlt : k < n
    · go_wp2_with (first
        | (go_at_call 30; refine (src_n B g 256 _ (by omega) HSr.out).mono ?_; rintro e w1 ⟨_, rfl, ⟨r, rfl, h0, h1⟩, hS1, hg1⟩)
        | (at_builtin; refine wpList_append_own _ rfl _ _ 22 rfl w.heap.size 5 i0 (.int .u8 0) 1 1 Try.underlying22 hi hz0 hz1 hz2 rfl (by decide) _ _ _ rfl ((hown.kept hg1 ?c0).alloc _) ⟨w1.heap.size, 0, none⟩ 1 1 [.int .u8 r] rfl rfl ?c1 ?c2 ?c3 ?c4 ?c5 ?_))
      case c0 =>
        have := own_base hown
        by_cases h : u5.ownBlock = none
        · exact .inl h
        · right
          intro e
          have := this g e
          omega
      case c1 => exact one_new _ _ _
      case c2 => exact one_cell _ _
      case c3 => have := HKL.out; unfold maxLen; omega
      case c4 => have := HKL.out; omega
      case c5 => have a1 := hg1.size; have a2 := hgr.size; simp; omega
      intro v' w2 hown' hgrow _
      have hne : ∀ q, u5.ownBlock = some q → q ≠ g := fun q hq e => by have := own_base hown q hq; omega
      have R1 : w2.ownsRow w.heap.size 5 1 v' (acc ++ [UInt8.ofNat r.toNat]).length ((acc ++ [UInt8.ofNat r.toNat]).map byteV) := by
        rw [byteV_ofNat (n := r.toNat) (z := r) (by omega) (by omega)] at hown'
        simpa using hown'
      have R2 : Src w2 B g := (hS1.alloc _).other hgrow hne (by have a1 := hg1.size; have a2 := hgr.size; simp; omega) (fun q hq => by have := own_base hown q hq; omega)
      have R3 : w.grownBy w2 (some g) := grown_over (grown_alloc (grown_same hgr hg1) _) hgrow (own_base hown)
      clear hown' hgrow hown hS1 hg1
      go_wp2
      go_roundw
      case rel => exact ⟨k + 1, acc ++ [UInt8.ofNat r.toNat], by go_num, by omega, by have := HKL.out; simp; omega, R1, R2, R3⟩
      case measure => simp [intOf]; omega
    · have hcv := run_string_own (P := Try.prog) wr 22 9 5 _ _ _ _ hown Try.underlying22 Try.underlying5 Try.underlying9
      clear hown
      go_wp2
      go_ret
      exact ⟨_, rfl, ⟨strOf acc, rfl, by rw [strOf_size]; have := HKL.out; omega⟩, HSr.out, hgr⟩

end Go.Proofs.Ytihjgkicmgomcaa
