/- A string with one byte of it spoilt. -/
import Derived.Test.YtpbogdfgomfpjaaDoorPickDraws
namespace Go.Proofs.YtpbogdfgomfpjaaDoor
set_option linter.unusedSimpArgs false
set_option linter.unusedVariables false
open Go.RowKit

def spoilS : ByteArray := ⟨#[32, 10, 48, 97, 45, 110, 44, 58, 93, 255, 40, 120, 126, 49, 128, 225, 59]⟩
theorem str_one (w : World) (x : Int) (b : UInt8) (hx : x = (b.toNat : Int)) : (convert 22 9 (.slice (some ⟨w.heap.size, 0, none⟩) 1 1)).run Tryd.prog (w.alloc (.cells #[.int .u8 x] 5)) = .ok (.string (strOf [b])) (w.alloc (.cells #[.int .u8 x] 5)) := by
  subst hx
  exact run_string_arr (P := Tryd.prog) _ 22 9 5 w.heap.size 5 1 1 [byteV b] [b] (Arr.fresh w _ [byteV b]) rfl rfl Tryd.underlying22 Tryd.underlying5 Tryd.underlying9
theorem Src.drewN {w : World} {B g : Nat} (h : Src w B g) (n : Nat) : Src (w.drewN n) B g := by
  obtain ⟨hBg, a, len, cap, at_, mix, size, hA, h1, h2, h3, h4, h5, h6, h7, hrow⟩ := h
  exact ⟨hBg, a, len, cap, at_, mix, size, hA, h1, h2, h3, h4, h5, h6, h7, hrow⟩
set_option maxRecDepth 100000 in
set_option maxHeartbeats 2000000 in
theorem src_spoilM (B g M : Nat) (s : ByteArray) (w : World) (hs : s.size ≤ M) (hM : M ≤ 100000) (hS : Src w B g) :
    Calls Tryd.prog 51 #[.pointer (some ⟨g, 0, none⟩), .string s] w (Drew B g w (StrIn (M + 10))) := by
  have HS := Lib.hid hS
  clear hS
  go_enter Tryd.func51, Tryd.ntmps51
  go_wp2_with fail
  refine (src_n B g ((s.size : Int) + 1) _ (by omega) HS.out).mono ?_
  rintro e w1 ⟨_, rfl, ⟨r, rfl, h0, h1⟩, hS1, hg1⟩
  obtain ⟨K, rfl⟩ : ∃ K : Nat, r = K := ⟨r.toNat, by omega⟩
  have hK : K ≤ s.size := by omega
  clear h0 h1 HS
  go_wp2_with fail
  refine (src_n B g 17 _ (by omega) hS1).mono ?_
  rintro e w2 ⟨_, rfl, ⟨r, rfl, h0, h1⟩, hS2, hg2⟩
  obtain ⟨R, rfl⟩ : ∃ R : Nat, r = R := ⟨r.toNat, by omega⟩
  have hR : R < 17 := by omega
  clear h0 h1 hS1
  have G2 := grown_same hg1 hg2
  clear hg1 hg2
  have hRs : R < (⟨#[32, 10, 48, 97, 45, 110, 44, 58, 93, 255, 40, 120, 126, 49, 128, 225, 59]⟩ : ByteArray).size := hR
  have hcv := str_one w2 (((⟨#[32, 10, 48, 97, 45, 110, 44, 58, 93, 255, 40, 120, 126, 49, 128, 225, 59]⟩ : ByteArray)[R]'hRs).toNat : Int) ((⟨#[32, 10, 48, 97, 45, 110, 44, 58, 93, 255, 40, 120, 126, 49, 128, 225, 59]⟩ : ByteArray)[R]'hRs) rfl
  obtain ⟨c, hc⟩ : ∃ c, c = strOf [(⟨#[32, 10, 48, 97, 45, 110, 44, 58, 93, 255, 40, 120, 126, 49, 128, 225, 59]⟩ : ByteArray)[R]'hRs] := ⟨_, rfl⟩
  rw [← hc] at hcv
  have hcs : c.size = 1 := by rw [hc, strOf_size]; rfl
  clear hc
  have hS3 := hS2.alloc (.cells #[.int .u8 (((⟨#[32, 10, 48, 97, 45, 110, 44, 58, 93, 255, 40, 120, 126, 49, 128, 225, 59]⟩ : ByteArray)[R]'hRs).toNat : Int)] 5)
  have G3 := grown_alloc G2 (.cells #[.int .u8 (((⟨#[32, 10, 48, 97, 45, 110, 44, 58, 93, 255, 40, 120, 126, 49, 128, 225, 59]⟩ : ByteArray)[R]'hRs).toNat : Int)] 5)
  clear hS2 G2
  have HS3 := Lib.hid hS3
  have HG3 := Lib.hid G3
  clear hS3 G3
  have x1 : (s.extract 0 K).size = K := by rw [ByteArray.size_extract]; omega
  have x2 : (s.extract K s.size).size = s.size - K := by rw [ByteArray.size_extract]; omega
  by_cases hKs : K = s.size
  · subst hKs
    go_wp2
    go_quiet (fail)
    go_wp2
    go_ret
    exact ⟨_, rfl, ⟨_, rfl, by simp only [ByteArray.size_append]; omega⟩, HS3.out.drewN _, grown_drewN HG3.out _⟩
  · have hlt : K < s.size := by omega
    have hlt' : (K : Int) < (s.size : Int) := by omega
    have x3 : (s.extract (K + 1) s.size).size = s.size - (K + 1) := by rw [ByteArray.size_extract]; omega
    have hKz : (K : Int) + 1 ≤ (s.size : Int) := by omega
    go_wp2_with fail
    refine (src_one B g 3 _ (by omega) HS3.out).mono ?_
    rintro e w4 ⟨_, rfl, ⟨q, rfl⟩, hS4, hg4⟩
    have HS4 := Lib.hid hS4
    have HG4 := Lib.hid (grown_same HG3.out hg4)
    clear hS4 hg4 hcv HS3 HG3
    cases q
    · go_wp2_with fail
      refine (src_one B g 2 _ (by omega) HS4.out).mono ?_
      rintro e w5 ⟨_, rfl, ⟨q, rfl⟩, hS5, hg5⟩
      have HS5 := Lib.hid hS5
      have HG5 := Lib.hid (grown_same HG4.out hg5)
      clear hS5 hg5 HS4 HG4
      cases q
      · go_wp2
        go_quiet (fail)
        go_wp2
        go_ret
        exact ⟨_, rfl, ⟨_, rfl, by simp only [ByteArray.size_append]; omega⟩, HS5.out.drewN _, grown_drewN HG5.out _⟩
      · go_wp2
        go_quiet (fail)
        go_wp2
        go_ret
        exact ⟨_, rfl, ⟨_, rfl, by simp only [ByteArray.size_append]; omega⟩, HS5.out.drewN _, grown_drewN HG5.out _⟩
    · go_wp2
      go_quiet (fail)
      go_wp2
      go_ret
      exact ⟨_, rfl, ⟨_, rfl, by simp only [ByteArray.size_append]; omega⟩, HS4.out.drewN _, grown_drewN HG4.out _⟩

theorem src_spoil (B g : Nat) (s : ByteArray) (w : World) (hs : s.size ≤ 1000) (hS : Src w B g) :
    Calls Tryd.prog 51 #[.pointer (some ⟨g, 0, none⟩), .string s] w (Drew B g w (StrIn 1010)) := src_spoilM B g 1000 s w hs (by omega) hS
end Go.Proofs.YtpbogdfgomfpjaaDoor
