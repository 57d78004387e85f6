/- What JidRead answers, the program's and the specification's. -/
import Derived.Test.YtpjmcpfmnlfmdaaJidLow
namespace Go.Proofs.Ytpjmcpfmnlfmdaa
set_option linter.unusedSimpArgs false
set_option linter.unusedVariables false
open Go.RowKit

theorem strOf_back (l : List UInt8) : (⟨l.toArray⟩ : ByteArray) = strOf l := rfl
theorem cut_le (T : List UInt8) (c : UInt8) : (Lib.cut T [c]).1.length ≤ T.length ∧ (Lib.cut T [c]).2.1.length ≤ T.length := by
  rcases cut_form T c with ⟨A, R, rfl, h⟩ | h
  · rw [cut_app h]; simp; omega
  · rw [cut_not h]; simp
/-- An address out of three lists of bytes. -/
def jidP (p : List UInt8 × List UInt8 × List UInt8) : Value := .agg #[.string (strOf p.1), .string (strOf p.2.1), .string (strOf p.2.2)]

set_option maxRecDepth 100000 in
set_option maxHeartbeats 4000000 in
theorem impl_parts (s : ByteArray) (w : World) (hs : s.size ≤ 2000000) (hm : MaxL w) :
    Calls Try.prog 82 #[.string s] w fun e w' => e = .returned (jidP (partsL s.data.toList)) ∧ Below w.heap.size w w' := by
  have hlen : s.data.toList.length = s.size := size_data s
  have hcut := fun W m => Try.strings_Cut s ⟨#[47]⟩ m W (by omega)
  rw [show (⟨#[47]⟩ : ByteArray).data.toList = [47] from rfl] at hcut
  obtain ⟨T, hT⟩ : ∃ T, T = s.data.toList := ⟨_, rfl⟩
  rw [← hT] at hlen hcut ⊢
  clear hT
  have hle := cut_le T 47
  obtain ⟨a, r, f, h1⟩ : ∃ a r f, Lib.cut T [47] = (a, r, f) := ⟨_, _, _, rfl⟩
  have hle2 := cut_le a 64
  have hcut2 := fun W m => Try.strings_Cut (strOf a) ⟨#[64]⟩ m W (by rw [h1] at hle; rw [strOf_size]; have := hle.1; dsimp only at this; omega)
  rw [show (⟨#[64]⟩ : ByteArray).data.toList = [64] from rfl, strOf_data] at hcut2
  obtain ⟨b, d, q, h2⟩ : ∃ b d q, Lib.cut a [64] = (b, d, q) := ⟨_, _, _, rfl⟩
  unfold partsL
  rw [h1] at hle hcut ⊢
  dsimp only at hle hcut ⊢
  rw [h2] at hle2 hcut2 ⊢
  dsimp only at hle2 hcut2 ⊢
  simp only [strOf_back] at hcut hcut2
  clear h1 h2
  obtain ⟨m, hm0⟩ := hm
  have hm1 : ∀ o, (w.alloc o).cell? ⟨0, 0, none⟩ = some (.int .i64 m) := fun o => (World.cell?_alloc_lt w o ⟨0, 0, none⟩ (lt_of_cellJ hm0)).trans hm0
  have k1 := fun o => hcut (w.alloc o) m (hm1 o)
  have k2 := fun o n => hcut2 ((w.alloc o).drewN n) m (hm1 o)
  clear hcut hcut2 hm0 hm1
  have ha : (strOf a).size ≤ 2000000 := by rw [strOf_size]; omega
  have hbb : (strOf b).size ≤ 2000000 := by rw [strOf_size]; omega
  have hdd : (strOf d).size ≤ 2000000 := by rw [strOf_size]; omega
  have hrr : (strOf r).size ≤ 2000000 := by rw [strOf_size]; omega
  cases q
  · rw [if_neg Bool.false_ne_true]
    have hx : (⟨#[]⟩ : ByteArray).size ≤ 2000000 := by decide
    have hy := ha
    have hz := hrr
    go_enter Try.func82, Try.ntmps82
    go_wp2_with (first
      | (go_at_call 98; go_fit (k1 _); rintro e w2 ⟨rfl, nd, rfl⟩)
      | (go_at_call 98; go_fit (k2 _ _); rintro e w2 ⟨rfl, nd2, rfl⟩))
    obtain ⟨W1, hW1⟩ : ∃ W1, W1 = ((w.alloc (.cells #[.string ⟨#[]⟩, .string ⟨#[]⟩, .string ⟨#[]⟩] 69)).drewN (nd + nd2)) := ⟨_, rfl⟩
    have hsz : W1.heap.size = w.heap.size + 1 := by rw [hW1]; exact World.size_alloc ..
    have hR : Arr W1 w.heap.size 69 [.string ⟨#[]⟩, .string ⟨#[]⟩, .string ⟨#[]⟩] := by rw [hW1]; exact Arr.fresh w _ _
    have hb : Below (w.alloc (.cells #[.string ⟨#[]⟩, .string ⟨#[]⟩, .string ⟨#[]⟩] 69)).heap.size (w.alloc (.cells #[.string ⟨#[]⟩, .string ⟨#[]⟩, .string ⟨#[]⟩] 69)) W1 := by rw [hW1]; exact below_drewN (Below.refl _ _) _
    have hj : Calls Try.prog 48 #[.slice (some ⟨w.heap.size + 1, 0, none⟩) 1 1] (W1.alloc (.cells #[.string ⟨#[]⟩] 9)) fun e w' => e = .returned (.string ⟨#[]⟩) ∧ Below (W1.alloc (.cells #[.string ⟨#[]⟩] 9)).heap.size (W1.alloc (.cells #[.string ⟨#[]⟩] 9)) w' :=
      joined_at _ ⟨#[]⟩ _ hx (by rw [← hsz]; exact one_at W1 _ _)
    rw [hW1] at hj
    refine hj.mono ?_
    rw [← hW1]
    clear hj hW1 k1 k2
    rintro e w3 ⟨rfl, hb3⟩
    replace hb := hb.trans ((below_one hb3).mono hb.size)
    replace hR := arr_below hR (below_one hb3)
    have HR := Lib.hid hR
    clear hR hb3
    go_wp2_with (first
      | (go_at_call 48; go_fit (joined_at _ (strOf a) _ hy (one_at w3 _ _)); rintro e w4 ⟨rfl, hb4⟩; replace hb := hb.trans ((below_one hb4).mono hb.size); have hR4 := arr_below HR.out (below_one hb4); have HR4 := Lib.hid hR4; clear hR4 hb4)
      | (go_at_call 48; go_fit (joined_at _ (strOf r) _ hz (one_at w4 _ _)); rintro e w5 ⟨rfl, hb5⟩; replace hb := hb.trans ((below_one hb5).mono hb.size); have hR5 := arr_below HR4.out (below_one hb5); have hz5 := arr_lt hR5; obtain ⟨c0, c1, c2, f0, f1, f2⟩ := arr_three hR5; clear hR5 hb5))
    exact bodyPost_ret (v := .agg #[.string ⟨#[]⟩, .string (strOf a), .string (strOf r)]) (by simp [results, Try.results82, go_sem, c0, c1, c2, hz5]) rfl ⟨rfl, below_three (below_one hb) (Nat.le_refl _) _ _ _⟩
  · rw [if_pos rfl]
    have hx := hbb
    have hy := hdd
    have hz := hrr
    go_enter Try.func82, Try.ntmps82
    go_wp2_with (first
      | (go_at_call 98; go_fit (k1 _); rintro e w2 ⟨rfl, nd, rfl⟩)
      | (go_at_call 98; go_fit (k2 _ _); rintro e w2 ⟨rfl, nd2, rfl⟩))
    obtain ⟨W1, hW1⟩ : ∃ W1, W1 = ((w.alloc (.cells #[.string ⟨#[]⟩, .string ⟨#[]⟩, .string ⟨#[]⟩] 69)).drewN (nd + nd2)) := ⟨_, rfl⟩
    have hsz : W1.heap.size = w.heap.size + 1 := by rw [hW1]; exact World.size_alloc ..
    have hR : Arr W1 w.heap.size 69 [.string ⟨#[]⟩, .string ⟨#[]⟩, .string ⟨#[]⟩] := by rw [hW1]; exact Arr.fresh w _ _
    have hb : Below (w.alloc (.cells #[.string ⟨#[]⟩, .string ⟨#[]⟩, .string ⟨#[]⟩] 69)).heap.size (w.alloc (.cells #[.string ⟨#[]⟩, .string ⟨#[]⟩, .string ⟨#[]⟩] 69)) W1 := by rw [hW1]; exact below_drewN (Below.refl _ _) _
    have hj : Calls Try.prog 48 #[.slice (some ⟨w.heap.size + 1, 0, none⟩) 1 1] (W1.alloc (.cells #[.string (strOf b)] 9)) fun e w' => e = .returned (.string (strOf b)) ∧ Below (W1.alloc (.cells #[.string (strOf b)] 9)).heap.size (W1.alloc (.cells #[.string (strOf b)] 9)) w' :=
      joined_at _ (strOf b) _ hx (by rw [← hsz]; exact one_at W1 _ _)
    rw [hW1] at hj
    refine hj.mono ?_
    rw [← hW1]
    clear hj hW1 k1 k2
    rintro e w3 ⟨rfl, hb3⟩
    replace hb := hb.trans ((below_one hb3).mono hb.size)
    replace hR := arr_below hR (below_one hb3)
    have HR := Lib.hid hR
    clear hR hb3
    go_wp2_with (first
      | (go_at_call 48; go_fit (joined_at _ (strOf d) _ hy (one_at w3 _ _)); rintro e w4 ⟨rfl, hb4⟩; replace hb := hb.trans ((below_one hb4).mono hb.size); have hR4 := arr_below HR.out (below_one hb4); have HR4 := Lib.hid hR4; clear hR4 hb4)
      | (go_at_call 48; go_fit (joined_at _ (strOf r) _ hz (one_at w4 _ _)); rintro e w5 ⟨rfl, hb5⟩; replace hb := hb.trans ((below_one hb5).mono hb.size); have hR5 := arr_below HR4.out (below_one hb5); have hz5 := arr_lt hR5; obtain ⟨c0, c1, c2, f0, f1, f2⟩ := arr_three hR5; clear hR5 hb5))
    exact bodyPost_ret (v := .agg #[.string (strOf b), .string (strOf d), .string (strOf r)]) (by simp [results, Try.results82, go_sem, c0, c1, c2, hz5]) rfl ⟨rfl, below_three (below_one hb) (Nat.le_refl _) _ _ _⟩
end Go.Proofs.Ytpjmcpfmnlfmdaa
