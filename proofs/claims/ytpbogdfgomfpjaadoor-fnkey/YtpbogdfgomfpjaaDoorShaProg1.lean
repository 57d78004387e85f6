/- The program's rotations. -/
import Derived.Test.YtpbogdfgomfpjaaDoorChecked
import Derived.Test.YtpbogdfgomfpjaaDoorShaMath
import Derived.Deep.QuietTactic
import Derived.BigQuiet
import Derived.RegionTactic
import Derived.IntWalk
import Derived.Deep.AppendLies
import Derived.Laws.CopyOwn
namespace Go.Proofs.YtpbogdfgomfpjaaDoor
open Go.RowKit

theorem rot_by {k j : Nat} (h : k + j = 32) (h0 : 0 < k) : bits .and .u64 (IntKind.u64.wrap (-(k : Int))) 31 = (j : Int) := by
  rw [wrap_u64, show (-(k : Int)) % 18446744073709551616 = ((18446744073709551616 - k : Nat) : Int) by omega]
  rw [u64_and _ _ (by omega) (by omega) (by omega) (by omega), Int.toNat_natCast, show (31 : Int).toNat = 2 ^ 5 - 1 from rfl, Nat.and_two_pow_sub_one_eq_mod]
  omega
theorem rot_back (x : UInt32) (k j : Nat) (h : k + j = 32) (h0 : 0 < k) (h1 : k < 32) : bits .or .u32 (wz x * 2 ^ j % 4294967296) (wz x / 2 ^ k) = wz (rotr x k) := by
  rw [wz_shr x k h1, wz_shl' x j (by omega), wz_or]
  unfold rotr
  rw [UInt32.or_comm, show 32 - k = j by omega]

theorem rot_left (x : UInt32) (k : Nat) (h0 : 0 < k) (h1 : k < 32) (w : World) :
    Calls Tryd.prog 129 #[.int .u32 (wz x), .int .i64 (-(k : Int))] w fun e w' => e = .returned (.int .u32 (wz (rotr x k))) ∧ w = w' := by
  obtain ⟨X, hX⟩ : ∃ X : Int, X = wz x := ⟨_, rfl⟩
  have hr := wz_range x
  rw [← hX] at hr ⊢
  obtain ⟨j, hj⟩ : ∃ j, k + j = 32 := ⟨32 - k, by omega⟩
  have hb := rot_by hj h0
  have HB := Lib.hid (rot_back x k j hj h0 h1)
  obtain rfl : k = 32 - j := by omega
  go_enter Tryd.func129, Tryd.ntmps129
  go_wp2
  go_ret
  exact ⟨ret_int HB.out, rfl⟩

theorem impl_rotated (x : UInt32) (K : Int) (hk : 0 < K ∧ K < 32) (w : World) :
    Calls Tryd.prog 128 #[.int .u32 (wz x), .int .i64 K] w fun e w' => e = .returned (.int .u32 (wz (rotr x K.toNat))) ∧ w = w' := by
  obtain ⟨k, rfl⟩ : ∃ k : Nat, K = k := ⟨K.toNat, by omega⟩
  have hn : IntKind.i64.wrap (-(k : Int)) = -(k : Int) := IntWalk.i64_in _ (by omega)
  go_enter Tryd.func128, Tryd.ntmps128
  go_wp2_with (go_at_call 129; (refine (rot_left x k (by omega) (by omega) _).mono ?_; rintro e w5 ⟨rfl, rfl⟩))
  go_ret
  exact ⟨rfl, rfl⟩
theorem impl_rotated' (x : UInt32) (K : Int) (hk : 0 < K ∧ K < 32) (w : World) :
    Calls Tryd.prog 128 #[.int .u32 (wz x), .int .i64 K] w fun e w' => e = .returned (.int .u32 (wz (rotr x K.toNat))) ∧ w' = w :=
  (impl_rotated x K hk w).mono fun _ _ ⟨h1, h2⟩ => ⟨h1, h2.symm⟩

theorem wz_sum3 (a b c : UInt32) : (wz a + wz b + wz c) % 4294967296 = wz (a + b + c) := by
  have h1 := wz_add' a b
  have h2 := wz_add' (a + b) c
  omega
theorem wz_sum3' (a b c : UInt32) : (wz a + (wz b + wz c)) % 4294967296 = wz (a + (b + c)) := by
  have h1 := wz_add' b c
  have h2 := wz_add' a (b + c)
  omega
/-- The eight words of a state as the cells of an array. -/
def Sha.cells (s : Sha) : List Value := [.int .u32 (wz s.a), .int .u32 (wz s.b), .int .u32 (wz s.c), .int .u32 (wz s.d), .int .u32 (wz s.e), .int .u32 (wz s.f), .int .u32 (wz s.g), .int .u32 (wz s.h)]
def stepA (s : Sha) (x : UInt32) : Sha := ⟨s.h + bg1 s.e + chz s.e s.f s.g + x + shaT2 s, s.a, s.b, s.c, s.d + (s.h + bg1 s.e + chz s.e s.f s.g + x), s.e, s.f, s.g⟩
theorem stepA_eq (s : Sha) (k w : UInt32) : stepA s (k + w) = shaStep s k w := by
  unfold stepA shaStep shaT1
  rw [← UInt32.add_assoc]

/-- The world in which a state and room for another one have been laid. -/
def laidS (w : World) (s : Sha) : World := (w.alloc (.cells #[.int .u32 (wz s.a), .int .u32 (wz s.b), .int .u32 (wz s.c), .int .u32 (wz s.d), .int .u32 (wz s.e), .int .u32 (wz s.f), .int .u32 (wz s.g), .int .u32 (wz s.h)] 127)).alloc (.cells #[.int .u32 0, .int .u32 0, .int .u32 0, .int .u32 0, .int .u32 0, .int .u32 0, .int .u32 0, .int .u32 0] 127)
theorem laidS_old (w : World) (s : Sha) : Arr (laidS w s) w.heap.size 127 s.cells := heap_alloc2_old w _ _
theorem laidS_new (w : World) (s : Sha) : Arr (laidS w s) (w.heap.size + 1) 127 (List.replicate 8 (.int .u32 0)) := heap_alloc2_new w _ _
theorem laidS_below (w : World) (s : Sha) : Below w.heap.size w (laidS w s) := ((Below.refl _ _).alloc (Nat.le_refl _) _).alloc (by simp) _

set_option maxRecDepth 100000 in
set_option maxHeartbeats 1000000 in
theorem impl_round (s : Sha) (x : UInt32) (w : World) :
    Calls Tryd.prog 125 #[.agg #[.int .u32 (wz s.a), .int .u32 (wz s.b), .int .u32 (wz s.c), .int .u32 (wz s.d), .int .u32 (wz s.e), .int .u32 (wz s.f), .int .u32 (wz s.g), .int .u32 (wz s.h)], .int .u32 (wz x)] w fun e w' =>
      e = .returned (.agg (stepA s x).cells.toArray) ∧ Below w.heap.size w w' := by
  go_enter Tryd.func125, Tryd.ntmps125
  go_wp2
  change Code.wp _ _ _ _ (laidS w s)
  have HO := Lib.hid (laidS_old w s)
  have HN := Lib.hid (laidS_new w s)
  have HB := Lib.hid (laidS_below w s)
  have c0 := HO.out.cell 0
  have c1 := HO.out.cell 1
  have c2 := HO.out.cell 2
  have c4 := HO.out.cell 4
  have c5 := HO.out.cell 5
  have c6 := HO.out.cell 6
  simp only [Sha.cells, List.getElem?_cons_zero, List.getElem?_cons_succ] at c0 c1 c2 c4 c5 c6
  obtain ⟨W, hW⟩ : ∃ W, W = laidS w s := ⟨_, rfl⟩
  rw [← hW] at HO HN HB c0 c1 c2 c4 c5 c6 ⊢
  clear hW
  go_quiet (fail)
  obtain ⟨W1, hW1⟩ : ∃ W1, W1 = W.drewN nq := ⟨_, rfl⟩
  rw [← hW1]
  have HO1 : Hid (Arr W1 w.heap.size 127 s.cells) := by rw [hW1]; exact HO
  have HN1 : Hid (Arr W1 (w.heap.size + 1) 127 (List.replicate 8 (.int .u32 0))) := by rw [hW1]; exact HN
  have HB1 : Hid (Below w.heap.size w W1) := by rw [hW1]; exact below_drewNS HB _
  clear hW1 HO HN HB c0 c1 c2 c4 c5 c6
  have c3 := HO1.out.cell 3
  have c7 := HO1.out.cell 7
  simp only [Sha.cells, List.getElem?_cons_zero, List.getElem?_cons_succ] at c3 c7
  go_wp2
  go_quiet (first | (go_at_call 128; exact Calls.quiet_of_same (impl_rotated' _ _ (by constructor <;> decide) _)))
  rw [wz_bg1, wz_chz, wz_sum3 s.h (bg1 s.e) (chz s.e s.f s.g), wz_add' (s.h + bg1 s.e + chz s.e s.f s.g) x]
  obtain ⟨T1, hT1⟩ : ∃ T1, T1 = s.h + bg1 s.e + chz s.e s.f s.g + x := ⟨_, rfl⟩
  rw [← hT1]
  have HT1 := Lib.hid hT1
  clear hT1
  go_wp2_with (first
    | (go_at_call 128; ((with_reducible refine (impl_rotated _ _ ?_ _).mono ?_); (constructor <;> decide); rintro e w5 ⟨rfl, rfl⟩))
    | ((refine wpList_store_row rfl 127 _ _ rfl (w.heap.size + 1) _ rfl rfl 127 _ HN1.out (by kernel_rfl) (by rfl) (by kernel_rfl) ?_)))
  rw [wz_bg0, wz_maj, wz_sum3', wz_add' s.d T1, HT1.out]
  refine bodyPost_ret (v := .agg (stepA s x).cells.toArray) ?hr rfl ⟨rfl, ?hb⟩
  case hr => exact results_cell_row (P := Tryd.prog) Tryd.results125 _ _ (w.heap.size + 1) 127 (stepA s x).cells.toArray (0, 0) _ rfl (setRow_heap _ _ _ _ _ _ HN1.out) Tryd.underlying127 rfl (by kernel_rfl)
  case hb => exact below_setRow (below_drewNS HB1 _) (by omega) _
end Go.Proofs.YtpbogdfgomfpjaaDoor
