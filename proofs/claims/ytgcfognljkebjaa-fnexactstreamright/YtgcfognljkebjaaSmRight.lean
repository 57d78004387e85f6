/- What StreamRight answers, the program's and the specification's. -/
import Derived.Test.YtgcfognljkebjaaSmHead
import Derived.Test.YtgcfognljkebjaaJidLow
namespace Go.Proofs.Ytgcfognljkebjaa
set_option linter.unusedSimpArgs false
set_option linter.unusedVariables false
open Go.RowKit

def zeroH (f o : ByteArray) (n : Int) : Bool := decide (f.toList = []) && decide (o.toList = []) && decide (n = 0)
/-- A valid stream. -/
noncomputable def smB (f o : ByteArray) (n : Int) (r : ByteArray) (op cl de : Bool) : Bool :=
  decide (r.size ≤ 4000) && !Lib.contains r.data.toList [10] && (bif op then hdB f o n else zeroH f o n) && !((cl || de) && !r.toList.isEmpty) && (op || !cl)
theorem box_seven {w w1 : World} {a b c d e f g : Value} {t : Nat} (h : Below (w.alloc (.cells #[a, b, c, d, e, f, g] t)).heap.size (w.alloc (.cells #[a, b, c, d, e, f, g] t)) w1) :
    w1.cell? ⟨w.heap.size, 0, none⟩ = some a ∧ w1.cell? ⟨w.heap.size, 1, none⟩ = some b ∧ w1.cell? ⟨w.heap.size, 2, none⟩ = some c ∧ w1.cell? ⟨w.heap.size, 3, none⟩ = some d ∧ w1.cell? ⟨w.heap.size, 4, none⟩ = some e ∧ w1.cell? ⟨w.heap.size, 5, none⟩ = some f ∧ w1.cell? ⟨w.heap.size, 6, none⟩ = some g := by
  have hA : Arr w1 w.heap.size t [a, b, c, d, e, f, g] := (h.block w.heap.size (by simp)).trans (Arr.fresh w t [a, b, c, d, e, f, g])
  exact ⟨hA.cell 0, hA.cell 1, hA.cell 2, hA.cell 3, hA.cell 4, hA.cell 5, hA.cell 6⟩
set_option maxRecDepth 100000 in
set_option maxHeartbeats 2000000 in
theorem impl_smright (f o : ByteArray) (n : Int) (r : ByteArray) (op cl de : Bool) (w : World) (hf : f.size ≤ maxLen) (ho : o.size ≤ maxLen) (hr : r.size ≤ maxLen) (hm : MaxL w) :
    Calls Try.prog 7 #[.agg #[.string f, .string o, .int .i64 n, .string r, .bool op, .bool cl, .bool de]] w fun e w' => e = .returned (.bool (smB f o n r op cl de)) ∧ Below w.heap.size w w' := by
  have i1 := fun w => impl_head f o n w hf ho
  have HM := Lib.hid (fun o => hd_max hm o)
  clear hm
  unfold maxLen at hr
  unfold smB
  by_cases h4 : 4000 < r.size
  · rw [show decide (r.size ≤ 4000) = false by simp; omega]
    go_enter Try.func7, Try.ntmps7
    go_wp2
    go_ret
    exact ⟨ret_bool (by simp), (Below.refl _ _).alloc (Nat.le_refl _) _⟩
  · rw [show decide (r.size ≤ 4000) = true by simp; omega]
    obtain ⟨cb, hcb⟩ : ∃ b, Lib.contains r.data.toList [10] = b := ⟨_, rfl⟩
    rw [hcb]
    have i2 : ∀ w, MaxL w → Calls Try.prog 12 #[.string r, .string ⟨#[10]⟩] w fun e w' => e = .returned (.bool cb) ∧ w' = w := by
      intro w hm
      obtain ⟨m, hm⟩ := hm
      rw [← hcb]
      exact Try.strings_Contains r ⟨#[10]⟩ m w (by omega) hm
    clear hcb
    cases cb
    case true =>
      go_enter Try.func7, Try.ntmps7
      go_wp2_with (go_at_call 12; go_fit (i2 _ (HM.out _)); rintro e w' ⟨rfl, rfl⟩)
      go_ret
      exact ⟨ret_bool (by simp), (Below.refl _ _).alloc (Nat.le_refl _) _⟩
    case false =>
      cases op
      case true =>
        obtain ⟨hb, hhb⟩ : ∃ b, hdB f o n = b := ⟨_, rfl⟩
        rw [hhb] at i1
        rw [Bool.cond_true, hhb]
        clear hhb
        have HK := Lib.hid (fun W (h : Below (w.alloc (.cells #[.string f, .string o, .int .i64 n, .string r, .bool true, .bool cl, .bool de] 30)).heap.size (w.alloc (.cells #[.string f, .string o, .int .i64 n, .string r, .bool true, .bool cl, .bool de] 30)) W) => box_seven h)
        cases hb <;>
          (go_enter Try.func7, Try.ntmps7
           go_wp2_with (first
             | (go_at_call 12; go_fit (i2 _ (HM.out _)); rintro e w' ⟨rfl, rfl⟩)
             | (go_at_call 13; go_fit (i1 _ (HM.out _)); rintro e w' ⟨rfl, hb⟩; obtain ⟨c0, c1, c2, c3, c4, c5, c6⟩ := HK.out _ hb))
           all_goals
             go_ret
             first
               | exact ⟨ret_bool (by simp [*]), below_one hb⟩
               | exact ⟨ret_bool (by simp [*]), (Below.refl _ _).alloc (Nat.le_refl _) _⟩)
      case false =>
        rw [Bool.cond_false]
        unfold zeroH
        go_enter Try.func7, Try.ntmps7
        go_wp2_with (first
               | (go_at_call 12; go_fit (i2 _ (HM.out _)); rintro e w' ⟨rfl, rfl⟩))
        all_goals
          go_ret
          exact ⟨ret_bool (by simp [*]), (Below.refl _ _).alloc (Nat.le_refl _) _⟩
set_option maxRecDepth 100000 in
set_option maxHeartbeats 2000000 in
theorem spec_smright (f o : ByteArray) (n : Int) (r : ByteArray) (op cl de : Bool) (w : World) (hf : f.size ≤ maxLen) (ho : o.size ≤ maxLen) (hr : r.size ≤ maxLen) :
    Calls Try.prog 5 #[.agg #[.string f, .string o, .int .i64 n, .string r, .bool op, .bool cl, .bool de]] w fun e w' => e = .returned (.bool (smB f o n r op cl de)) ∧ Below w.heap.size w w' := by
  have i1 := fun w => spec_head f o n w hf ho
  have i2 : ∀ w, Calls Try.prog 9 #[.string r, .int .u8 10] w fun e w' => e = .returned (.int .i64 (Lib.index r.data.toList [10])) ∧ w = w' := fun w => spec_at r 10 w hr
  unfold maxLen at hr
  unfold smB
  by_cases h4 : 4000 < r.size
  · rw [show decide (r.size ≤ 4000) = false by simp; omega]
    go_enter Try.func5, Try.ntmps5
    go_wp2
    go_ret
    exact ⟨ret_bool (by simp), (Below.refl _ _).alloc (Nat.le_refl _) _⟩
  · rw [show decide (r.size ≤ 4000) = true by simp; omega]
    obtain ⟨z, hz⟩ : ∃ z, Lib.index r.data.toList [10] = z := ⟨_, rfl⟩
    rw [hz] at i2
    unfold Lib.contains
    rw [hz]
    clear hz
    by_cases hz0 : 0 ≤ z
    · rw [decide_eq_true hz0]
      go_enter Try.func5, Try.ntmps5
      go_wp2_with (go_at_call 9; go_fit (i2 _); rintro e w' ⟨rfl, rfl⟩)
      go_ret
      exact ⟨ret_bool (by simp), (Below.refl _ _).alloc (Nat.le_refl _) _⟩
    · rw [decide_eq_false hz0]
      cases op
      case true =>
        obtain ⟨hb, hhb⟩ : ∃ b, hdB f o n = b := ⟨_, rfl⟩
        rw [hhb] at i1
        rw [Bool.cond_true, hhb]
        clear hhb
        have HK := Lib.hid (fun W (h : Below (w.alloc (.cells #[.string f, .string o, .int .i64 n, .string r, .bool true, .bool cl, .bool de] 30)).heap.size (w.alloc (.cells #[.string f, .string o, .int .i64 n, .string r, .bool true, .bool cl, .bool de] 30)) W) => box_seven h)
        cases hb <;>
          (go_enter Try.func5, Try.ntmps5
           go_wp2_with (first
             | (go_at_call 9; go_fit (i2 _); rintro e w' ⟨rfl, rfl⟩)
             | (go_at_call 10; go_fit (i1 _); rintro e w' ⟨rfl, hb⟩))
           all_goals
             go_ret
             first
               | exact ⟨ret_bool (by first | (simp [*]; done) | (rename_i hh; have hh2 : r.toList.isEmpty = false := (by rcases hh with (h | h) | h; { omega }; { omega }; { simpa using h }); simp [*])), below_one hb⟩
               | exact ⟨ret_bool (by first | (simp [*]; done) | (rename_i hh; have hh2 : r.toList.isEmpty = false := (by rcases hh with (h | h) | h; { omega }; { omega }; { simpa using h }); simp [*])), (Below.refl _ _).alloc (Nat.le_refl _) _⟩)
      case false =>
        rw [Bool.cond_false]
        unfold zeroH
        go_enter Try.func5, Try.ntmps5
        go_wp2_with (first
               | (go_at_call 9; go_fit (i2 _); rintro e w' ⟨rfl, rfl⟩))
        all_goals
          go_ret
          exact ⟨ret_bool (by first | (simp [*]; done) | (rename_i hh; have hh2 : r.toList.isEmpty = false := (by rcases hh with (h | h) | h; { omega }; { omega }; { simpa using h }); simp [*])), (Below.refl _ _).alloc (Nat.le_refl _) _⟩
end Go.Proofs.Ytgcfognljkebjaa
