/- slices.Delete on sessions, impl.Unbind. -/
import Derived.Test.YtkdljhmenejckaaSeUnbS
namespace Go.Proofs.Ytkdljhmenejckaa
set_option linter.unusedSimpArgs false
set_option linter.unusedVariables false
open Go.RowKit Go.Joins

theorem grown_setRow (w : World) (g : Nat) (cs : List Value) : w.grownBy (w.setRow g cs.toArray) (some g) := ⟨rfl, rfl, rfl, by simp [World.setRow], fun k hk hne => setRow_other w g k _ (fun e => hne (by rw [e]))⟩
theorem _root_.Go.World.grownBy.trans9 {w W W2 : World} {g : Nat} (h : w.grownBy W (some g)) (h2 : W.grownBy W2 (some g)) : w.grownBy W2 (some g) := ⟨h2.os.trans h.os, h2.tape.trans h.tape, h2.output.trans h.output, Nat.le_trans h.size h2.size, fun k hk hne => (h2.block k (Nat.lt_of_lt_of_le hk h.size) hne).trans (h.block k hk hne)⟩
/-- append within the capacity. -/
theorem wp_app_room9 {o : Oper} {a : Act} {w : World} {K : Act → World → Prop} {Q : Exit → Act → World → Prop} (s x : Operand)
    (ho : o.op = .call { callee := .builtin .append, args := #[s, x], argTypes := #[23, 23] })
    (g k n off m c : Nat) (cs news : List Value) (hA : Arr w g 42 cs) (hs : a.eval s = .slice (some ⟨g, 0, none⟩) k n) (hx : a.eval x = .slice (some ⟨g, off, none⟩) m c) (hl : news.length = m * 4) (hnews : ∀ j u, news[j]? = some u → cs[off + j]? = some u) (h1 : ∀ u ∈ news, u.oneCell' = true)
    (hroom : k + m ≤ n) (hfit : k * 4 + news.length ≤ cs.length)
    (h : ∀ W, Arr W g 42 (cs.take (k * 4) ++ news ++ cs.drop (k * 4 + news.length)) → w.grownBy W (some g) → K (a.put o.dst (.slice (some ⟨g, 0, none⟩) (k + m) n)) W) : o.wp Try.prog a w K Q := by
  obtain ⟨i0, hi, hz0, hz1, hz2⟩ := info_parts info_sec
  have hrun := run_append_room (P := Try.prog) w 23 o.type 42 i0 Try.underlying23 hi g k n cs.toArray hA ⟨g, off, none⟩ m c news (by rw [hz1]; exact hl) (fun j u hj => by
    rw [show (⟨g, off, none⟩ : Addr).add j = ⟨g, off + j, none⟩ by unfold Addr.add; split <;> simp_all, hA.cell]
    exact hnews j u hj) h1 hroom (by rw [hz1]; simpa using hfit)
  rw [hz1] at hrun
  unfold Oper.wp execOp
  simp only [ho, resolve, invoke, builtin, Sem.run_bind, Sem.run_pure, Result.andThen_ok, List.map_toArray, List.map_cons, List.map_nil, hs, hx, hrun]
  exact h _ (hA.row _) (grown_setRow w g _)
def zero9 : List Value := [.string ⟨#[]⟩, .bool false, .int .i64 0, .string ⟨#[]⟩]
theorem zv9 (w : World) : (zeroValue 42).run Try.prog w = .ok (.agg #[.string ⟨#[]⟩, .bool false, .int .i64 0, .string ⟨#[]⟩]) w := by kernel_rfl
/-- clear(s) at one element. -/
theorem run_clear9 (w : World) (ty g off c : Nat) (cs : List Value) (hA : Arr w g 42 cs) (hfit : off + 4 ≤ cs.length) :
    ∃ W, (Builtin.clear_ #[23] ty #[.slice (some ⟨g, off, none⟩) 1 c]).run Try.prog w = .ok (.tuple #[]) W ∧ Arr W g 42 (cs.take off ++ zero9 ++ cs.drop (off + 4)) ∧ w.grownBy W (some g) := by
  have hst := run_storeCells_at Try.prog g off 42 zero9 0 cs.toArray w hA (by show off + 4 ≤ _; simpa using hfit) (by intro u hu; simp [zero9] at hu; rcases hu with rfl | rfl | rfl | rfl <;> rfl)
  simp only [Nat.add_zero] at hst
  have hz : (Builtin.zeroCells #[.string ⟨#[]⟩, .bool false, .int .i64 0, .string ⟨#[]⟩] 1).toList = zero9 := by kernel_rfl
  refine ⟨w.setRow g (cs.toArray.toList.take off ++ zero9 ++ cs.toArray.toList.drop (off + zero9.length)).toArray, ?_, hA.row _, grown_setRow w g _⟩
  simp [Builtin.clear_, run_underlying Try.underlying23, zv9, Value.cells, hz, hst]
theorem flat_take9 : ∀ (xs : List SeL) (k : Nat), (xs.flatMap seC).take (k * 4) = (xs.take k).flatMap seC
  | [], k => by simp
  | x :: xs, 0 => by simp
  | x :: xs, k + 1 => by
    rw [List.flatMap_cons, List.take_succ_cons, List.flatMap_cons, List.take_append, seC_len, List.take_of_length_le (by rw [seC_len]; omega), show (k + 1) * 4 - 4 = k * 4 by omega, flat_take9 xs k]
theorem flat_drop9 : ∀ (xs : List SeL) (k : Nat), (xs.flatMap seC).drop (k * 4) = (xs.drop k).flatMap seC
  | [], k => by simp
  | x :: xs, 0 => by simp
  | x :: xs, k + 1 => by
    rw [List.flatMap_cons, List.drop_succ_cons, List.drop_append, seC_len, List.drop_eq_nil_of_le (by rw [seC_len]; omega), List.nil_append, show (k + 1) * 4 - 4 = k * 4 by omega, flat_drop9 xs k]
/-- A row without spare capacity holds its elements alone. -/
theorem own_full9 {w : World} {B g n : Nat} {xs : List SeL} (h : OwnC seC w B 42 4 (.slice (some ⟨g, 0, none⟩) n n) xs) : Arr w g 42 (xs.flatMap seC) ∧ B ≤ g ∧ n = xs.length ∧ n ≤ maxLen := by
  rcases h.2 with ⟨h0, _⟩ | ⟨g', cap, cur, h1, h2, h3, h4, h5, h6, h7⟩
  · cases h0
  · injection h1 with e1 e2 e3
    injection e1 with e1
    injection e1 with e1
    subst e1 e3
    refine ⟨?_, h2, e2, h5⟩
    rw [← h7, List.take_of_length_le (by rw [Array.length_toList, h6, e2]; exact Nat.le_refl _)]
    unfold Arr
    simpa using h3
theorem cut9 (Y Z : List Value) {m : Nat} (h1 : Y.length = m) (h2 : Z.length ≤ 4) : (Y ++ Z).take m ++ zero9 ++ (Y ++ Z).drop (m + 4) = Y ++ zero9 := by
  rw [List.take_append_of_le_length (by omega), List.take_of_length_le (by omega), List.drop_eq_nil_of_le (by rw [List.length_append]; omega), List.append_nil]
theorem del_own {W : World} {B g M P : Nat} {xs : List SeL} (hx : xs.length = M + 1) (hP : P ≤ M) (hB : B ≤ g) (hm : M + 1 ≤ maxLen) (hA : Arr W g 42 (((xs.flatMap seC).take (P * 4) ++ (xs.drop (P + 1)).flatMap seC ++ (xs.flatMap seC).drop (P * 4 + ((xs.drop (P + 1)).flatMap seC).length)).take (M * 4) ++ zero9 ++ ((xs.flatMap seC).take (P * 4) ++ (xs.drop (P + 1)).flatMap seC ++ (xs.flatMap seC).drop (P * 4 + ((xs.drop (P + 1)).flatMap seC).length)).drop (M * 4 + 4))) :
    OwnC seC W B 42 4 (.slice (some ⟨g, 0, none⟩) M (M + 1)) (xs.take P ++ xs.drop (P + 1)) := by
  have hl1 : ((xs.take P ++ xs.drop (P + 1)).flatMap seC).length = M * 4 := by rw [flat_len9, List.length_append, List.length_take, List.length_drop, hx]; omega
  have hl3 : (((xs.flatMap seC).drop (P * 4 + ((xs.drop (P + 1)).flatMap seC).length))).length ≤ 4 := by rw [List.length_drop, flat_len9, flat_len9, List.length_drop, hx]; omega
  rw [flat_take9, ← List.flatMap_append, cut9 _ _ hl1 hl3] at hA
  have hn : (xs.take P ++ xs.drop (P + 1)).length = M := by rw [List.length_append, List.length_take, List.length_drop, hx]; omega
  refine ⟨by rw [flat_len9], .inr ⟨g, M + 1, ((xs.take P ++ xs.drop (P + 1)).flatMap seC ++ zero9).toArray, by rw [hn], hB, hA, by omega, hm, by simp only [List.size_toArray, List.length_append, hl1]; show _ + 4 = _; omega, ?_⟩⟩
  rw [hn]
  show ((xs.take P ++ xs.drop (P + 1)).flatMap seC ++ zero9).take (M * 4) = _
  rw [List.take_append_of_le_length (by omega), List.take_of_length_le (by omega)]
set_option maxRecDepth 100000 in
set_option maxHeartbeats 2000000 in
theorem impl_delete (xs : List SeL) (M P g B : Nat) (w : World) (hx : xs.length = M + 1) (hM : M ≤ 5) (hP : P ≤ M) (hO : OwnC seC w B 42 4 (.slice (some ⟨g, 0, none⟩) (M + 1) (M + 1)) xs) :
    Calls Try.prog 67 #[.slice (some ⟨g, 0, none⟩) (M + 1) (M + 1), .int .i64 (P : Int), .int .i64 ((P : Int) + 1)] w fun e w' => e = .returned (.slice (some ⟨g, 0, none⟩) M (M + 1)) ∧ OwnC seC w' B 42 4 (.slice (some ⟨g, 0, none⟩) M (M + 1)) (xs.take P ++ xs.drop (P + 1)) ∧ w.grownBy w' (some g) := by
  obtain ⟨hA, hB, hn, hm⟩ := own_full9 hO
  have HA := Lib.hid hA
  have HX := Lib.hid hx
  have HBB := Lib.hid (And.intro hB hm)
  have HFL : Hid ((xs.flatMap seC).length = (M + 1) * 4) := Lib.hid (by rw [flat_len9, hx])
  have HFD : Hid (((xs.drop (P + 1)).flatMap seC).length = (M - P) * 4) := Lib.hid (by rw [flat_len9, List.length_drop, hx]; congr 1; omega)
  clear hO hA hB hn hm hx
  have q1 : (0 : Int) ≤ (P : Int) := by omega
  have q2 : (P : Int) ≤ (M : Int) := by omega
  have q3 : ((P : Int) == (P : Int) + 1) = false := by rw [beq_eq_false_iff_ne]; omega
  have q4 : ¬ ((M : Int) + 1 = (P : Int)) := by omega
  have q5 : ¬ (M + 1 = P) := by omega
  have q6 : ¬ (M + 1 = M) := by omega
  have q7 : (P : Int) + 1 ≤ (M : Int) + 1 := by omega
  have q8 : (0 : Int) ≤ (P : Int) + 1 := by omega
  have q11 : (P : Int) ≤ (M : Int) + 1 := by omega
  have q12 : ¬ ((M : Int) + 1 = (M : Int)) := by omega
  go_enter Try.func67, Try.ntmps67
  go_wp2
  refine wp_region_held_drew (S := fun _ => True) (by kernel_rfl) trivial (fun hHeld => ?_)
  have HAd : Hid (Arr w.drew g 42 (xs.flatMap seC)) := Lib.hid HA.out
  have HGd : Hid (w.grownBy w.drew (some g)) := Lib.hid ⟨rfl, rfl, rfl, Nat.le_refl _, fun _ _ _ => rfl⟩
  generalize w.drew = Wd at hHeld HAd HGd ⊢
  by_cases hc : P = M
  · have HC := Lib.hid hc
    have HDN : Hid ((xs.drop (P + 1)).flatMap seC = []) := Lib.hid (List.eq_nil_of_length_eq_zero (by rw [HFD.out, hc]; simp))
    clear hc
    refine takeQ (i := 0) (k := 20) (v := .slice (some ⟨g, 0, none⟩) (M + 1) (M + 1)) rfl (by rfl) (by kernel_rfl) (by kernel_rfl) (by kernel_rfl) (fun _ _ _ h => h) (by rfl) ?_ hHeld ?_
    · intro w1 hSw; go_simp
    (try simp only [Act.put, List.setIfInBounds_toArray, List.set_cons_zero, List.set_cons_succ])
    refine takeQ (i := 1) (k := 21) (v := .int .i64 (P : Int)) rfl (by rfl) (by kernel_rfl) (by kernel_rfl) (by kernel_rfl) (fun _ _ _ h => h) (by rfl) ?_ hHeld ?_
    · intro w1 hSw; go_simp
    (try simp only [Act.put, List.setIfInBounds_toArray, List.set_cons_zero, List.set_cons_succ])
    refine takeQ (i := 2) (k := 22) (v := .slice (some ⟨g, 0, none⟩) P (M + 1)) rfl (by rfl) (by kernel_rfl) (by kernel_rfl) (by kernel_rfl) (fun _ _ _ h => h) (by rfl) ?_ hHeld ?_
    · intro w1 hSw; go_simp
    (try simp only [Act.put, List.setIfInBounds_toArray, List.set_cons_zero, List.set_cons_succ])
    refine takeQ (i := 3) (k := 23) (v := .slice (some ⟨g, 0, none⟩) (M + 1) (M + 1)) rfl (by rfl) (by kernel_rfl) (by kernel_rfl) (by kernel_rfl) (fun _ _ _ h => h) (by rfl) ?_ hHeld ?_
    · intro w1 hSw; go_simp
    (try simp only [Act.put, List.setIfInBounds_toArray, List.set_cons_zero, List.set_cons_succ])
    refine takeQ (i := 4) (k := 24) (v := .int .i64 ((P : Int) + 1)) rfl (by rfl) (by kernel_rfl) (by kernel_rfl) (by kernel_rfl) (fun _ _ _ h => h) (by rfl) ?_ hHeld ?_
    · intro w1 hSw; go_simp
    (try simp only [Act.put, List.setIfInBounds_toArray, List.set_cons_zero, List.set_cons_succ])
    refine takeQ (i := 5) (k := 25) (v := .slice (some ⟨g, 0, none⟩) 0 0) rfl (by rfl) (by kernel_rfl) (by kernel_rfl) (by kernel_rfl) (fun _ _ _ h => h) (by rfl) ?_ hHeld ?_
    · intro w1 hSw; go_simp; (try (have := HC.out; simp [this]))
    (try simp only [Act.put, List.setIfInBounds_toArray, List.set_cons_zero, List.set_cons_succ])
    refine wpAnyH_ready (rs := [6]) (by kernel_rfl) (by simp) ?_
    refine AllReadyH.cons rfl (fun K hK => ?_) AllReadyH.nil
    rw [if_pos (by rfl)]
    refine wp_app_room9 _ _ rfl g P (M + 1) 0 0 0 (xs.flatMap seC) ((xs.drop (P + 1)).flatMap seC) HAd.out rfl rfl (by rw [HDN.out]; rfl) (fun j u hj => by rw [HDN.out] at hj; cases hj) (one_all9 _) (by omega) (by rw [HFL.out, HFD.out]; omega) ?_
    intro W1 hA1 hg1
    rw [show P + 0 = M by have := HC.out; omega]
    have HA1 := Lib.hid hA1
    have HG1 := Lib.hid (HGd.out.trans9 hg1)
    refine hK.out _ _ trivial (fun hHeld => ?_)
    clear hK K
    (try simp only [Act.put, List.setIfInBounds_toArray, List.set_cons_zero, List.set_cons_succ])
    refine takeQ (i := 7) (k := 0) (v := .slice (some ⟨g, 0, none⟩) M (M + 1)) rfl (by rfl) (by kernel_rfl) (by kernel_rfl) (by kernel_rfl) (fun _ _ _ h => h) (by rfl) ?_ hHeld ?_
    · intro w1 hSw; go_simp
    (try simp only [Act.put, List.setIfInBounds_toArray, List.set_cons_zero, List.set_cons_succ])
    refine wpAnyH_done (by kernel_rfl) ?_ _
    obtain ⟨W2, hcl, hA2, hg2⟩ := run_clear9 W1 0 g (M * 4) 1 _ HA1.out (by simp only [List.length_append, List.length_take, List.length_drop, HFL.out, HFD.out]; omega)
    have HA2 := Lib.hid hA2
    have HG2 := Lib.hid hg2
    clear hA2 hg2
    go_wp2
    go_ret
    exact ⟨rfl, del_own HX.out hP HBB.out.1 HBB.out.2 HA2.out, HG1.out.trans9 HG2.out⟩
  · have q9 : ¬ ((M : Int) = (P : Int)) := by omega
    have q10 : ¬ (M = P) := fun e => hc e.symm
    refine takeQ (i := 0) (k := 20) (v := .slice (some ⟨g, 0, none⟩) (M + 1) (M + 1)) rfl (by rfl) (by kernel_rfl) (by kernel_rfl) (by kernel_rfl) (fun _ _ _ h => h) (by rfl) ?_ hHeld ?_
    · intro w1 hSw; go_simp
    (try simp only [Act.put, List.setIfInBounds_toArray, List.set_cons_zero, List.set_cons_succ])
    refine takeQ (i := 1) (k := 21) (v := .int .i64 (P : Int)) rfl (by rfl) (by kernel_rfl) (by kernel_rfl) (by kernel_rfl) (fun _ _ _ h => h) (by rfl) ?_ hHeld ?_
    · intro w1 hSw; go_simp
    (try simp only [Act.put, List.setIfInBounds_toArray, List.set_cons_zero, List.set_cons_succ])
    refine takeQ (i := 2) (k := 22) (v := .slice (some ⟨g, 0, none⟩) P (M + 1)) rfl (by rfl) (by kernel_rfl) (by kernel_rfl) (by kernel_rfl) (fun _ _ _ h => h) (by rfl) ?_ hHeld ?_
    · intro w1 hSw; go_simp
    (try simp only [Act.put, List.setIfInBounds_toArray, List.set_cons_zero, List.set_cons_succ])
    refine takeQ (i := 3) (k := 23) (v := .slice (some ⟨g, 0, none⟩) (M + 1) (M + 1)) rfl (by rfl) (by kernel_rfl) (by kernel_rfl) (by kernel_rfl) (fun _ _ _ h => h) (by rfl) ?_ hHeld ?_
    · intro w1 hSw; go_simp
    (try simp only [Act.put, List.setIfInBounds_toArray, List.set_cons_zero, List.set_cons_succ])
    refine takeQ (i := 4) (k := 24) (v := .int .i64 ((P : Int) + 1)) rfl (by rfl) (by kernel_rfl) (by kernel_rfl) (by kernel_rfl) (fun _ _ _ h => h) (by rfl) ?_ hHeld ?_
    · intro w1 hSw; go_simp
    (try simp only [Act.put, List.setIfInBounds_toArray, List.set_cons_zero, List.set_cons_succ])
    refine takeQ (i := 5) (k := 25) (v := .slice (some ⟨g, (P + 1) * 4, none⟩) (M - P) (M - P)) rfl (by rfl) (by kernel_rfl) (by kernel_rfl) (by kernel_rfl) (fun _ _ _ h => h) (by rfl) ?_ hHeld ?_
    · intro w1 hSw; go_simp; (try simp)
    (try simp only [Act.put, List.setIfInBounds_toArray, List.set_cons_zero, List.set_cons_succ])
    refine wpAnyH_ready (rs := [6]) (by kernel_rfl) (by simp) ?_
    refine AllReadyH.cons rfl (fun K hK => ?_) AllReadyH.nil
    rw [if_pos (by rfl)]
    refine wp_app_room9 _ _ rfl g P (M + 1) ((P + 1) * 4) (M - P) (M - P) (xs.flatMap seC) ((xs.drop (P + 1)).flatMap seC) HAd.out rfl rfl HFD.out (fun j u hj => by rw [← flat_drop9, List.getElem?_drop] at hj; exact hj) (one_all9 _) (by omega) (by rw [HFL.out, HFD.out]; omega) ?_
    intro W1 hA1 hg1
    rw [show P + (M - P) = M by omega]
    have HA1 := Lib.hid hA1
    have HG1 := Lib.hid (HGd.out.trans9 hg1)
    refine hK.out _ _ trivial (fun hHeld => ?_)
    clear hK K
    (try simp only [Act.put, List.setIfInBounds_toArray, List.set_cons_zero, List.set_cons_succ])
    refine takeQ (i := 7) (k := 0) (v := .slice (some ⟨g, 0, none⟩) M (M + 1)) rfl (by rfl) (by kernel_rfl) (by kernel_rfl) (by kernel_rfl) (fun _ _ _ h => h) (by rfl) ?_ hHeld ?_
    · intro w1 hSw; go_simp
    (try simp only [Act.put, List.setIfInBounds_toArray, List.set_cons_zero, List.set_cons_succ])
    refine wpAnyH_done (by kernel_rfl) ?_ _
    obtain ⟨W2, hcl, hA2, hg2⟩ := run_clear9 W1 0 g (M * 4) 1 _ HA1.out (by simp only [List.length_append, List.length_take, List.length_drop, HFL.out, HFD.out]; omega)
    have HA2 := Lib.hid hA2
    have HG2 := Lib.hid hg2
    clear hA2 hg2
    go_wp2
    go_ret
    exact ⟨rfl, del_own HX.out hP HBB.out.1 HBB.out.2 HA2.out, HG1.out.trans9 HG2.out⟩
theorem at_badU {xs : List SeL} {r : ByteArray} (h : (atR xs r).2 ≠ 0) : unbindR xs r = illS (atR xs r).2 := by
  unfold atR at h ⊢
  unfold unbindR
  split
  · rfl
  · rename_i h1
    rw [if_neg h1] at h
    split
    · rfl
    · rename_i h2
      rw [if_neg h2] at h
      split
      · rfl
      · rename_i h3
        rw [if_neg h3] at h
        exact absurd rfl h
set_option maxRecDepth 100000 in
set_option maxHeartbeats 2000000 in
theorem impl_unbind (xs : List SeL) (r : ByteArray) (p : Option Addr) (c : Nat) (w : World) (hn : xs.length ≤ 1048576) (hr : r.size ≤ 1048576) (hw : ∀ x ∈ xs, x.r.size ≤ 1048576 ∧ x.s.size ≤ 1048576) (hR : RowC seC 4 w p xs) :
    Calls Try.prog 17 #[.slice p xs.length c, .string r] w fun e w' => SoIs w.heap.size (unbindR xs r) e w' ∧ Below w.heap.size w w' := by
  have HR := Lib.hid (fun W (h : Below w.heap.size w W) => hR.on h)
  have i1 := fun W h => impl_at xs r p c W hn hr (fun x hx => by have := (hw x hx).1; unfold maxLen; omega) h
  have i3 := fun W h => impl_sescopy xs p c W hn hw h
  have HA0 : Hid (Arr (w.alloc (.cells #[.slice none 0 0, .int .i64 0] 27)) w.heap.size 27 [.slice none 0 0, .int .i64 0]) := Lib.hid (Arr.fresh w _ [.slice none 0 0, .int .i64 0])
  have HB0 : Hid (Below w.heap.size w (w.alloc (.cells #[.slice none 0 0, .int .i64 0] 27))) := Lib.hid ((Below.refl _ _).alloc (Nat.le_refl _) _)
  obtain ⟨K, hK⟩ : ∃ K, (atR xs r).1 = K := ⟨_, rfl⟩
  obtain ⟨C, hC⟩ : ∃ C, (atR xs r).2 = C := ⟨_, rfl⟩
  rw [hK, hC] at i1
  by_cases h0 : C ≠ 0
  · have hw0 := at_badU (xs := xs) (r := r) (by rw [hC]; exact h0)
    rw [hC] at hw0
    rw [hw0]
    have q1 : (C != 0) = true := by simpa using h0
    clear hR hw hr hK hC h0 hw0 i3
    go_enter Try.func17, Try.ntmps17
    go_wp2_with (go_at_call 57; go_fit (i1 _ (HR.out _ HB0.out)); rintro e w1 ⟨rfl, hb⟩; have HA1 := Lib.hid (arr9_on HA0.out hb); have HB1 := Lib.hid (HB0.out.trans (hb.mono HB0.out.size)); clear hb; obtain ⟨⟨c0, c1⟩, f0, f1⟩ := arr9_two HA1.out)
    have hE : Arr _ w.heap.size 27 [.slice none 0 0, .int .i64 C] := ((HA1.out.put 0 (.slice none 0 0)).put 1 (.int .i64 C))
    exact bodyPost_ret (v := .agg #[.slice none 0 0, .int .i64 C]) (results_cell_row (P := Try.prog) Try.results17 _ _ w.heap.size 27 _ (0, 0) _ rfl hE Try.underlying27 rfl (by kernel_rfl)) rfl
      ⟨so_ill _ _ _, (HB1.out.setCell (p := ⟨w.heap.size, 0, none⟩) (Nat.le_refl _) _).setCell (p := ⟨w.heap.size, 1, none⟩) (Nat.le_refl _) _⟩
  · obtain rfl : C = 0 := by omega
    obtain ⟨g1, g2, g3, g4⟩ := at_ok hC
    have hlt := here_lt g3
    rw [unb_ok g1 g2 g3]
    have h5 := (okB_iff.1 g2).1
    obtain ⟨P, hP⟩ : ∃ P, posS r xs = P := ⟨_, rfl⟩
    rw [hP] at hlt g4 ⊢
    rw [hK] at g4
    subst g4
    obtain ⟨M, hxn⟩ : ∃ M, xs.length = M + 1 := ⟨xs.length - 1, by omega⟩
    have HN := Lib.hid hxn
    have i5 := fun W g B hO => impl_delete xs M P g B W hxn (by omega) (by omega) hO
    rw [hxn] at hn i1 i3 hlt
    rw [hxn]
    have hw1 : IntKind.i64.wrap ((P : Int) + 1) = (P : Int) + 1 := IntWalk.i64_in _ (by omega)
    have HML : Hid ((xs.take P ++ xs.drop (P + 1)).length = M) := Lib.hid (by rw [List.length_append, List.length_take, List.length_drop, hxn]; omega)
    clear hR hw hr hK hC h0 hxn hP g1 g2 g3
    go_enter Try.func17, Try.ntmps17
    go_wp2_with (first
      | (go_at_call 57; go_fit (i1 _ (HR.out _ HB0.out)); rintro e w1 ⟨rfl, hb⟩; have HA1 := Lib.hid (arr9_on HA0.out hb); have HB1 := Lib.hid (HB0.out.trans (hb.mono HB0.out.size)); clear hb)
      | (go_at_call 60; go_fit (i3 _ (HR.out _ HB1.out)); rintro e w3 ⟨⟨rfl, hv⟩, hb⟩; have HA3 := Lib.hid (arr9_on HA1.out hb); have HB3 := Lib.hid (HB1.out.trans (hb.mono HB1.out.size)); have HV3 := Lib.hid hv; have hl1 := arr9_lt HA1.out; clear hb hv)
      | (go_at_call 67; go_fit (i5 _ w1.heap.size w1.heap.size HV3.out); rintro e w4 ⟨rfl, hv, hg⟩; have HV4 := Lib.hid hv; have HA4 : Hid (Arr w4 w.heap.size 27 [.slice none 0 0, .int .i64 0]) := Lib.hid ((hg.block _ (arr9_lt HA3.out) (fun e => by injection e with e; omega)).trans HA3.out); have HB4 : Hid (Below w.heap.size w w4) := Lib.hid (HB3.out.grown hg HB3.out.size (fun k hk => by injection hk with hk; omega)); clear hv hg; obtain ⟨⟨c0, c1⟩, f0, f1⟩ := arr9_two HA4.out))
    have hv4 := HV4.out
    obtain rfl := HML.out
    obtain ⟨hE, hO2, hBl⟩ := pass9 (W2 := w) (R := ⟨xs.take P ++ xs.drop (P + 1), 0⟩) HA4.out HB4.out (Nat.le_refl _) hl1 hv4
    exact bodyPost_ret (v := .agg #[.slice (some ⟨w1.heap.size, 0, none⟩) (xs.take P ++ xs.drop (P + 1)).length ((xs.take P ++ xs.drop (P + 1)).length + 1), .int .i64 0]) (results_cell_row (P := Try.prog) Try.results17 _ _ w.heap.size 27 _ (0, 0) _ rfl hE Try.underlying27 rfl (by kernel_rfl)) rfl
      ⟨⟨_, _, rfl, hO2⟩, hBl⟩
end Go.Proofs.Ytkdljhmenejckaa
