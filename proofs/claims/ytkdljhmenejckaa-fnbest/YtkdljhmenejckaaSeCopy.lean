/- Copies of sessions: impl.sessionCopy, impl.sessionsCopy. -/
import Derived.Test.YtkdljhmenejckaaSeRow
import Derived.Test.YtkdljhmenejckaaJoinWalks
import Derived.Deep.DeepFit
import Derived.OwnWalk
import Derived.Laws.AppendOwn
namespace Go.Proofs.Ytkdljhmenejckaa
set_option linter.unusedSimpArgs false
set_option linter.unusedVariables false
open Go.RowKit Go.Joins

theorem joined_one9 (s : ByteArray) (w : World) (hs : s.size ≤ 2000000) :
    Calls Try.prog 61 #[.slice (some ⟨w.heap.size, 0, none⟩) 1 1] (w.alloc (.cells #[.string s] 9)) fun e w' => e = .returned (.string s) ∧ Below w.heap.size w w' := by
  have h := impl_joined w.heap.size 1 [s] (w.alloc (.cells #[.string s] 9)) (by simp) (fun j hj => by
    have hj0 : j = 0 := by simp at hj; omega
    subst hj0
    exact (Arr.fresh w 9 [.string s]).cell 0) (by simp) (by rw [flat_one, size_data]; omega)
  rw [flat_one] at h
  exact h.mono fun e w' ⟨he, hb⟩ => ⟨by rw [he]; rfl, below_one hb⟩
theorem joined_at9 (s : ByteArray) (w : World) (hs : s.size ≤ 2000000) (b : Nat) (hb : w.heap.size = b) :
    Calls Try.prog 61 #[.slice (some ⟨b, 0, none⟩) 1 1] (w.alloc (.cells #[.string s] 9)) fun e w' => e = .returned (.string s) ∧ Below w.heap.size w w' := by
  subst hb
  exact joined_one9 s w hs
theorem arr9_on {w w1 : World} {b t : Nat} {cs : List Value} (h : Arr w b t cs) (hb : Below w.heap.size w w1) : Arr w1 b t cs := (hb.block b (Array.getElem?_eq_some_iff.1 h).1).trans h
theorem arr9_cells {w : World} {b t : Nat} {a0 a1 a2 a3 : Value} (h : Arr w b t [a0, a1, a2, a3]) : (w.cell? ⟨b, 0, none⟩ = some a0 ∧ w.cell? ⟨b, 1, none⟩ = some a1 ∧ w.cell? ⟨b, 2, none⟩ = some a2 ∧ w.cell? ⟨b, 3, none⟩ = some a3) ∧
    w.frozen? ⟨b, 0, none⟩ = false ∧ w.frozen? ⟨b, 1, none⟩ = false ∧ w.frozen? ⟨b, 2, none⟩ = false ∧ w.frozen? ⟨b, 3, none⟩ = false := ⟨⟨h.cell 0, h.cell 1, h.cell 2, h.cell 3⟩, h.free 0, h.free 1, h.free 2, h.free 3⟩
/-- The two boxes of sessionCopy. -/
def Cp9 (w W : World) (x : SeL) : Prop := Arr W w.heap.size 42 [.string x.r, .bool x.o, .int .i64 x.p, .string x.s] ∧ Arr W (w.heap.size + 1) 42 [.string ⟨#[]⟩, .bool false, .int .i64 0, .string ⟨#[]⟩] ∧ Below w.heap.size w W
theorem Cp9.on {w W W2 : World} {x : SeL} (h : Cp9 w W x) (hb : Below W.heap.size W W2) : Cp9 w W2 x := ⟨arr9_on h.1 hb, arr9_on h.2.1 hb, h.2.2.trans (hb.mono h.2.2.size)⟩
theorem cp9_start (w : World) (x : SeL) : Cp9 w ((w.alloc (.cells #[.string x.r, .bool x.o, .int .i64 x.p, .string x.s] 42)).alloc (.cells #[.string ⟨#[]⟩, .bool false, .int .i64 0, .string ⟨#[]⟩] 42)) x := by
  have h2 := Arr.fresh (w.alloc (.cells #[.string x.r, .bool x.o, .int .i64 x.p, .string x.s] 42)) 42 [.string ⟨#[]⟩, .bool false, .int .i64 0, .string ⟨#[]⟩]
  rw [World.size_alloc] at h2
  exact ⟨arr9_on (Arr.fresh w 42 [.string x.r, .bool x.o, .int .i64 x.p, .string x.s]) ((Below.refl _ _).alloc (Nat.le_refl _) _), h2, ((Below.refl _ _).alloc (Nat.le_refl _) _).alloc (by simp) _⟩
theorem Cp9.put0 {w W : World} {x : SeL} (h : Cp9 w W x) : Cp9 w (W.setCell ⟨w.heap.size, 0, none⟩ (.string x.r)) x :=
  ⟨h.1.put 0 _, (heap_setCell_other W ⟨w.heap.size, 0, none⟩ (w.heap.size + 1) _ (by show w.heap.size + 1 ≠ w.heap.size; omega)).trans h.2.1, h.2.2.setCell (p := ⟨w.heap.size, 0, none⟩) (Nat.le_refl _) _⟩
theorem Cp9.put3 {w W : World} {x : SeL} (h : Cp9 w W x) : Cp9 w (W.setCell ⟨w.heap.size, 3, none⟩ (.string x.s)) x :=
  ⟨h.1.put 3 _, (heap_setCell_other W ⟨w.heap.size, 3, none⟩ (w.heap.size + 1) _ (by show w.heap.size + 1 ≠ w.heap.size; omega)).trans h.2.1, h.2.2.setCell (p := ⟨w.heap.size, 3, none⟩) (Nat.le_refl _) _⟩
set_option maxRecDepth 100000 in
set_option maxHeartbeats 1000000 in
theorem impl_secopy (x : SeL) (w : World) (hr : x.r.size ≤ 1048576) (hs : x.s.size ≤ 1048576) : Calls Try.prog 98 #[seV x] w fun e w' => e = .returned (seV x) ∧ Below w.heap.size w w' := by
  have HS := Lib.hid (cp9_start w x)
  have i1 := fun W => joined_at9 x.r W (by omega)
  have i2 := fun W => joined_at9 x.s W (by omega)
  unfold seV
  clear hr hs
  go_enter Try.func98, Try.ntmps98
  go_wp2_with (first
    | (go_at_call 61; have _ := HS1; go_fit (i2 _ _ (by simp)); rintro e w2 ⟨rfl, hb⟩; have HS2 := Lib.hid (HS1.out.put0.on hb); clear hb; obtain ⟨⟨c0, c1, c2, c3⟩, f0, f1, f2, f3⟩ := arr9_cells HS2.out.1; obtain ⟨⟨d0, d1, d2, d3⟩, e0, e1, e2, e3⟩ := arr9_cells HS2.out.2.1)
    | (go_at_call 61; go_fit (i1 _ _ (by simp)); rintro e w1 ⟨rfl, hb⟩; have HS1 := Lib.hid (HS.out.on hb); clear hb; obtain ⟨⟨c0, c1, c2, c3⟩, f0, f1, f2, f3⟩ := arr9_cells HS1.out.1))
  have hE : Arr _ (w.heap.size + 1) 42 [.string x.r, .bool x.o, .int .i64 x.p, .string x.s] := (((HS2.out.put3.2.1.put 0 (.string x.r)).put 1 (.bool x.o)).put 2 (.int .i64 x.p)).put 3 (.string x.s)
  exact bodyPost_ret (v := .agg #[.string x.r, .bool x.o, .int .i64 x.p, .string x.s]) (results_cell_row (P := Try.prog) Try.results98 _ _ (w.heap.size + 1) 42 _ (0, 0) _ rfl hE Try.underlying42 rfl (by kernel_rfl)) rfl
    ⟨rfl, (((HS2.out.put3.2.2.setCell (p := ⟨w.heap.size + 1, 0, none⟩) (Nat.le_succ _) _).setCell (p := ⟨w.heap.size + 1, 1, none⟩) (Nat.le_succ _) _).setCell (p := ⟨w.heap.size + 1, 2, none⟩) (Nat.le_succ _) _).setCell (p := ⟨w.heap.size + 1, 3, none⟩) (Nat.le_succ _) _⟩
theorem info_sec : (Try.prog.info? 42).map (fun i => (i.zero, i.size, i.bytes)) = some (some (.agg #[.string ⟨#[]⟩, .bool false, .int .i64 0, .string ⟨#[]⟩]), 4, 48) := by kernel_rfl
/-- append(v, y) within the capacity. -/
theorem app_fitS (w : World) {ops : Array Oper} {rest : List Oper} {o : Oper} {a : Act} {Q : Exit → Act → World → Prop} (hgd : o.guard = none) (s x : Operand)
    (ho : o.op = Op.call { callee := Callee.builtin Builtin.append, args := #[s, x], argTypes := #[23, 23] })
    (B g k cap : Nat) (xs : List SeL) (hs : a.eval s = .slice (some ⟨g, 0, none⟩) k cap) (hown : OwnC seC w B 42 4 (.slice (some ⟨g, 0, none⟩) k cap) xs) (hk : xs.length = k) (b : Nat) (y : SeL) (hx : a.eval x = .slice (some ⟨b, 0, none⟩) 1 1) (hA : Arr w b 42 (seC y)) (hfit : k + 1 ≤ cap)
    (h : ∀ w', OwnC seC w' B 42 4 (.slice (some ⟨g, 0, none⟩) (k + 1) cap) (xs ++ [y]) → w.grownBy w' (some g) → wpList Try.prog ops Q rest (a.put o.dst (.slice (some ⟨g, 0, none⟩) (k + 1) cap)) w') : wpList Try.prog ops Q (o :: rest) a w := by
  obtain ⟨i0, hi, hz0, hz1, hz2⟩ := info_parts info_sec
  subst hk
  refine wpList_append_fits w hgd s x 23 ho B 42 i0 4 Try.underlying23 hi hz1 g xs.length cap (xs.flatMap seC) hs hown ⟨b, 0, none⟩ 1 1 (seC y) hx (by rw [seC_len]) (fun j u hj => ?_) (seC_one y) hfit (fun w' h1 h2 => h w' ?_ h2)
  · rw [show (⟨b, 0, none⟩ : Addr).add j = ⟨b, j, none⟩ by unfold Addr.add; split <;> simp_all, hA.cell]
    exact hj
  · unfold OwnC
    rw [List.length_append, List.flatMap_append]
    simpa using h1
set_option maxRecDepth 100000 in
set_option maxHeartbeats 1000000 in
theorem impl_sescopy (xs : List SeL) (p : Option Addr) (c : Nat) (w : World) (hn : xs.length ≤ 1048576) (hw : ∀ x ∈ xs, x.r.size ≤ 1048576 ∧ x.s.size ≤ 1048576) (hR : RowC seC 4 w p xs) :
    Calls Try.prog 60 #[.slice p xs.length c] w fun e w' => (e = .returned (.slice (some ⟨w.heap.size, 0, none⟩) xs.length xs.length) ∧ OwnC seC w' w.heap.size 42 4 (.slice (some ⟨w.heap.size, 0, none⟩) xs.length xs.length) xs) ∧ Below w.heap.size w w' := by
  obtain ⟨n, hxn⟩ : ∃ n, xs.length = n := ⟨_, rfl⟩
  have HP := Lib.hid (fun W (h : Below w.heap.size w W) => hR.on h)
  have HW := Lib.hid hw
  have HN := Lib.hid hxn
  rw [hxn] at hn ⊢
  clear hR hw hxn
  obtain ⟨i0, hi, hz0, hz1, hz2⟩ := info_parts info_sec
  go_enter Try.func60, Try.ntmps60
  go_wp2_with (refine wpList_make_own _ rfl _ _ 23 rfl w.heap.size 42 i0 _ 4 Try.underlying23 hi hz0 hz1 .i64 .i64 _ n rfl rfl rfl (by rw [hz2]; omega) (by unfold maxLen; omega) (Nat.le_refl _) ?_; intro w1 ho1 hg1)
  have HV1 : Hid (OwnC seC w1 w.heap.size 42 4 (.slice (some ⟨w.heap.size, 0, none⟩) 0 n) []) := Lib.hid ho1
  have HB1 : Hid (Below w.heap.size w w1) := Lib.hid ((Below.refl _ _).grown hg1 (Nat.le_refl _) (fun k hk => by cases hk))
  clear ho1 hg1
  go_loopw [3, 10] (fun sq iq wr => ∃ k : Nat, k ≤ n ∧ iq = .int .i64 k ∧ sq = .slice (some ⟨w.heap.size, 0, none⟩) k n ∧ OwnC seC wr w.heap.size 42 4 (.slice (some ⟨w.heap.size, 0, none⟩) k n) (xs.take k) ∧ Below w.heap.size w wr) (fun _ i _ => n - (intOf i).toNat)
  case atStart => exact ⟨0, Nat.zero_le _, rfl, rfl, HV1.out, HB1.out⟩
  case round =>
    obtain ⟨k, hk, rfl, rfl, hv, hb⟩ := hrel
    have HV := Lib.hid hv
    have HB := Lib.hid hb
    clear hv
    by_cases hlt : k < n
    · have hlt1 : k < xs.length := by rw [HN.out]; exact hlt
      obtain ⟨g, rfl, hg, a0, a1, a2, a3⟩ := row_se4 (HP.out _ hb) hlt1
      have hxw := HW.out _ (List.getElem_mem hlt1)
      obtain ⟨x, hx⟩ : ∃ x, xs[k] = x := ⟨_, rfl⟩
      rw [hx] at a0 a1 a2 a3 hxw
      have i3 := fun W => impl_secopy x W hxw.1 hxw.2
      unfold seV at i3
      have HT : Hid (xs.take (k + 1) = xs.take k ++ [x]) := Lib.hid (by rw [List.take_succ_eq_append_getElem hlt1, hx])
      have HL : Hid ((xs.take k).length = k) := Lib.hid (by rw [List.length_take]; omega)
      clear hb hx hxw
      go_wp2_with (first
        | (at_builtin; have _ := HV2; refine app_fitS _ rfl _ _ rfl w.heap.size w.heap.size k n _ rfl (HV2.out.alloc _) HL.out w2.heap.size x rfl (Arr.fresh w2 42 (seC x)) (by omega) ?_; intro w3 hv3 hg3; have HV3 := Lib.hid hv3; have HG3 := Lib.hid hg3; clear hv3 hg3)
        | (go_at_call 98; go_fit (i3 _); rintro e w2 ⟨rfl, hb2⟩; have HV2 := Lib.hid (HV.out.on hb2); have HB2 := Lib.hid (HB.out.trans (hb2.mono HB.out.size)); clear hb2))
      go_roundw
      case rel => exact ⟨k + 1, by omega, by go_num, rfl, by rw [HT.out]; exact HV3.out, (HB2.out.alloc HB2.out.size _).grown HG3.out (HB2.out.alloc HB2.out.size _).size (fun k hk => by injection hk with hk; omega)⟩
      case measure => simp [intOf]; omega
    · obtain rfl : k = n := by omega
      have HT : Hid (xs.take k = xs) := Lib.hid (List.take_of_length_le (by rw [HN.out]; exact Nat.le_refl _))
      clear hb
      go_wp2
      go_ret
      exact ⟨⟨rfl, by have := HV.out; rw [HT.out] at this; exact this⟩, HB.out⟩
end Go.Proofs.Ytkdljhmenejckaa
