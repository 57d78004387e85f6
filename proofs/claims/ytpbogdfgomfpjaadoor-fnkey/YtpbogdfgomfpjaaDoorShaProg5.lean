/- The program's hash in progress: a part taken in, its end. -/
import Derived.Test.YtpbogdfgomfpjaaDoorShaMath2
namespace Go.Proofs.YtpbogdfgomfpjaaDoor
open Go.RowKit

def sizeV : Value → Nat
  | .string r => r.size
  | _ => 0
theorem slice_at (g o : Nat) (ho : (o : Int) < 64) (W : World) : (Instr.sliceAt 128 (.pointer (some ⟨g, 8, none⟩)) (some (.int .i64 (o : Int))) none none).run Tryd.prog W = .ok (.slice (some ⟨g, 8 + o, none⟩) (64 - o) (64 - o)) W := by
  have hl : Tryd.prog.arrayLen 128 = 64 := by kernel_rfl
  have he : Tryd.prog.elem 128 = 5 := by kernel_rfl
  have ht : Tryd.prog.underlying 128 = some (.array (Tryd.prog.arrayLen 128) (Tryd.prog.elem 128)) := by rw [hl, he]; exact Tryd.underlying128
  obtain ⟨i0, hi, hz0, hz1, hz2⟩ := info_parts info_u8s
  rw [run_sliceAt_array_l (P := Tryd.prog) W 128 ⟨g, 8, none⟩ ht .i64 (o : Int) (by omega) (by rw [hl]; omega), he, hl]
  simp [sizeOf, typeInfo, hi, hz1, slicedAt, Addr.add]
  rw [if_neg (by omega)]
  split
  · simp [*]
  · rfl
/-- Cells from the middle of a block are read, in a region whose head only reads. -/
theorem wpStill_load_mid {P : Program} {ops : Array Oper} {rest : List Oper} {op : Oper} {a : Act} {w : World} {Q : Act → Prop} (hw : Region.wanted op (yielded ops a.tmps) = true) (ty : TypeId) (x : Operand) (ho : op.op = .load ty x)
    (b o : Nat) (hx : a.eval x = .pointer (some ⟨b, o, none⟩)) (cs : List Value) (d : TypeDesc) (hc : w.rangeAt b o cs)
    (hu : P.underlying ty = some d) (hd : d.isRow = true) (hi : (P.info? ty).map (·.size) = some cs.length)
    (h : wpStill P ops w Q rest (a.put op.dst (.agg cs.toArray))) : wpStill P ops w Q (op :: rest) a := by
  unfold wpStill
  rw [if_pos hw]
  unfold Oper.still execOp
  simp only [ho, hx, Instr.loadAt, Instr.sureAddr, Sem.run_bind, Sem.run_pure, Result.andThen_ok, run_loadVar_mid w b o ty cs d hc hu hd hi]
  exact ⟨rfl, h⟩
theorem hc_range {w : World} {g : Nat} {T : Sha} {B : List UInt8} {n : Nat} (h : Arr w g 130 (hashCells T B n)) : w.rangeAt g 8 (byteCs B) := fun j v hv => by
  have hj : j < (byteCs B).length := (List.getElem?_eq_some_iff.1 hv).1
  rw [h.cell]
  unfold hashCells
  rw [List.getElem?_append_right (by show 8 ≤ 8 + j; omega), List.getElem?_append_left (by show 8 + j - 8 < _; unfold byteCs at hj; omega)]
  have e : 8 + j - T.cells.length = j := by show 8 + j - 8 = j; omega
  rw [e]
  exact hv
theorem KeysAt.grown {w w' : World} {g : Nat} (h : KeysAt w) (hg : w.grownBy w' (some g)) (h2 : 8 ≤ g) : KeysAt w' := fun k hk => hg.cell (h k hk) (by show some 7 ≠ some g; intro e; have := Option.some.inj e; omega)
theorem grown_row {a w : World} {g : Nat} (h : a.grownBy w (some g)) (c : Array Value) : a.grownBy (w.setRow g c) (some g) :=
  grown_trans h ⟨rfl, rfl, rfl, by simp, fun i _ hi => setRow_other w g i c (fun e => hi (by rw [e]))⟩
theorem sha_grown_drew {a w : World} {g : Nat} (h : a.grownBy w (some g)) : a.grownBy w.drew (some g) := ⟨h.os, h.tape, h.output, h.size, h.block⟩
theorem grown_cell {a w : World} {g k : Nat} {v : Value} (h : a.grownBy w (some g)) : a.grownBy (w.setCell ⟨g, k, none⟩ v) (some g) :=
  grown_trans h ⟨rfl, rfl, rfl, by simp [World.setCell], fun i _ hi => Below.heap_setCell _ _ _ _ (fun e => hi (by rw [e]))⟩
theorem grown_self (w : World) (r : Option Nat) : w.grownBy w r := ⟨rfl, rfl, rfl, Nat.le_refl _, fun _ _ _ => rfl⟩

set_option maxRecDepth 100000 in
set_option maxHeartbeats 1000000 in
theorem impl_write (g : Nat) (P : List UInt8) (t : ByteArray) (w : World) (hM : Mid w g P) (hK : KeysAt w) (hg : 8 ≤ g) (hn : P.length + t.size ≤ 1000000) :
    Calls Tryd.prog 104 #[.pointer (some ⟨g, 0, none⟩), .string t] w fun e w' => e = .returned (.tuple #[]) ∧ Mid w' g (P ++ t.data.toList) ∧ w.grownBy w' (some g) := by
  have HM := Lib.hid hM
  have HK := Lib.hid hK
  have htl : t.data.toList.length = t.size := by rw [Array.length_toList]; rfl
  have HTL := Lib.hid htl
  clear hM hK htl
  go_enter Tryd.func104, Tryd.ntmps104
  go_wp2
  go_loopw [1] (fun u wr => ∃ (k : Nat) (r : ByteArray), u = .string r ∧ k ≤ t.size ∧ r.data.toList = t.data.toList.drop k ∧ Mid wr g (P ++ t.data.toList.take k) ∧ w.grownBy wr (some g)) (fun u _ => sizeV u)
  case atStart => exact ⟨0, t, rfl, by omega, rfl, by rw [List.take_zero, List.append_nil]; exact HM.out, grown_self _ _⟩
  case round =>
    clear HM
    obtain ⟨k, r, rfl, hk, hr, hM, hgr⟩ := hrel
    have hrl : r.size = t.size - k := by
      have h1 : r.data.toList.length = r.size := by rw [Array.length_toList]; rfl
      rw [← h1, hr, List.length_drop, HTL.out]
    by_cases h0 : 0 < r.size
    · obtain ⟨Q, hQ⟩ : ∃ Q, Q = P ++ t.data.toList.take k := ⟨_, rfl⟩
      have hQl : Q.length = P.length + k := by rw [hQ, List.length_append, List.length_take, HTL.out]; omega
      rw [← hQ] at hM
      obtain ⟨B, hB, hT, hA⟩ := hM
      obtain ⟨o, ho⟩ : ∃ o, o = Q.length % 64 := ⟨_, rfl⟩
      obtain ⟨m, hm⟩ : ∃ m, m = Nat.min r.size (64 - o) := ⟨_, rfl⟩
      have hom : m ≤ r.size ∧ o + m ≤ 64 ∧ 0 < m ∧ o < 64 := by
        have h1 : m = min r.size (64 - o) := hm
        omega
      have hlm : (r.data.toList.take m).length = m := by rw [List.length_take, Array.length_toList]; have : r.data.size = r.size := rfl; omega
      have hcp := fun (W : World) (ty : Nat) (h : Arr W g 130 (hashCells (shaMany Q (Q.length / 64)) B Q.length)) => copy_some (ty := ty) g (8 + o) (64 - o) m r _ h hm (by rw [hc_len _ hB]; omega)
      have hcc := hc_copy (shaMany Q (Q.length / 64)) (l := r.data.toList.take m) (o := o) hB Q.length (by rw [hlm]; omega)
      rw [hlm] at hcc
      rw [hcc] at hcp
      have HA := Lib.hid hA
      have HB := Lib.hid hB
      have HT := Lib.hid hT
      have HCP := Lib.hid hcp
      have HQ := Lib.hid hQ
      have HLM := Lib.hid hlm
      have HR := Lib.hid hr
      have ho2 := ho
      have HO := Lib.hid ho
      have HM := Lib.hid hm
      have hsz : wr.cell? ⟨g, 72, none⟩ = some (.int .i64 (Q.length : Int)) := (hA.cell 72).trans (hc_size _ hB _)
      have hsl := slice_at g o (by omega)
      have hrem : (Q.length : Int) % 64 = (o : Int) := by rw [ho]; omega
      have hrem2 : (Q.length : Int).tmod 64 = (o : Int) := by rw [Int.tmod_eq_emod_of_nonneg (by omega)]; exact hrem
      have hql : (Q.length : Int) ≤ 1000000 := by omega
      have hrb : (r.size : Int) ≤ 1000000 := by omega
      have HRL := Lib.hid hrl
      have hNm : Q.length + m ≤ 1000000 := by omega
      clear hA hB hT hcp hQ hlm hr ho ho2 hm hcc hQl hrl
      obtain ⟨N, hN⟩ : ∃ N, N = Q.length := ⟨_, rfl⟩
      rw [← hN] at hsz hrem hrem2 hql HA HCP hNm
      have HN := Lib.hid hN
      clear hN
      go_wp2
      refine wp_region_still_tail 10 (by kernel_rfl) (by kernel_rfl) ?_
      simp only [List.take_succ_cons, List.take_zero, List.drop_succ_cons, List.drop_zero]
      change wpStill _ _ wr.drew _ _ _
      repeat still_step
      refine wpStill_nil ?_
      change wpList _ _ _ _ _ wr.drew
      obtain ⟨W1, hW1⟩ : ∃ W1, W1 = wr.drew := ⟨_, rfl⟩
      rw [← hW1]
      have HA1 : Hid (Arr W1 g 130 (hashCells (shaMany Q (N / 64)) B N)) := by rw [hW1]; exact HA
      have HG1 : Hid (w.grownBy W1 (some g)) := by rw [hW1]; exact sha_grown_drew hgr
      clear hW1 HA hgr hsz
      have hcp := fun ty => HCP.out W1 ty HA1.out
      obtain ⟨B2, hB2⟩ : ∃ B2, B2 = B.take o ++ r.data.toList.take m ++ B.drop (o + m) := ⟨_, rfl⟩
      obtain ⟨T, hTT⟩ : ∃ T, T = shaMany Q (N / 64) := ⟨_, rfl⟩
      rw [← hB2, ← hTT] at hcp
      rw [← hTT] at HA1
      have HB2 := Lib.hid hB2
      have HTT := Lib.hid hTT
      clear hB2 hTT HCP
      have HA2 : Hid (Arr (W1.setRow g (hashCells T B2 N).toArray) g 130 (hashCells T B2 N)) := setRow_heap _ _ _ _ _ _ HA1.out
      have HG2 := Lib.hid (grown_row HG1.out (hashCells T B2 N).toArray)
      obtain ⟨W2, hW2⟩ : ∃ W2, W2 = W1.setRow g (hashCells T B2 N).toArray := ⟨_, rfl⟩
      rw [← hW2] at hcp HA2 HG2
      clear hW2
      have hB2l : B2.length = 64 := by
        rw [HB2.out, List.length_append, List.length_append, HLM.out, List.length_take, List.length_drop, HB.out]
        omega
      have HB2l := Lib.hid hB2l
      have hsz := (HA2.out.cell 72).trans (hc_size T hB2l N)
      have hfz := HA2.out.free 72
      clear hB2l
      have HL : Hid (Q ++ r.data.toList.take m = P ++ t.data.toList.take (k + m)) := by
        show _ = _
        rw [HQ.out, HR.out, List.append_assoc, ← List.take_add]
      have HE : Hid ((r.extract m r.size).data.toList = t.data.toList.drop (k + m)) := by
        show _ = _
        rw [Lib.extract_to_end, HR.out, List.drop_drop]
      have HSZ : Hid ((r.extract m r.size).size < r.size) := by
        show _ < _
        rw [ByteArray.size_extract]
        omega
      have hQm : (Q ++ r.data.toList.take m).length = N + m := by rw [List.length_append, HLM.out, HN.out]
      have HQm := Lib.hid hQm
      clear hQm
      by_cases hfull : o + m = 64
      · have hd : (((N : Int) + (m : Int)) % 64 == 0) = true := by
          rw [beq_iff_eq]
          omega
        obtain ⟨h1, h2, h3⟩ := mid_full (l := r.data.toList.take m) HB.out HT.out (by rw [HLM.out, ← HO.out]; exact hfull)
        rw [HLM.out, ← HO.out, ← HB2.out] at h1 h2 h3
        rw [← HN.out, ← HTT.out] at h3
        have H2 := Lib.hid h2
        have H3 := Lib.hid h3
        clear h1 h2 h3
        go_wp2
        have HA3 : Hid (Arr (W2.setCell ⟨g, 72, none⟩ (.int .i64 ((N : Int) + (m : Int)))) g 130 (hashCells T B2 (N + m))) := by
          show Arr _ _ _ _
          rw [← hc_put T HB2l.out N (N + m) (z := (N : Int) + (m : Int)) (by omega)]
          exact HA2.out.put 72 _
        have HG3 := Lib.hid (grown_cell (k := 72) (v := .int .i64 ((N : Int) + (m : Int))) HG2.out)
        obtain ⟨W3, hW3⟩ : ∃ W3, W3 = W2.setCell ⟨g, 72, none⟩ (.int .i64 ((N : Int) + (m : Int))) := ⟨_, rfl⟩
        rw [← hW3] at HA3 HG3 ⊢
        clear hW3 hcp hsz hfz
        refine wp_region_still_tail 7 (by kernel_rfl) (by kernel_rfl) ?_
        simp only [List.take_succ_cons, List.take_zero, List.drop_succ_cons, List.drop_zero]
        change wpStill _ _ W3.drew _ _ _
        still_step
        still_step
        still_step
        still_step
        still_step
        still_step
        refine wpStill_load_mid (by kernel_rfl) 128 _ rfl g 8 rfl (byteCs B2) _ (hc_range (w := W3) HA3.out) Tryd.underlying128 rfl (by unfold byteCs; rw [List.length_map, HB2l.out]; exact size_b64) ?_
        refine wpStill_nil ?_
        change wpList _ _ _ _ _ W3.drew
        have HA4 : Hid (Arr W3.drew g 130 (hashCells T B2 (N + m))) := HA3
        have HG4 := Lib.hid (sha_grown_drew HG3.out)
        obtain ⟨W4, hW4⟩ : ∃ W4, W4 = W3.drew := ⟨_, rfl⟩
        rw [← hW4] at HA4 HG4 ⊢
        clear hW4
        go_wp2_with (first
          | (go_at_call 114; refine (impl_mix g 130 T _ B2 HB2l.out _ HA4.out (HK.out.grown HG4.out hg) hg).mono ?_; rintro e W5 ⟨rfl, hA5, hG5⟩; have HA5 := Lib.hid hA5; have HG5 := Lib.hid hG5; clear hA5 hG5))
        go_roundw
        case rel =>
          refine ⟨k + m, _, rfl, by have := HRL.out; omega, HE.out, ?_, grown_trans HG4.out HG5.out⟩
          rw [← HL.out]
          refine ⟨B2, HB2l.out, H2.out, ?_⟩
          rw [H3.out, HQm.out]
          exact HA5.out
        case measure => exact HSZ.out
      · have hd : (((N : Int) + (m : Int)) % 64 == 0) = false := by
          rw [beq_eq_false_iff_ne]
          omega
        obtain ⟨h1, h2, h3⟩ := mid_part (l := r.data.toList.take m) HB.out HT.out (by rw [HLM.out, ← HO.out]; omega)
        rw [HLM.out, ← HO.out, ← HB2.out] at h1 h2
        rw [← HN.out, ← HTT.out] at h3
        have HM3 : Hid (Mid (W2.setCell ⟨g, 72, none⟩ (.int .i64 ((N : Int) + (m : Int)))) g (P ++ t.data.toList.take (k + m))) := by
          show Mid _ _ _
          rw [← HL.out]
          refine ⟨B2, h1, h2, ?_⟩
          rw [h3, HQm.out, ← hc_put T HB2l.out N (N + m) (z := (N : Int) + (m : Int)) (by omega)]
          exact HA2.out.put 72 _
        clear h1 h2 h3
        go_wp2
        go_roundw
        case rel => exact ⟨k + m, _, rfl, by have := HRL.out; omega, HE.out, HM3.out, grown_cell HG2.out⟩
        case measure => exact HSZ.out
    · have hr0 : r.size = 0 := by omega
      have hkt : k = t.size := by omega
      subst hkt
      rw [List.take_of_length_le (by have := HTL.out; omega)] at hM
      have HMM := Lib.hid hM
      clear hM hr hrl h0
      go_wp2
      go_end0
      exact ⟨rfl, HMM.out, hgr⟩

theorem padded_pad (s : ByteArray) : padded s = s.data.toList ++ padL s.size := by
  unfold padded padL
  simp only [List.append_assoc]
theorem padL_len (n : Nat) : (padL n).length = padZ n + 9 := by
  unfold padL
  simp [eightL]
theorem padded_whole (s : ByteArray) : (padded s).length % 64 = 0 := by
  have := padded_len s
  have := padZ_ok s.size
  omega

theorem Mid.below {B : Nat} {w w' : World} {g : Nat} {P : List UInt8} (h : Mid w g P) (hb : Below B w w') (hg : g < B) : Mid w' g P := by
  obtain ⟨b, h1, h2, h3⟩ := h
  exact ⟨b, h1, h2, h3.below hb hg⟩
theorem hdL8_all (T : Sha) : hdL8 T 8 = T.words.flatMap wordL := rfl
theorem mid_done {w : World} {g : Nat} {s : ByteArray} (h : Mid w g (s.data.toList ++ (strOf (padL s.size)).data.toList)) :
    ∃ (T : Sha) (rest : List Value), Arr w g 130 (T.cells ++ rest) ∧ hdL8 T 8 = shaL s := by
  rw [strOf_data, ← padded_pad] at h
  obtain ⟨B, _, _, hA⟩ := h
  exact ⟨_, _, hA, rfl⟩

set_option maxRecDepth 100000 in
set_option maxHeartbeats 1000000 in
theorem impl_finish (g : Nat) (s : ByteArray) (w : World) (hM : Mid w g s.data.toList) (hK : KeysAt w) (hg : 8 ≤ g) (hn : s.size ≤ 900000) :
    Calls Tryd.prog 105 #[.pointer (some ⟨g, 0, none⟩)] w fun e w' => e = .returned (.string (strOf (shaL s))) ∧ w.grownBy w' (some g) := by
  have hl : s.data.toList.length = s.size := by rw [Array.length_toList]; rfl
  have HM := Lib.hid hM
  have HK := Lib.hid hK
  obtain ⟨B, hB, hT, hA⟩ := hM
  have hgl : g < w.heap.size := lt_cell (i := 72) ((hA.cell 72).trans (hc_size _ hB _))
  have hsz : w.cell? ⟨g, 72, none⟩ = some (.int .i64 (s.size : Int)) := by rw [← hl]; exact (hA.cell 72).trans (hc_size _ hB _)
  have hnz : (s.size : Int) ≤ 900000 := by omega
  have HBD : Hid (s.data.toList.length + (strOf (padL s.size)).size ≤ 1000000) := by
    show _ ≤ _
    have := (padZ_ok s.size).2
    rw [hl, strOf_size, padL_len]
    omega
  clear hA hB hT hK hl
  go_enter Tryd.func105, Tryd.ntmps105
  go_wp2_with (first
    | (go_at_call 115; refine (impl_padding s.size (by omega) _).mono ?_; rintro e w1 ⟨rfl, hb1⟩; have HB1 := Lib.hid hb1; clear hb1)
    | (go_at_call 104; refine (impl_write g s.data.toList (strOf (padL s.size)) w1 (HM.out.below HB1.out hgl) (HK.out.below HB1.out (by omega)) hg HBD.out).mono ?_; rintro e w2 ⟨rfl, hM2, hG2⟩; have HG2 := Lib.hid hG2; obtain ⟨T, rest, hA2, hT2⟩ := mid_done hM2; have HA2 := Lib.hid hA2; have HT2 := Lib.hid hT2; clear hM2 hG2 hA2 hT2)
    | (go_at_call 116; refine (impl_text8 g 130 T rest w2 HA2.out).mono ?_; rintro e w3 ⟨rfl, hb3⟩; have HB3 := Lib.hid hb3; clear hb3))
  go_ret
  exact ⟨ret_str (by rw [HT2.out]), grown_trans (grown_belowS HB1.out) (grown_trans HG2.out (grown_belowS HB3.out))⟩

/-- The table of the first state lies in its variable. -/
def FirstAt (w : World) : Prop := w.rangeAt 4 0 shaInit.cells
theorem FirstAt.below {B : Nat} {w w' : World} (h : FirstAt w) (hb : Below B w w') (hB : 8 ≤ B) : FirstAt w' := fun j v hv => (hb.cell (p := ⟨4, 0 + j, none⟩) (by show 4 < B; omega)).trans (h j v hv)
/-- The bytes of some strings, one behind the other. -/
def flatB (ss : List ByteArray) : List UInt8 := ss.flatMap (·.data.toList)
theorem flatB_succ (ss : List ByteArray) (k : Nat) (h : k < ss.length) : flatB (ss.take (k + 1)) = flatB (ss.take k) ++ ss[k].data.toList := by
  unfold flatB
  rw [List.take_succ_eq_append_getElem h, List.flatMap_append]
  simp only [List.flatMap_cons, List.flatMap_nil, List.append_nil]
theorem flatB_le (ss : List ByteArray) (k : Nat) : (flatB (ss.take k)).length ≤ (flatB ss).length := by
  have e : flatB ss = flatB (ss.take k) ++ flatB (ss.drop k) := by
    unfold flatB
    rw [← List.flatMap_append, List.take_append_drop]
  rw [e]; simp
/-- A struct or array that is built, its cells named. -/
theorem wpList_build' {P : Program} {ops : Array Oper} {rest : List Oper} {o : Oper} {a : Act} {w : World} {Q : Exit → Act → World → Prop} (hg : o.guard = none) (t : TypeId) (parts : Array (Nat × Operand)) (ho : o.op = .build t parts)
    (cells : Array Value) (hf : P.built t (parts.map fun (i, x) => (i, a.eval x)).toList = some cells)
    (h : wpList P ops Q rest (a.put o.dst (.agg cells)) w) : wpList P ops Q (o :: rest) a w :=
  wpList_build hg t parts ho (by rw [hf]; rfl) (by rw [hf]; exact h)
def zero73 : Array Value := #[.int .u32 0, .int .u32 0, .int .u32 0, .int .u32 0, .int .u32 0, .int .u32 0, .int .u32 0, .int .u32 0, .int .u8 0, .int .u8 0, .int .u8 0, .int .u8 0, .int .u8 0, .int .u8 0, .int .u8 0, .int .u8 0, .int .u8 0, .int .u8 0, .int .u8 0, .int .u8 0, .int .u8 0, .int .u8 0, .int .u8 0, .int .u8 0, .int .u8 0, .int .u8 0, .int .u8 0, .int .u8 0, .int .u8 0, .int .u8 0, .int .u8 0, .int .u8 0, .int .u8 0, .int .u8 0, .int .u8 0, .int .u8 0, .int .u8 0, .int .u8 0, .int .u8 0, .int .u8 0, .int .u8 0, .int .u8 0, .int .u8 0, .int .u8 0, .int .u8 0, .int .u8 0, .int .u8 0, .int .u8 0, .int .u8 0, .int .u8 0, .int .u8 0, .int .u8 0, .int .u8 0, .int .u8 0, .int .u8 0, .int .u8 0, .int .u8 0, .int .u8 0, .int .u8 0, .int .u8 0, .int .u8 0, .int .u8 0, .int .u8 0, .int .u8 0, .int .u8 0, .int .u8 0, .int .u8 0, .int .u8 0, .int .u8 0, .int .u8 0, .int .u8 0, .int .u8 0, .int .i64 0]
theorem zero_hash (w : World) : (zeroValue 130).run Tryd.prog w = .ok (.agg zero73) w := by kernel_rfl
theorem mid_new {w : World} {g : Nat} (h : Arr w g 130 (hashCells shaInit (List.replicate 64 0) 0)) : Mid w g [] := ⟨List.replicate 64 0, rfl, rfl, h⟩

set_option maxRecDepth 100000 in
set_option maxHeartbeats 1000000 in
theorem impl_hashed (b c : Nat) (ss : List ByteArray) (w : World) (hb : b < w.heap.size) (hc : ∀ j (h : j < ss.length), w.cell? ⟨b, j, none⟩ = some (.string ss[j])) (hlen : ss.length ≤ 1000)
    (htot : (flatB ss).length ≤ 900000) (hK : KeysAt w) (hF : FirstAt w) (hw2 : 8 ≤ w.heap.size) :
    Calls Tryd.prog 94 #[.slice (some ⟨b, 0, none⟩) ss.length c] w fun e w' => e = .returned (.string (strOf (shaL (strOf (flatB ss))))) ∧ Below w.heap.size w w' := by
  have HC := Lib.hid hc
  have HK := Lib.hid hK
  have HF := Lib.hid hF
  clear hc hK hF
  have hzv := zero_hash
  go_enter Tryd.func94, Tryd.ntmps94
  go_wp2_with (first
    | (refine wpList_load_mid rfl 126 _ rfl 4 0 rfl shaInit.cells _ HF.out Tryd.underlying126 rfl (by kernel_rfl) ?_)
    | (refine wpList_build' rfl 130 _ rfl (hashCells shaInit (List.replicate 64 0) 0).toArray (by kernel_rfl) ?_)
    | (refine wpList_store_row' rfl 130 _ _ rfl w.heap.size _ rfl rfl 130 _ (heap_alloc_new w _) (by kernel_rfl) (by kernel_rfl) (by kernel_rfl) ?_
       intro W hW
       have HM := Lib.hid (mid_new (arr_row hW))
       have HB := Lib.hid (below_row (Below.refl w.heap.size w) (Nat.le_refl _) hW)
       clear hW))
  go_loopw [10] (fun i wr => ∃ k : Nat, i = .int .i64 (k : Int) ∧ k ≤ ss.length ∧ Mid wr w.heap.size (flatB (ss.take k)) ∧ Below w.heap.size w wr) (fun i _ => ss.length - (intOf i).toNat)
  case atStart => exact ⟨0, rfl, Nat.zero_le _, HM.out, HB.out⟩
  case round =>
    clear HM HB
    obtain ⟨k, rfl, hk, hM, hbel⟩ := hrel
    by_cases hlt : k < ss.length
    · have hcell := (hbel.cell (p := ⟨b, k, none⟩) hb).trans (HC.out k hlt)
      have HS := Lib.hid (flatB_succ ss k hlt)
      have HLE := Lib.hid (flatB_le ss (k + 1))
      obtain ⟨x, hx⟩ : ∃ x, x = ss[k] := ⟨_, rfl⟩
      rw [← hx] at hcell HS
      clear hx
      have hle : (flatB (ss.take k)).length + x.size ≤ 1000000 := by
        have h1 := HLE.out
        have h2 : x.data.toList.length = x.size := by rw [Array.length_toList]; rfl
        rw [HS.out, List.length_append, h2] at h1
        omega
      have HLE2 := Lib.hid hle
      have HM := Lib.hid hM
      have HKr := Lib.hid (HK.out.below hbel hw2)
      clear hM hle
      have q1 : (k : Int) < (ss.length : Int) := by omega
      go_wp2_with (first
        | (go_at_call 104; refine (impl_write w.heap.size (flatB (ss.take k)) x _ HM.out HKr.out hw2 HLE2.out).mono ?_; rintro e w2 ⟨rfl, hM2, hG2⟩; have HG2 := Lib.hid hG2; have HM2 := Lib.hid hM2; clear hM2 hG2))
      go_roundw
      case rel => exact ⟨k + 1, by go_num, by omega, by rw [HS.out]; exact HM2.out, hbel.grown HG2.out hbel.size (fun j hj => by have := Option.some.inj hj; omega)⟩
      case measure => simp [intOf]; omega
    · have hk' : k = ss.length := by omega
      subst hk'
      clear hlt hk
      rw [List.take_length] at hM
      have HM : Hid (Mid wr w.heap.size (strOf (flatB ss)).data.toList) := by rw [strOf_data]; exact hM
      have HKr := Lib.hid (HK.out.below hbel hw2)
      have HSZ : Hid ((strOf (flatB ss)).size ≤ 900000) := by show _ ≤ _; rw [strOf_size]; exact htot
      clear hM
      go_wp2_with (first
        | (go_at_call 105; refine (impl_finish w.heap.size (strOf (flatB ss)) _ HM.out HKr.out hw2 HSZ.out).mono ?_; rintro e w2 ⟨rfl, hG2⟩; have HG2 := Lib.hid hG2; clear hG2))
      go_ret
      exact ⟨rfl, hbel.grown HG2.out hbel.size (fun j hj => by have := Option.some.inj hj; omega)⟩
end Go.Proofs.YtpbogdfgomfpjaaDoor
