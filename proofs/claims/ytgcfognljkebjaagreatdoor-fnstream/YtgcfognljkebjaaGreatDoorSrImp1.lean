/- What strconv.ParseInt and impl.withField answer. -/
import Derived.Test.YtgcfognljkebjaaGreatDoorSrMath
import Derived.Test.YtgcfognljkebjaaGreatDoorSrSpec2
namespace Go.Proofs.YtgcfognljkebjaaGreatDoor
set_option linter.unusedSimpArgs false
set_option linter.unusedVariables false
open Go.RowKit Go.Joins

/-- The library's two error variables hold interface values. -/
def ErrV (w : World) : Prop := (∃ ev, w.cell? ⟨6, 0, none⟩ = some ev ∧ (ev = .nilIface ∨ ∃ te pe, ev = .iface te pe)) ∧ (∃ ev, w.cell? ⟨7, 0, none⟩ = some ev ∧ (ev = .nilIface ∨ ∃ te pe, ev = .iface te pe))
theorem ErrV.below {w w' : World} (h : ErrV w) (hb : Below w.heap.size w w') : ErrV w' := by
  obtain ⟨⟨e1, h1, h1'⟩, e2, h2, h2'⟩ := h
  exact ⟨⟨e1, (hb.cell (p := ⟨6, 0, none⟩) (lt_of_cellJ h1)).trans h1, h1'⟩, e2, (hb.cell (p := ⟨7, 0, none⟩) (lt_of_cellJ h2)).trans h2, h2'⟩
theorem impl_num (s : ByteArray) (w : World) (hs : s.size ≤ 2000000) (hE : ErrV w) :
    Calls Tryz.prog 111 #[.string s, .int .i64 10, .int .i64 64] w fun e w' => (∃ r, e = .returned (.tuple #[.int .i64 (numI s.data.toList), r])) ∧ Below w.heap.size w w' := by
  obtain ⟨⟨e1, h1, h1'⟩, e2, h2, h2'⟩ := hE
  cases hp : Lib.parseIntB 64 s.data.toList with
  | ok v =>
    refine (Tryz.strconv_ParseInt_10_at64_ok s (by omega) v hp w).mono ?_
    rintro e w' ⟨rfl, h⟩
    refine ⟨⟨_, by unfold numI; rw [hp]⟩, ?_⟩
    rcases h with rfl | ⟨t, rfl⟩
    · exact Below.refl _ _
    · exact Joins.below_bytesWorld _ w _ t (Nat.le_refl _)
  | «syntax» =>
    refine (Tryz.strconv_ParseInt_10_at64_syntax s (by omega) hp e1 w h1 h1').mono ?_
    rintro e w' ⟨N, rfl, _, _, hb⟩
    exact ⟨⟨_, by unfold numI; rw [hp]⟩, hb⟩
  | range =>
    refine (Tryz.strconv_ParseInt_10_at64_range s (by omega) hp e2 w h2 h2').mono ?_
    rintro e w' ⟨N, rfl, _, _, hb⟩
    exact ⟨⟨_, by unfold numI; rw [hp]⟩, hb⟩
/-- A box of the argument, a box of the answer. -/
theorem two_boxes4 {w W : World} {x : StL} (h : Below ((w.alloc (.cells (stC x).toArray 70)).alloc (.cells (stC zeroL).toArray 70)).heap.size ((w.alloc (.cells (stC x).toArray 70)).alloc (.cells (stC zeroL).toArray 70)) W) :
    Arr W w.heap.size 70 (stC x) ∧ Arr W (w.heap.size + 1) 70 (stC zeroL) ∧ Below w.heap.size w W := by
  have h1 : Below (w.alloc (.cells (stC x).toArray 70)).heap.size (w.alloc (.cells (stC x).toArray 70)) W := below_one h
  refine ⟨(h1.block w.heap.size (by simp)).trans (Arr.fresh w 70 (stC x)), ?_, below_one h1⟩
  have h2 : Arr W (w.alloc (.cells (stC x).toArray 70)).heap.size 70 (stC zeroL) := (h.block _ (by simp)).trans (Arr.fresh (w.alloc (.cells (stC x).toArray 70)) 70 (stC zeroL))
  rw [World.size_alloc] at h2
  exact h2
set_option maxRecDepth 100000 in
set_option maxHeartbeats 1000000 in
theorem impl_withfield (x : StL) (N V : List UInt8) (w : World) (hV : V.length ≤ 2000000) (hE : ErrV w) :
    Calls Tryz.prog 120 #[stLV x, .string (strOf N), .string (strOf V)] w fun e w' => e = .returned (stLV (withI numI x N V)) ∧ Below w.heap.size w w' := by
  have i1 := fun w hE => impl_num (strOf V) w (by rw [strOf_size]; exact hV) hE
  rw [strOf_data] at i1
  have hn := str_list N
  have HE : Hid (∀ A B, ErrV ((w.alloc A).alloc B)) := Lib.hid (fun A B => hE.below (((Below.refl _ _).alloc (Nat.le_refl _) _).alloc (by simp) _))
  have HB : Hid (∀ A B, Below w.heap.size w ((w.alloc A).alloc B)) := Lib.hid (fun A B => ((Below.refl _ _).alloc (Nat.le_refl _) _).alloc (by simp) _)
  clear hE
  unfold stLV
  by_cases n1 : N = wType
  · subst n1
    have m1 : (strOf wType).toList = [116, 121, 112, 101] := hn
    have e : withI numI x wType V = { x with t := V } := by simp [withI]
    rw [e]
    clear hn e i1
    go_enter Tryz.func120, Tryz.ntmps120
    go_wp2
    exact bodyPost_ret (v := .agg #[.string (strOf x.k), .string (strOf V), .string (strOf x.f), .string (strOf x.o), .int .i64 x.n, .string (strOf x.b)]) (by simp [results, Tryz.results120, go_sem]) rfl ⟨rfl, HB.out _ _⟩
  by_cases n2 : N = wFrom
  · subst n2
    have m1 : (strOf wFrom).toList = [102, 114, 111, 109] := hn
    have e : withI numI x wFrom V = { x with f := V } := by simp [withI, wType, wFrom]
    rw [e]
    clear hn e i1 n1
    go_enter Tryz.func120, Tryz.ntmps120
    go_wp2
    exact bodyPost_ret (v := .agg #[.string (strOf x.k), .string (strOf x.t), .string (strOf V), .string (strOf x.o), .int .i64 x.n, .string (strOf x.b)]) (by simp [results, Tryz.results120, go_sem]) rfl ⟨rfl, HB.out _ _⟩
  by_cases n3 : N = wTo
  · subst n3
    have m1 : (strOf wTo).toList = [116, 111] := hn
    have e : withI numI x wTo V = { x with o := V } := by simp [withI, wType, wFrom, wTo]
    rw [e]
    clear hn e i1 n1 n2
    go_enter Tryz.func120, Tryz.ntmps120
    go_wp2
    exact bodyPost_ret (v := .agg #[.string (strOf x.k), .string (strOf x.t), .string (strOf x.f), .string (strOf V), .int .i64 x.n, .string (strOf x.b)]) (by simp [results, Tryz.results120, go_sem]) rfl ⟨rfl, HB.out _ _⟩
  by_cases n4 : N = wId
  · subst n4
    have m1 : (strOf wId).toList = [105, 100] := hn
    have e : withI numI x wId V = { x with n := numI V } := by simp [withI, wType, wFrom, wTo, wId]
    rw [e]
    clear hn e n1 n2 n3
    go_enter Tryz.func120, Tryz.ntmps120
    go_wp2_with (go_at_call 111; go_fit (i1 _ (HE.out _ _)); rintro e w1 ⟨⟨r, rfl⟩, hb⟩; obtain ⟨hX, hZ, hbb⟩ := two_boxes4 hb; obtain ⟨a0, a1, a2, a3, a4, a5, f0, f1, f2, f3, f4, f5⟩ := arr_six hX; obtain ⟨b0, b1, b2, b3, b4, b5, g0, g1, g2, g3, g4, g5⟩ := arr_six hZ; have hz1 := arr_lt hX; have hz2 := arr_lt hZ; clear hX hZ hb)
    exact bodyPost_ret (v := .agg #[.string (strOf x.k), .string (strOf x.t), .string (strOf x.f), .string (strOf x.o), .int .i64 (numI V), .string (strOf x.b)]) (by simp [results, Tryz.results120, go_sem, b0, b1, b2, b3, b4, b5, hz2]; try omega) rfl ⟨rfl, below_set6 (hbb.setCell (p := ⟨w.heap.size, 4, none⟩) (Nat.le_refl _) _) (Nat.le_succ _) _ _ _ _ _ _⟩
  have m1 : ((strOf N).toList == [116, 121, 112, 101]) = false := by rw [beq_eq_false_iff_ne, hn]; exact n1
  have m2 : ((strOf N).toList == [102, 114, 111, 109]) = false := by rw [beq_eq_false_iff_ne, hn]; exact n2
  have m3 : ((strOf N).toList == [116, 111]) = false := by rw [beq_eq_false_iff_ne, hn]; exact n3
  have m4 : ((strOf N).toList == [105, 100]) = false := by rw [beq_eq_false_iff_ne, hn]; exact n4
  have e : withI numI x N V = x := by unfold withI; rw [if_neg n1, if_neg n2, if_neg n3, if_neg n4]
  rw [e]
  clear hn e i1 n1 n2 n3 n4
  go_enter Tryz.func120, Tryz.ntmps120
  go_wp2
  exact bodyPost_ret (v := .agg #[.string (strOf x.k), .string (strOf x.t), .string (strOf x.f), .string (strOf x.o), .int .i64 x.n, .string (strOf x.b)]) (by simp [results, Tryz.results120, go_sem]) rfl ⟨rfl, HB.out _ _⟩
end Go.Proofs.YtgcfognljkebjaaGreatDoor
