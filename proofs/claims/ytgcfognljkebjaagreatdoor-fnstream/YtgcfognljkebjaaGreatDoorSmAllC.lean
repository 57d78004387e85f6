/- Several parts in one text: SmLineS, SmSplit, SmFeedS, MarkText, RowMk, RwStanza, EqStanza, SmFrame, SmLawBits, SmFeedLaw, SmFeedLaw2, LaidSev. -/
import Derived.Test.YtgcfognljkebjaaGreatDoorSmAllB
import Derived.Test.YtgcfognljkebjaaGreatDoorStRows
import Derived.Test.YtgcfognljkebjaaGreatDoorStTextS
import Derived.Deep.MidRow
import Derived.Deep.RegionHeld3
import Derived.Lib.SmallJoins
import Derived.Test.YtgcfognljkebjaaGreatDoorSrSpec2
import Derived.Test.YtgcfognljkebjaaGreatDoorChecked
import Derived.WalkKit
import Derived.ProofKit
import Derived.OpenShut
import Derived.ShutString
import Derived.Test.YtgcfognljkebjaaGreatDoorSmHead
import Derived.Test.YtgcfognljkebjaaGreatDoorRows
import Derived.Test.YtgcfognljkebjaaGreatDoorSrImp1
import Derived.LaidMore
import Derived.LaidHandle
import Derived.LaidLaws
import Derived.Lib.LaidTab
import Derived.Stop.LaidErr
namespace Go.Proofs.YtgcfognljkebjaaGreatDoor
set_option linter.unusedSimpArgs false
set_option linter.unusedVariables false
open Go.RowKit Go.Joins

theorem arr_nine {w : World} {G t : Nat} {a b c d e f h i j : Value} (hA : Arr w G t [a, b, c, d, e, f, h, i, j]) :
    (w.cell? ⟨G, 0, none⟩ = some a ∧ w.cell? ⟨G, 1, none⟩ = some b ∧ w.cell? ⟨G, 2, none⟩ = some c ∧ w.cell? ⟨G, 3, none⟩ = some d ∧ w.cell? ⟨G, 4, none⟩ = some e ∧ w.cell? ⟨G, 5, none⟩ = some f ∧ w.cell? ⟨G, 6, none⟩ = some h ∧ w.cell? ⟨G, 7, none⟩ = some i ∧ w.cell? ⟨G, 8, none⟩ = some j) ∧
    w.frozen? ⟨G, 0, none⟩ = false ∧ w.frozen? ⟨G, 1, none⟩ = false ∧ w.frozen? ⟨G, 2, none⟩ = false ∧ w.frozen? ⟨G, 3, none⟩ = false ∧ w.frozen? ⟨G, 4, none⟩ = false ∧ w.frozen? ⟨G, 5, none⟩ = false ∧ w.frozen? ⟨G, 6, none⟩ = false ∧ w.frozen? ⟨G, 7, none⟩ = false ∧ w.frozen? ⟨G, 8, none⟩ = false :=
  ⟨⟨hA.cell 0, hA.cell 1, hA.cell 2, hA.cell 3, hA.cell 4, hA.cell 5, hA.cell 6, hA.cell 7, hA.cell 8⟩, hA.free 0, hA.free 1, hA.free 2, hA.free 3, hA.free 4, hA.free 5, hA.free 6, hA.free 7, hA.free 8⟩
/-- append(v, y), as a step of a region that draws its order. -/
theorem wp_app_C {α : Type} {enc : α → List Value} {e size bytes T : Nat} {z : Value} (hone : ∀ x, ∀ u ∈ enc x, u.oneCell' = true) (hlen : ∀ x, (enc x).length = size)
    (hT : Tryz.prog.underlying T = some (.slice e)) (hinfo : (Tryz.prog.info? e).map (fun i => (i.zero, i.size, i.bytes)) = some (some z, size, bytes)) (hzs : z.cells.size = size) (hsz : 0 < size) (hby : bytes ≤ 1000)
    (w : World) {o : Oper} {a : Act} {K : Act → World → Prop} {Q : Exit → Act → World → Prop} (s x : Operand)
    (ho : o.op = Op.call { callee := Callee.builtin Builtin.append, args := #[s, x], argTypes := #[T, T] })
    (B : Nat) (v : Value) (xs : List α) (hs : a.eval s = v) (hown : OwnC enc w B e size v xs) (g : Nat) (y : α) (hx : a.eval x = .slice (some ⟨g, 0, none⟩) 1 1) (hA : Arr w g e (enc y)) (hmax : xs.length ≤ 10000000) (hB : B ≤ w.heap.size)
    (h : ∀ v' w', OwnC enc w' B e size v' (xs ++ [y]) → w.grownBy w' v.ownBlock → K (a.put o.dst v') w') : o.wp Tryz.prog a w K Q := by
  obtain ⟨i0, hi, hz0, hz1, hz2⟩ := info_parts hinfo
  have hmul : (xs.length + 1) * bytes ≤ 10000001 * 1000 := Nat.mul_le_mul (by omega) hby
  refine wp_append_own w s x T ho B e i0 z size bytes hT hi hz0 hz1 hz2 hzs hsz v xs.length (xs.flatMap enc) hs hown ⟨g, 0, none⟩ 1 1 (enc y) hx (by rw [hlen, Nat.one_mul]) (fun j u hj => ?_) (hone y) (by unfold maxLen; omega) (by omega) hB (fun v' w' h1 h2 _ => h v' w' ?_ h2)
  · rw [show (⟨g, 0, none⟩ : Addr).add j = ⟨g, j, none⟩ by unfold Addr.add; split <;> simp_all, hA.cell]
    exact hj
  · unfold OwnC
    rw [List.length_append, List.flatMap_append]
    simpa using h1
theorem arr_grown {w w2 : World} {b t : Nat} {cs : List Value} {r : Option Nat} (h : Arr w b t cs) (hg : w.grownBy w2 r) (hne : ∀ k, r = some k → k ≠ b) : Arr w2 b t cs := by
  have hlt : b < w.heap.size := (Array.getElem?_eq_some_iff.1 h).1
  exact (hg.block b hlt (fun e => hne b e.symm rfl)).trans h
/-- The stream's box with the stanzas so far; below it all is as it was. -/
def LBox (w : World) (g : Nat) (W : World) (s : SmS) (v : Value) (xs : List StL) : Prop := Arr W g 32 (soC ⟨s, [], xs⟩ v 0) ∧ OwnX W (g + 1) v xs ∧ Below g w W ∧ g + 1 ≤ W.heap.size
theorem LBox.on {w W W2 : World} {g : Nat} {s : SmS} {v : Value} {xs : List StL} (h : LBox w g W s v xs) (hb : Below W.heap.size W W2) : LBox w g W2 s v xs :=
  ⟨arr_below h.1 hb, h.2.1.on hb, h.2.2.1.trans (hb.mono (by have := h.2.2.2; omega)), Nat.le_trans h.2.2.2 hb.size⟩
theorem LBox.put {w W : World} {g : Nat} {s t : SmS} {v : Value} {xs : List StL} (h : LBox w g W s v xs) (i : Nat) (u : Value) (e : (soC ⟨s, [], xs⟩ v 0).set i u = soC ⟨t, [], xs⟩ v 0) : LBox w g (W.setCell ⟨g, i, none⟩ u) t v xs :=
  ⟨e ▸ h.1.put i u, h.2.1.low (a := ⟨g, i, none⟩) (Nat.lt_succ_self g) u, h.2.2.1.setCell (p := ⟨g, i, none⟩) (Nat.le_refl _) u, by simpa [World.setCell] using h.2.2.2⟩
/-- What a line makes of the box. -/
def LAns (w : World) (g : Nat) (s : SmS) (v : Value) (xs : List StL) (T : List UInt8) (e : Ending) (w' : World) : Prop :=
  (e = .returned (.bool false) ∧ stepK s T = (⟨s.f, s.o, s.n, s.op, s.cl, true⟩, []) ∧ LBox w g w' s v xs) ∨
  (∃ t ys v', e = .returned (.bool true) ∧ stepK s T = (t, ys) ∧ t.de = s.de ∧ ys.length ≤ 1 ∧ LBox w g w' t v' (xs ++ ys))
theorem LBox.opened {w W : World} {g : Nat} {s : SmS} {v : Value} {xs : List StL} (h : LBox w g W s v xs) (A : Obj) (f o : List UInt8) (m : Int) :
    LBox w g (((((W.setCell ⟨g, 4, none⟩ (.bool true)).setCell ⟨g, 0, none⟩ (.string (strOf f))).setCell ⟨g, 1, none⟩ (.string (strOf o))).setCell ⟨g, 2, none⟩ (.int .i64 m)).alloc A) ⟨f, o, m, true, s.cl, s.de⟩ v xs :=
  ((((h.put (t := ⟨s.f, s.o, s.n, true, s.cl, s.de⟩) 4 _ rfl).put (t := ⟨f, s.o, s.n, true, s.cl, s.de⟩) 0 _ rfl).put (t := ⟨f, o, s.n, true, s.cl, s.de⟩) 1 _ rfl).put (t := ⟨f, o, m, true, s.cl, s.de⟩) 2 _ rfl).on ((Below.refl _ _).alloc (Nat.le_refl _) A)
theorem LBox.shut {w W : World} {g : Nat} {s : SmS} {v : Value} {xs : List StL} (h : LBox w g W s v xs) : LBox w g (W.setCell ⟨g, 5, none⟩ (.bool true)) ⟨s.f, s.o, s.n, s.op, true, s.de⟩ v xs :=
  h.put (t := ⟨s.f, s.o, s.n, s.op, true, s.de⟩) 5 _ rfl
theorem LBox.app {w W W2 : World} {g : Nat} {s : SmS} {v v2 : Value} {xs : List StL} {x : StL} (h : LBox w g W s v xs) (hg : W.grownBy W2 v.ownBlock) (h1 : OwnX W2 (g + 1) v2 (xs ++ [x])) : LBox w g (W2.setCell ⟨g, 7, none⟩ v2) s v2 (xs ++ [x]) ∧ Arr W2 g 32 (soC ⟨s, [], xs⟩ v 0) := by
  have hb : Below (g + 1) W W2 := (Below.refl _ _).grown hg h.2.2.2 h.2.1.base
  have hA := arr_keep h.1 hb (Nat.lt_succ_self g)
  have hp := hA.put 7 v2
  exact ⟨⟨hp, h1.low (a := ⟨g, 7, none⟩) (Nat.lt_succ_self g) v2, (h.2.2.1.trans (hb.mono (Nat.le_succ g))).setCell (p := ⟨g, 7, none⟩) (Nat.le_refl _) v2, by have := Nat.le_trans h.2.2.2 hb.size; simpa [World.setCell] using this⟩, hA⟩
set_option maxRecDepth 100000 in
set_option maxHeartbeats 1000000 in
theorem spec_line (g : Nat) (s : SmS) (v : Value) (xs : List StL) (T : ByteArray) (w0 w : World) (hT : T.data.toList ≠ []) (hTs : T.size ≤ 100000) (hx : xs.length ≤ 1000000) (h : LBox w0 g w s v xs) :
    Calls Tryz.prog 23 #[.pointer (some ⟨g, 0, none⟩), .string T] w (LAns w0 g s v xs T.data.toList) := by
  have HB := Lib.hid h
  obtain ⟨⟨c0, c1, c2, c3, c4, c5, c6, c7, c8⟩, f0, f1, f2, f3, f4, f5, f6, f7, f8⟩ := arr_nine h.1
  have hz := arr_lt h.1
  clear h
  have HT := Lib.hid hT
  clear hT
  rcases s with ⟨f, o, n, op, cl, de⟩
  dsimp only at c0 c1 c2 c3 c4 c5 c6
  cases op
  · have i1 := spec_readhead T w hTs
    go_enter Tryz.func23, Tryz.ntmps23
    go_wp2_with (go_at_call 47; go_fit i1; rintro e w1 ⟨⟨f1, o1, n1, b, rfl, hA, _, _⟩, hb1⟩; have HB1 := Lib.hid (HB.out.on hb1); have HA := Lib.hid (hA HT.out); clear hA hb1; unfold hdLV; obtain ⟨⟨d0, d1, d2, d3, d4, d5, d6, d7, d8⟩, e0, e1, e2, e3, e4, e5, e6, e7, e8⟩ := arr_nine HB1.out.1; have hz1 := arr_lt HB1.out.1; cases b)
    · go_ret
      exact .inl ⟨rfl, by unfold stepK; rw [next_shut cl HT.out HA.out]; rfl, HB1.out.on ((Below.refl _ _).alloc (Nat.le_refl _) _)⟩
    · go_ret
      exact .inr ⟨⟨f1, o1, n1, true, cl, de⟩, [], v, rfl, by unfold stepK; rw [next_shut cl HT.out HA.out]; rfl, rfl, Nat.zero_le _, by rw [List.append_nil]; exact HB1.out.opened _ f1 o1 n1⟩
  · cases cl
    · by_cases hc : T.data.toList = closeL
      · have e1 : T.toList = [60, 47, 115, 116, 114, 101, 97, 109, 62] := by rw [ByteArray.toList_eq]; exact hc
        have HC := Lib.hid hc
        clear hc
        go_enter Tryz.func23, Tryz.ntmps23
        go_wp2
        go_ret
        exact .inr ⟨⟨f, o, n, true, true, de⟩, [], v, rfl, by unfold stepK; rw [HC.out, next_close]; rfl, rfl, Nat.zero_le _, by rw [List.append_nil]; exact HB.out.shut⟩
      · have m1 : (T.toList == [60, 47, 115, 116, 114, 101, 97, 109, 62]) = false := by rw [beq_eq_false_iff_ne, ByteArray.toList_eq]; exact hc
        have HC := Lib.hid hc
        clear hc
        have i1 := spec_sread T w (by omega)
        rcases srV_cases2 (T := T.data.toList) with ⟨l1, hok, hv⟩ | ⟨hno, c, hc, hv⟩
        · rw [hv] at i1
          obtain ⟨x, hxx⟩ : ∃ x, rdS T.data.toList = x := ⟨_, rfl⟩
          have HS : Hid (stepK ⟨f, o, n, true, false, de⟩ T.data.toList = (⟨f, o, n, true, false, de⟩, [x])) := Lib.hid (by unfold stepK; rw [next_stanza HT.out HC.out ⟨l1, hok⟩, hxx]; rfl)
          rw [hxx] at i1
          clear hv l1 hok hxx
          unfold outV at i1
          go_enter Tryz.func23, Tryz.ntmps23
          go_wp2_with (go_at_call 48; go_fit i1; rintro e w1 ⟨rfl, hb1⟩; have HB1 := Lib.hid (HB.out.on hb1); clear hb1; obtain ⟨⟨d0, d1, d2, d3, d4, d5, d6, d7, d8⟩, e0, e1, e2, e3, e4, e5, e6, e7, e8⟩ := arr_nine HB1.out.1; have hz1 := arr_lt HB1.out.1)
          have hS0 : Arr (w1.alloc (.cells #[.string (strOf x.k), .string (strOf x.t), .string (strOf x.f), .string (strOf x.o), .int .i64 x.n, .string (strOf x.b), .int .i64 0] 81)).drew w1.heap.size 81 [.string (strOf x.k), .string (strOf x.t), .string (strOf x.f), .string (strOf x.o), .int .i64 x.n, .string (strOf x.b), .int .i64 0] := Arr.fresh w1 81 [.string (strOf x.k), .string (strOf x.t), .string (strOf x.f), .string (strOf x.o), .int .i64 x.n, .string (strOf x.b), .int .i64 0]
          have hL0 := HB1.out.on (((Below.refl w1.heap.size w1).alloc (Nat.le_refl _) (.cells #[.string (strOf x.k), .string (strOf x.t), .string (strOf x.f), .string (strOf x.o), .int .i64 x.n, .string (strOf x.b), .int .i64 0] 81)).drew)
          have hsz : w1.heap.size < (w1.alloc (.cells #[.string (strOf x.k), .string (strOf x.t), .string (strOf x.f), .string (strOf x.o), .int .i64 x.n, .string (strOf x.b), .int .i64 0] 81)).drew.heap.size := by simp [size_drew]
          refine wp_region_held_drew (S := fun W => Arr W w1.heap.size 81 [.string (strOf x.k), .string (strOf x.t), .string (strOf x.f), .string (strOf x.o), .int .i64 x.n, .string (strOf x.b), .int .i64 0]) (by kernel_rfl) hS0 (fun hHeld => ?_)
          generalize (w1.alloc (.cells #[.string (strOf x.k), .string (strOf x.t), .string (strOf x.f), .string (strOf x.o), .int .i64 x.n, .string (strOf x.b), .int .i64 0] 81)).drew = wm at hS0 hL0 hHeld hsz ⊢
          have hBB : ∀ k, v.ownBlock = some k → k < w1.heap.size := fun k hk => (own_lt HB1.out.2.1 k hk).2
          have hne : ∀ k, v.ownBlock = some k → k ≠ w1.heap.size := fun k hk => by have := hBB k hk; omega
          obtain ⟨⟨m0, m1, m2, m3, m4, m5, m6, m7, m8⟩, _⟩ := arr_nine hL0.1
          clear d0 d1 d2 d3 d4 d5 d6 d7 d8 e0 e1 e2 e3 e4 e5 e6 e7 e8 c0 c1 c2 c3 c4 c5 c6 c7 c8 f0 f1 f2 f3 f4 f5 f6 f7 f8
          refine takeH (i := 0) (k := 48) (v := .pointer (some ⟨g, 0, none⟩)) rfl (by rfl) (by kernel_rfl) (by kernel_rfl) (by kernel_rfl) (fun _ _ _ h => h) (by rfl) ?_ hHeld ?_
          · intro wX hSw; obtain ⟨s0, s1, s2, s3, s4, s5, s6, _⟩ := arr_seven hSw; go_simp
          (try simp only [Act.put, List.setIfInBounds_toArray, List.set_cons_zero, List.set_cons_succ])
          refine takeH (i := 1) (k := 49) (v := .pointer (some ⟨g, 0, none⟩)) rfl (by rfl) (by kernel_rfl) (by kernel_rfl) (by kernel_rfl) (fun _ _ _ h => h) (by rfl) ?_ hHeld ?_
          · intro wX hSw; obtain ⟨s0, s1, s2, s3, s4, s5, s6, _⟩ := arr_seven hSw; go_simp
          (try simp only [Act.put, List.setIfInBounds_toArray, List.set_cons_zero, List.set_cons_succ])
          refine takeH (i := 2) (k := 50) (v := .pointer (some ⟨g, 0, none⟩)) rfl (by rfl) (by kernel_rfl) (by kernel_rfl) (by kernel_rfl) (fun _ _ _ h => h) (by rfl) ?_ hHeld ?_
          · intro wX hSw; obtain ⟨s0, s1, s2, s3, s4, s5, s6, _⟩ := arr_seven hSw; go_simp
          (try simp only [Act.put, List.setIfInBounds_toArray, List.set_cons_zero, List.set_cons_succ])
          refine takeH (i := 3) (k := 51) (v := .pointer (some ⟨g, 7, none⟩)) rfl (by rfl) (by kernel_rfl) (by kernel_rfl) (by kernel_rfl) (fun _ _ _ h => h) (by rfl) ?_ hHeld ?_
          · intro wX hSw; obtain ⟨s0, s1, s2, s3, s4, s5, s6, _⟩ := arr_seven hSw; go_simp
          (try simp only [Act.put, List.setIfInBounds_toArray, List.set_cons_zero, List.set_cons_succ])
          refine takeH (i := 5) (k := 53) (v := .pointer (some ⟨w1.heap.size, 0, none⟩)) rfl (by rfl) (by kernel_rfl) (by kernel_rfl) (by kernel_rfl) (fun _ _ _ h => h) (by rfl) ?_ hHeld ?_
          · intro wX hSw; obtain ⟨s0, s1, s2, s3, s4, s5, s6, _⟩ := arr_seven hSw; go_simp
          (try simp only [Act.put, List.setIfInBounds_toArray, List.set_cons_zero, List.set_cons_succ])
          refine takeH (i := 6) (k := 54) (v := .agg #[.string (strOf x.k), .string (strOf x.t), .string (strOf x.f), .string (strOf x.o), .int .i64 x.n, .string (strOf x.b)]) rfl (by rfl) (by kernel_rfl) (by kernel_rfl) (by kernel_rfl) (fun _ _ _ h => h) (by rfl) ?_ hHeld ?_
          · intro wX hSw; obtain ⟨s0, s1, s2, s3, s4, s5, s6, _⟩ := arr_seven hSw; go_simp
          (try simp only [Act.put, List.setIfInBounds_toArray, List.set_cons_zero, List.set_cons_succ])
          refine wpAnyH_ready (rs := [4, 7]) (by kernel_rfl) (by simp) ?_
          refine AllReadyH.cons rfl (fun K hK => ?_) (AllReadyH.cons rfl (fun K hK => ?_) AllReadyH.nil)
          · rw [if_pos (by rfl)]
            go_simp
            refine hK.out _ _ hS0 (fun hHeld => ?_)
            clear hK K
            (try simp only [Act.put, List.setIfInBounds_toArray, List.set_cons_zero, List.set_cons_succ])
            refine wpAnyH_ready (rs := [7]) (by kernel_rfl) (by simp) ?_
            refine AllReadyH.cons rfl (fun K hK => ?_) AllReadyH.nil
            rw [if_pos (by rfl)]
            go_simp
            refine hK.out _ _ (arr_alloc hS0 _) (fun hHeld => ?_)
            clear hK K
            (try simp only [Act.put, List.setIfInBounds_toArray, List.set_cons_zero, List.set_cons_succ])
            have hL2 := hL0.on ((Below.refl wm.heap.size wm).alloc (Nat.le_refl _) (.cells #[.string (strOf x.k), .string (strOf x.t), .string (strOf x.f), .string (strOf x.o), .int .i64 x.n, .string (strOf x.b)] 70))
            have hN2 : Arr (wm.alloc (.cells #[.string (strOf x.k), .string (strOf x.t), .string (strOf x.f), .string (strOf x.o), .int .i64 x.n, .string (strOf x.b)] 70)) wm.heap.size 70 (stC x) := Arr.fresh wm _ (stC x)
            refine wpAnyH_ready (rs := [8]) (by kernel_rfl) (by simp) ?_
            refine AllReadyH.cons rfl (fun K hK => ?_) AllReadyH.nil
            rw [if_pos (by rfl)]
            refine wp_app_C stC_one stC_len Tryz.underlying30 info_st rfl (by decide) (by decide) _ (.tmp 52) (.tmp 55) rfl (g + 1) v xs rfl hL2.2.1 wm.heap.size x rfl hN2 (by omega) hL2.2.2.2 ?_
            intro v2 w2 ho2 hg2
            obtain ⟨hL3, hA3⟩ := hL2.app hg2 ho2
            have hS3 : Arr w2 w1.heap.size 81 [.string (strOf x.k), .string (strOf x.t), .string (strOf x.f), .string (strOf x.o), .int .i64 x.n, .string (strOf x.b), .int .i64 0] := arr_grown (arr_alloc hS0 (.cells #[.string (strOf x.k), .string (strOf x.t), .string (strOf x.f), .string (strOf x.o), .int .i64 x.n, .string (strOf x.b)] 70)) hg2 hne
            obtain ⟨p2, k2, rfl, _⟩ := ho2.row stC_len
            refine hK.out _ _ hS3 (fun hHeld => ?_)
            clear hK K
            (try simp only [Act.put, List.setIfInBounds_toArray, List.set_cons_zero, List.set_cons_succ])
            refine takeH (i := 9) (k := 57) (v := .pointer (some ⟨g, 0, none⟩)) rfl (by rfl) (by kernel_rfl) (by kernel_rfl) (by kernel_rfl) (fun _ _ _ h => h) (by rfl) ?_ hHeld ?_
            · intro wX hSw; obtain ⟨s0, s1, s2, s3, s4, s5, s6, _⟩ := arr_seven hSw; go_simp
            (try simp only [Act.put, List.setIfInBounds_toArray, List.set_cons_zero, List.set_cons_succ])
            refine takeH (i := 10) (k := 58) (v := .pointer (some ⟨g, 7, none⟩)) rfl (by rfl) (by kernel_rfl) (by kernel_rfl) (by kernel_rfl) (fun _ _ _ h => h) (by rfl) ?_ hHeld ?_
            · intro wX hSw; obtain ⟨s0, s1, s2, s3, s4, s5, s6, _⟩ := arr_seven hSw; go_simp
            (try simp only [Act.put, List.setIfInBounds_toArray, List.set_cons_zero, List.set_cons_succ])
            obtain ⟨⟨a0, a1, a2, a3, a4, a5, a6, a7, a8⟩, b0, b1, b2, b3, b4, b5, b6, b7, b8⟩ := arr_nine hA3
            refine wpAnyH_ready (rs := [11]) (by kernel_rfl) (by simp) ?_
            refine AllReadyH.cons rfl (fun K hK => ?_) AllReadyH.nil
            rw [if_pos (by rfl)]
            go_simp
            refine hK.out _ _ (arr_other hS3 _ _ _ (by omega)) (fun hHeld => ?_)
            clear hK K
            (try simp only [Act.put, List.setIfInBounds_toArray, List.set_cons_zero, List.set_cons_succ])
            refine wpAnyH_done (by kernel_rfl) ?_ _
            obtain ⟨t0, t1, t2, t3, t4, t5, t6, _⟩ := arr_seven hS3
            simp only [List.length_append, List.length_cons, List.length_nil, Nat.zero_add] at hL3
            go_wp2
            go_ret
            exact .inr ⟨⟨f, o, n, true, false, de⟩, [x], _, rfl, HS.out, rfl, Nat.le_refl _, hL3⟩
          · rw [if_pos (by rfl)]
            go_simp
            refine hK.out _ _ (arr_alloc hS0 _) (fun hHeld => ?_)
            clear hK K
            (try simp only [Act.put, List.setIfInBounds_toArray, List.set_cons_zero, List.set_cons_succ])
            have hL2 := hL0.on ((Below.refl wm.heap.size wm).alloc (Nat.le_refl _) (.cells #[.string (strOf x.k), .string (strOf x.t), .string (strOf x.f), .string (strOf x.o), .int .i64 x.n, .string (strOf x.b)] 70))
            have hN2 : Arr (wm.alloc (.cells #[.string (strOf x.k), .string (strOf x.t), .string (strOf x.f), .string (strOf x.o), .int .i64 x.n, .string (strOf x.b)] 70)) wm.heap.size 70 (stC x) := Arr.fresh wm _ (stC x)
            obtain ⟨⟨n0, n1, n2, n3, n4, n5, n6, n7, n8⟩, _⟩ := arr_nine hL2.1
            refine wpAnyH_ready (rs := [4]) (by kernel_rfl) (by simp) ?_
            refine AllReadyH.cons rfl (fun K hK => ?_) AllReadyH.nil
            rw [if_pos (by rfl)]
            go_simp
            refine hK.out _ _ (arr_alloc hS0 _) (fun hHeld => ?_)
            clear hK K
            (try simp only [Act.put, List.setIfInBounds_toArray, List.set_cons_zero, List.set_cons_succ])
            refine wpAnyH_ready (rs := [8]) (by kernel_rfl) (by simp) ?_
            refine AllReadyH.cons rfl (fun K hK => ?_) AllReadyH.nil
            rw [if_pos (by rfl)]
            refine wp_app_C stC_one stC_len Tryz.underlying30 info_st rfl (by decide) (by decide) _ (.tmp 52) (.tmp 55) rfl (g + 1) v xs rfl hL2.2.1 wm.heap.size x rfl hN2 (by omega) hL2.2.2.2 ?_
            intro v2 w2 ho2 hg2
            obtain ⟨hL3, hA3⟩ := hL2.app hg2 ho2
            have hS3 : Arr w2 w1.heap.size 81 [.string (strOf x.k), .string (strOf x.t), .string (strOf x.f), .string (strOf x.o), .int .i64 x.n, .string (strOf x.b), .int .i64 0] := arr_grown (arr_alloc hS0 (.cells #[.string (strOf x.k), .string (strOf x.t), .string (strOf x.f), .string (strOf x.o), .int .i64 x.n, .string (strOf x.b)] 70)) hg2 hne
            obtain ⟨p2, k2, rfl, _⟩ := ho2.row stC_len
            refine hK.out _ _ hS3 (fun hHeld => ?_)
            clear hK K
            (try simp only [Act.put, List.setIfInBounds_toArray, List.set_cons_zero, List.set_cons_succ])
            refine takeH (i := 9) (k := 57) (v := .pointer (some ⟨g, 0, none⟩)) rfl (by rfl) (by kernel_rfl) (by kernel_rfl) (by kernel_rfl) (fun _ _ _ h => h) (by rfl) ?_ hHeld ?_
            · intro wX hSw; obtain ⟨s0, s1, s2, s3, s4, s5, s6, _⟩ := arr_seven hSw; go_simp
            (try simp only [Act.put, List.setIfInBounds_toArray, List.set_cons_zero, List.set_cons_succ])
            refine takeH (i := 10) (k := 58) (v := .pointer (some ⟨g, 7, none⟩)) rfl (by rfl) (by kernel_rfl) (by kernel_rfl) (by kernel_rfl) (fun _ _ _ h => h) (by rfl) ?_ hHeld ?_
            · intro wX hSw; obtain ⟨s0, s1, s2, s3, s4, s5, s6, _⟩ := arr_seven hSw; go_simp
            (try simp only [Act.put, List.setIfInBounds_toArray, List.set_cons_zero, List.set_cons_succ])
            obtain ⟨⟨a0, a1, a2, a3, a4, a5, a6, a7, a8⟩, b0, b1, b2, b3, b4, b5, b6, b7, b8⟩ := arr_nine hA3
            refine wpAnyH_ready (rs := [11]) (by kernel_rfl) (by simp) ?_
            refine AllReadyH.cons rfl (fun K hK => ?_) AllReadyH.nil
            rw [if_pos (by rfl)]
            go_simp
            refine hK.out _ _ (arr_other hS3 _ _ _ (by omega)) (fun hHeld => ?_)
            clear hK K
            (try simp only [Act.put, List.setIfInBounds_toArray, List.set_cons_zero, List.set_cons_succ])
            refine wpAnyH_done (by kernel_rfl) ?_ _
            obtain ⟨t0, t1, t2, t3, t4, t5, t6, _⟩ := arr_seven hS3
            simp only [List.length_append, List.length_cons, List.length_nil, Nat.zero_add] at hL3
            go_wp2
            go_ret
            exact .inr ⟨⟨f, o, n, true, false, de⟩, [x], _, rfl, HS.out, rfl, Nat.le_refl _, hL3⟩
        · rw [hv] at i1
          have hc0 : (c == 0) = false := by rw [beq_eq_false_iff_ne]; exact hc
          have HN := Lib.hid hno
          clear hv hno hc
          unfold outV at i1
          go_enter Tryz.func23, Tryz.ntmps23
          go_wp2_with (go_at_call 48; go_fit i1; rintro e w1 ⟨rfl, hb1⟩; have HB1 := Lib.hid (HB.out.on hb1); clear hb1)
          go_ret
          exact .inl ⟨rfl, by unfold stepK; rw [next_none HT.out HC.out HN.out]; rfl, HB1.out.on ((Below.refl _ _).alloc (Nat.le_refl _) _)⟩
    · go_enter Tryz.func23, Tryz.ntmps23
      go_wp2
      go_ret
      exact .inl ⟨rfl, by unfold stepK; rw [next_closed HT.out]; rfl, HB.out⟩
end Go.Proofs.YtgcfognljkebjaaGreatDoor

namespace Go.Proofs.YtgcfognljkebjaaGreatDoor
set_option linter.unusedSimpArgs false
set_option linter.unusedVariables false
open Go.RowKit

theorem ownS_none (w : World) : OwnS (w.alloc (.cells #[] 9)) w.heap.size (.slice (some ⟨w.heap.size, 0, none⟩) 0 0) [] := own_none w _
theorem cut_here {L : List UInt8} {fr k : Nat} (h1 : fr ≤ k) (h2 : k < L.length) : L.drop fr = (L.take k).drop fr ++ L[k] :: L.drop (k + 1) := by
  have e : L = L.take k ++ (L[k] :: L.drop (k + 1)) := by rw [← List.drop_eq_getElem_cons h2, List.take_append_drop]
  have : (L.take k ++ (L[k] :: L.drop (k + 1))).drop fr = (L.take k).drop fr ++ L[k] :: L.drop (k + 1) := by
    rw [List.drop_append_of_le_length (by rw [List.length_take]; omega)]
  rw [← this, ← e]
theorem take_next {L : List UInt8} {fr k : Nat} (h1 : fr ≤ k) (h2 : k < L.length) : (L.take (k + 1)).drop fr = (L.take k).drop fr ++ [L[k]] := by
  rw [List.take_succ_eq_append_getElem h2, List.drop_append_of_le_length (by rw [List.length_take]; omega)]
theorem one_str (w : World) (x : ByteArray) : ∀ j (h : j < [x].length), (w.alloc (.cells #[.string x] 9)).cell? ⟨w.heap.size, j, none⟩ = some (.string [x][j]) := fun j h => by
  match j, h with
  | 0, _ => exact (Arr.fresh w 9 [.string x]).cell 0
set_option maxRecDepth 100000 in
set_option maxHeartbeats 1000000 in
theorem spec_split10 (s : ByteArray) (w : World) (hs : s.size ≤ 1000000) :
    Calls Tryz.prog 22 #[.string s, .int .u8 10] w fun e w' => (∃ v ps, e = .returned v ∧ OwnS w' w.heap.size v ps ∧ ps.map (·.data.toList) = linesL s.data.toList) ∧ Below w.heap.size w w' := by
  have hlen : s.data.toList.length = s.size := size_data s
  go_enter Tryz.func22, Tryz.ntmps22
  go_wp2
  go_loopw [5, 6, 7] (fun v f i wr => ∃ (k fr : Nat) (ps : List ByteArray), k ≤ s.size ∧ fr ≤ k ∧ i = .int .i64 k ∧ f = .int .i64 fr ∧ OwnS wr w.heap.size v ps ∧ ps.map (·.data.toList) ++ linesL (s.data.toList.drop fr) = linesL s.data.toList ∧ (∀ x ∈ (s.data.toList.take k).drop fr, x ≠ 10) ∧ ps.length ≤ k ∧ Below w.heap.size w wr) (fun _ _ i _ => s.size - (intOf i).toNat)
  case atStart => exact ⟨0, 0, [], Nat.zero_le _, Nat.le_refl _, rfl, rfl, ownS_none w, rfl, by simp, Nat.le_refl _, (Below.refl _ _).alloc (Nat.le_refl _) _⟩
  case round =>
    obtain ⟨k, fr, ps, hk, hfr, rfl, rfl, hown, hl, hno, hps, hbel⟩ := hrel
    have hsz := hbel.size
    have HO := Lib.hid hown
    by_cases hlt : k < s.size
    · have e1 : s.data.toList[k]'(by omega) = s[k] := rfl
      have hc := cut_here (L := s.data.toList) hfr (by omega)
      have ht := take_next (L := s.data.toList) hfr (by omega)
      rw [e1] at hc ht
      by_cases h10 : s[k] = 10
      · have h10' : ((s[k].toNat : Int) == 10) = true := by rw [h10]; rfl
        have hx : (s.extract fr k).data.toList = (s.data.toList.take k).drop fr := ext_toList s fr k hfr (by omega)
        have HN : Hid ((ps ++ [s.extract fr k]).map (·.data.toList) ++ linesL (s.data.toList.drop (k + 1)) = linesL s.data.toList) := Lib.hid (by
          rw [← hl, hc, h10, lines_more _ _ hno]
          simp only [List.map_append, List.map_cons, List.map_nil, hx, List.append_assoc, List.cons_append, List.nil_append])
        have HZ : Hid (∀ x ∈ (s.data.toList.take (k + 1)).drop (k + 1), x ≠ 10) := Lib.hid (by
          intro x hx
          rw [List.drop_eq_nil_of_le (by rw [List.length_take]; omega)] at hx
          cases hx)
        clear hc ht hx h10 e1 hl hno hown
        go_wp2_with (at_builtin; refine app_strs _ rfl (.tmp 20) (.tmp 25) rfl w.heap.size _ ps rfl (HO.out.alloc _) wr.heap.size 1 [s.extract fr k] rfl rfl (one_str _ _) (by omega) (by simp; omega) ?_; intro v' w1 ho1 hg1 hr1; have hb1 := (Below.refl w.heap.size (wr.alloc (.cells #[.string (s.extract fr k)] 9))).grown hg1 (by simp; omega) (fun k hk => (hr1 k hk).1))
        go_roundw
        case rel => exact ⟨k + 1, k + 1, ps ++ [s.extract fr k], by omega, Nat.le_refl _, by go_num, by go_num, ho1, HN.out, HZ.out, by simp; omega, (hbel.alloc hbel.size _).trans hb1⟩
        case measure => simp [intOf]; omega
      · have h10' : ((s[k].toNat : Int) == 10) = false := by
          rw [beq_eq_false_iff_ne]
          intro e
          apply h10
          have : s[k].toNat = 10 := by omega
          exact UInt8.toNat_inj.1 this
        have HZ : Hid (∀ x ∈ (s.data.toList.take (k + 1)).drop fr, x ≠ 10) := Lib.hid (by
          intro x hx
          rw [ht] at hx
          rcases List.mem_append.1 hx with h | h
          · exact hno x h
          · rw [List.mem_singleton] at h
            rw [h]
            exact h10)
        have HL := Lib.hid hl
        clear hc ht h10 e1 hl hno hown
        go_wp2
        go_roundw
        case rel => exact ⟨k + 1, fr, ps, by omega, by omega, by go_num, rfl, HO.out, HL.out, HZ.out, by omega, hbel⟩
        case measure => simp [intOf]; omega
    · obtain rfl : k = s.size := by omega
      have hx : (s.extract fr s.size).data.toList = s.data.toList.drop fr := by rw [ext_toList s fr s.size hfr (Nat.le_refl _), ← hlen, List.take_length]
      have HN : Hid ((ps ++ [s.extract fr s.size]).map (·.data.toList) = linesL s.data.toList) := Lib.hid (by
        rw [← hlen, List.take_length] at hno
        rw [← hl, lines_one _ hno]
        simp only [List.map_append, List.map_cons, List.map_nil, hx])
      clear hx hl hno hown
      go_wp2_with (at_builtin; refine app_strs _ rfl (.tmp 29) (.tmp 33) rfl w.heap.size _ ps rfl (HO.out.alloc _) wr.heap.size 1 [s.extract fr s.size] rfl rfl (one_str _ _) (by omega) (by simp; omega) ?_; intro v' w1 ho1 hg1 hr1; have hb1 := (Below.refl w.heap.size (wr.alloc (.cells #[.string (s.extract fr s.size)] 9))).grown hg1 (by simp; omega) (fun k hk => (hr1 k hk).1))
      go_ret
      exact ⟨⟨_, _, rfl, ho1, HN.out⟩, (hbel.alloc hbel.size _).trans hb1⟩
end Go.Proofs.YtgcfognljkebjaaGreatDoor

namespace Go.Proofs.YtgcfognljkebjaaGreatDoor
set_option linter.unusedSimpArgs false
set_option linter.unusedVariables false
open Go.RowKit Go.Joins

theorem OwnS.row {w : World} {B : Nat} {v : Value} {ps : List ByteArray} (h : OwnS w B v ps) (h0 : 0 < ps.length) : ∃ g cap, v = .slice (some ⟨g, 0, none⟩) ps.length cap ∧ g < w.heap.size ∧ ∀ j (hj : j < ps.length), w.cell? ⟨g, j, none⟩ = some (.string ps[j]) := by
  obtain ⟨g, cap, rfl⟩ := Joins.ownsRow_form h h0
  refine ⟨g, cap, rfl, (World.ownsRow.lt h g rfl).2, fun j hj => ?_⟩
  have := World.ownsRow.cells h (g := g) rfl j (.string ps[j]) (by rw [List.getElem?_map, List.getElem?_eq_getElem hj]; rfl)
  rw [show (⟨g, 0, none⟩ : Addr).add j = ⟨g, j, none⟩ by unfold Addr.add; split <;> simp_all] at this
  exact this
theorem lines_q {ps : List ByteArray} {T : List UInt8} {X : ByteArray} (hps : ps.map (fun p : ByteArray => p.data.toList) = linesL T) (hX : X = strOf T) (hl : X.size ≤ 100000) : ∃ q, ps.length = q + 1 ∧ q ≤ 100000 := by
  have h1 := congrArg List.length hps
  rw [List.length_map] at h1
  have h2 := linesL_len T
  have h3 : 0 < (linesL T).length := List.length_pos_iff.2 (linesL_ne T)
  rw [hX, strOf_size] at hl
  exact ⟨ps.length - 1, by omega, by omega⟩
theorem ini_at {ps : List ByteArray} {q : Nat} {T : List UInt8} (hl : ps.length = q + 1) (hd : ps.map (fun p : ByteArray => p.data.toList) = linesL T) {k : Nat} (hk : k < q) : ∃ (h : k < (iniL T).length) (h' : k < ps.length), (iniL T)[k] = ps[k].data.toList := by
  have e := ini_take hl hd
  have hlen : (iniL T).length = q := by rw [← e, List.length_map, List.length_take]; omega
  refine ⟨by omega, by omega, ?_⟩
  have h1 : (iniL T)[k]? = ((ps.take q).map (fun p : ByteArray => p.data.toList))[k]? := by rw [e]
  rw [List.getElem?_map, List.getElem?_take_of_lt hk, List.getElem?_eq_getElem (by omega), List.getElem?_eq_getElem (by omega)] at h1
  simpa using h1
theorem ini_len {ps : List ByteArray} {q : Nat} {T : List UInt8} (hl : ps.length = q + 1) (hd : ps.map (fun p : ByteArray => p.data.toList) = linesL T) : (iniL T).length = q := by
  rw [← ini_take hl hd, List.length_map, List.length_take]
  omega
/-- The end: the box is stored into the answer's. -/
theorem fin_ans {w w2 W : World} {s : SmS} {R : List UInt8} {v : Value} {xs : List StL} (hJ : JBox w w2 s R) (hO : OwnX W (w2.heap.size + 1) v xs) (hB : Below w2.heap.size w2 W) (hlt : w.heap.size + 1 < w2.heap.size) (ds : Array Value) :
    Arr W (w.heap.size + 1) 32 zero9 ∧ OwnX (W.setRow (w.heap.size + 1) ds) w.heap.size v xs ∧ Below w.heap.size w (W.setRow (w.heap.size + 1) ds) :=
  ⟨arr_keep hJ.2.1 hB hlt, (hO.setRow (fun g hg => by have := (own_lt hO g hg).1; omega) ds).mono (by omega), below_setRow (hJ.2.2.trans (hB.mono hJ.2.2.size)) (Nat.le_succ _) ds⟩
theorem lbox_start (w2 : World) (s : SmS) (hde : s.de = false) : LBox w2 w2.heap.size (w2.alloc (.cells #[.string (strOf s.f), .string (strOf s.o), .int .i64 s.n, .string ⟨#[]⟩, .bool s.op, .bool s.cl, .bool false, .slice none 0 0, .int .i64 0] 32)) s (.slice none 0 0) [] := by
  have h := Arr.fresh w2 32 (soC ⟨s, [], []⟩ (.slice none 0 0) 0)
  have e : (soC ⟨s, [], []⟩ (.slice none 0 0) 0).toArray = #[.string (strOf s.f), .string (strOf s.o), .int .i64 s.n, .string ⟨#[]⟩, .bool s.op, .bool s.cl, .bool false, .slice none 0 0, .int .i64 0] := by unfold soC; rw [hde]; rfl
  rw [e] at h
  exact ⟨h, ownC_nil _ _ _ _ _, (Below.refl _ _).alloc (Nat.le_refl _) _, by simp⟩
theorem LBox.dead {w W : World} {g : Nat} {s : SmS} {v : Value} {xs : List StL} (h : LBox w g W s v xs) : LBox w g (W.setCell ⟨g, 6, none⟩ (.bool true)) ⟨s.f, s.o, s.n, s.op, s.cl, true⟩ v xs :=
  h.put (t := ⟨s.f, s.o, s.n, s.op, s.cl, true⟩) 6 _ rfl
theorem soC_dead (s : SmS) (xs : List StL) (v : Value) : (soC ⟨s, [], xs⟩ v 0).set 6 (.bool true) = soC ⟨⟨s.f, s.o, s.n, s.op, s.cl, true⟩, [], xs⟩ v 0 := rfl
set_option maxRecDepth 100000 in
set_option maxHeartbeats 1000000 in
theorem spec_sfeed (s : SmS) (R T : List UInt8) (w : World) (hf : s.f.length ≤ 2000000) (ho : s.o.length ≤ 2000000) (hR : R.length ≤ 2000000) (hT : T.length ≤ 2000000) :
    Calls Tryz.prog 7 #[smLV s R, .string (strOf T)] w (FedAns s R T w) := by
  have HJ := Lib.hid (JBox.start w s R)
  have hT' : (strOf T).size = T.length := strOf_size T
  unfold FedAns feedA
  by_cases h1 : 20000 < T.length
  · rw [if_pos h1]
    have h1' : 20000 < (strOf T).size := by omega
    clear hT' h1 hT HJ
    unfold smLV
    go_enter Tryz.func7, Tryz.ntmps7
    go_wp2
    exact bodyPost_ret (v := soV ⟨zeroS, [], []⟩ (.slice none 0 0) 2) (by simp [results, Tryz.results7, go_sem, soV, zeroS, strOf]) rfl ⟨⟨_, rfl, ownC_nil _ _ _ _ _⟩, ((Below.refl _ _).alloc (Nat.le_refl _) _).alloc (by simp) _⟩
  · rw [if_neg h1]
    have h1' : ¬ 20000 < (strOf T).size := by omega
    have i1 := fun W => spec_smright (strOf s.f) (strOf s.o) s.n (strOf R) s.op s.cl s.de W (by rw [strOf_size]; unfold maxLen; omega) (by rw [strOf_size]; unfold maxLen; omega) (by rw [strOf_size]; unfold maxLen; omega)
    unfold smBL
    obtain ⟨b, hb⟩ : ∃ b, smB (strOf s.f) (strOf s.o) s.n (strOf R) s.op s.cl s.de = b := ⟨_, rfl⟩
    rw [hb] at i1 ⊢
    cases b
    · rw [if_pos rfl]
      clear hT' h1 hT hb
      unfold smLV
      go_enter Tryz.func7, Tryz.ntmps7
      go_wp2_with (first
        | (go_at_call 16; go_fit (i1 _); rintro e w1 ⟨rfl, hb1⟩; have HJ1 := Lib.hid (HJ.out.on hb1); clear hb1)
        | (refine wpList_store_row rfl 32 _ _ rfl (w.heap.size + 1) _ rfl rfl 32 _ HJ1.out.2.1 (by kernel_rfl) (by rfl) (by kernel_rfl) ?_))
      exact bodyPost_ret (v := soV ⟨zeroS, [], []⟩ (.slice none 0 0) 1) (results_cell_row (P := Tryz.prog) Tryz.results7 _ _ (w.heap.size + 1) 32 _ (0, 0) _ rfl (setRow_heap _ _ _ _ _ _ HJ1.out.2.1) Tryz.underlying32 rfl (by kernel_rfl)) rfl ⟨⟨_, rfl, ownC_nil _ _ _ _ _⟩, below_setRow HJ1.out.2.2 (Nat.le_succ _) _⟩
    · rw [if_neg (by decide)]
      cases hde : s.de
      case true =>
        rw [if_pos rfl]
        rw [hde] at i1 HJ
        clear hT' h1 hT hb
        unfold smLV
        rw [hde]
        go_enter Tryz.func7, Tryz.ntmps7
        go_wp2_with (first
          | (go_at_call 16; go_fit (i1 _); rintro e w1 ⟨rfl, hb1⟩; have HJ1 := Lib.hid (HJ.out.on hb1); clear hb1; obtain ⟨⟨c0, c1, c2, c3, c4, c5, c6⟩, g0, g1, g2, g3, g4, g5, g6⟩ := arr_sev HJ1.out.1; rw [hde] at c6)
          | (refine wpList_store_row rfl 32 _ _ rfl (w.heap.size + 1) _ rfl rfl 32 _ HJ1.out.2.1 (by kernel_rfl) (by rfl) (by kernel_rfl) ?_))
        exact bodyPost_ret (v := soV ⟨zeroS, [], []⟩ (.slice none 0 0) 11) (results_cell_row (P := Tryz.prog) Tryz.results7 _ _ (w.heap.size + 1) 32 _ (0, 0) _ rfl (setRow_heap _ _ _ _ _ _ HJ1.out.2.1) Tryz.underlying32 rfl (by kernel_rfl)) rfl ⟨⟨_, rfl, ownC_nil _ _ _ _ _⟩, below_setRow HJ1.out.2.2 (Nat.le_succ _) _⟩
      case false =>
        rw [if_neg Bool.false_ne_true]
        rw [hde] at i1 HJ
        obtain ⟨X, hX⟩ : ∃ X, X = strOf (R ++ T) := ⟨_, rfl⟩
        have hXl : X.size ≤ 100000 := by
          have h4 := (smBL_iff (s := s) (R := R)).1 hb
          rw [hX, strOf_size, List.length_append]
          omega
        have hX2 : strOf R ++ strOf T = X := by rw [hX, strOf_app]
        have i2 := fun W => spec_split10 X W (by omega)
        rw [hX, strOf_data, ← hX] at i2
        have HX := Lib.hid hX
        have hRs : (strOf R).size ≤ 2000000 := by rw [strOf_size]; exact hR
        have hTs : (strOf T).size ≤ 2000000 := by rw [strOf_size]; exact hT
        clear hT' h1 hT hb hX
        unfold smLV
        rw [hde]
        go_enter Tryz.func7, Tryz.ntmps7
        go_wp2_with (first
          | (go_at_call 16; go_fit (i1 _); rintro e w1 ⟨rfl, hb1⟩; have HJ1 := Lib.hid (HJ.out.on hb1); clear hb1; obtain ⟨⟨c0, c1, c2, c3, c4, c5, c6⟩, g0, g1, g2, g3, g4, g5, g6⟩ := arr_sev HJ1.out.1; rw [hde] at c6)
          | (go_at_call 22; go_fit (i2 _); rintro e w2 ⟨⟨v, ps, rfl, hO, hps⟩, hb2⟩; have HJ2 := Lib.hid (HJ1.out.on hb2); obtain ⟨q, hq, hqb⟩ := lines_q hps HX.out hXl; obtain ⟨gl, cap, rfl, hgl, hrow⟩ := hO.row (by omega); rw [hq]; have HQ := Lib.hid hq; have HP := Lib.hid hps; have HR := Lib.hid hrow; clear hO hps hb2 hq hrow; obtain ⟨⟨d0, d1, d2, d3, d4, d5, d6⟩, e0, e1, e2, e3, e4, e5, e6⟩ := arr_sev HJ2.out.1; rw [hde] at d6; have hz2 := arr_lt HJ2.out.1))
        have hh2 : w.heap.size + 1 < w2.heap.size := arr_lt HJ2.out.2.1
        clear c0 c1 c2 c3 c4 c5 c6 g0 g1 g2 g3 g4 g5 g6 d0 d1 d2 d3 d4 d5 d6 e0 e1 e2 e3 e4 e5 e6 hX2 i1 i2
        go_loopw [8] (fun iq wr => ∃ (k : Nat) (t : SmS) (v : Value) (xs : List StL), k ≤ q ∧ iq = .int .i64 k ∧ LBox w2 w2.heap.size wr t v xs ∧ Left s (iniL (R ++ T)) k t xs ∧ xs.length ≤ k) (fun i _ => q - (intOf i).toNat)
        case atStart => exact ⟨0, s, _, [], Nat.zero_le _, rfl, lbox_start w2 s hde, left_start hde _, Nat.le_refl _⟩
        case round =>
          obtain ⟨k, t, v, xs, hk, rfl, hL, hl, hxs⟩ := hrel
          by_cases hlt : k < q
          · obtain ⟨hk1, hk2, hkT⟩ := ini_at HQ.out HP.out hlt
            obtain ⟨L, hLd⟩ : ∃ L, ps[k] = L := ⟨_, rfl⟩
            have hc := (hL.2.2.1.cell (p := ⟨gl, k, none⟩) hgl).trans (HR.out k hk2)
            rw [hLd] at hc hkT
            have hLs : L.size ≤ 100000 := by
              have h2 := linesL_le (R ++ T) L.data.toList (by rw [← HP.out, ← hLd]; exact List.mem_map_of_mem (List.getElem_mem hk2))
              have h3 : (R ++ T).length = X.size := by rw [HX.out, strOf_size]
              rw [size_data] at h2
              omega
            have HL := Lib.hid hL
            have HK := Lib.hid hl
            have HKT := Lib.hid hkT
            clear hL hl hkT hLd hk2
            by_cases hT0 : L.data.toList = []
            · have n1 : L.toList = [] := by rw [ByteArray.toList_eq]; exact hT0
              have HT0 := Lib.hid hT0
              clear hT0
              go_wp2
              go_roundw
              case rel => exact ⟨k + 1, t, v, xs, by omega, by go_num, HL.out, left_on0 HK.out hk1 (by rw [HKT.out, HT0.out]; unfold stepK; rw [next_empty]; rfl) HK.out.1, by omega⟩
              case measure => simp [intOf]; omega
            · have n1 : L.toList ≠ [] := by rw [ByteArray.toList_eq]; exact hT0
              have n2 : L.toList.isEmpty = false := by cases h : L.toList with | nil => exact absurd h n1 | cons a l => rfl
              have i3 := spec_line w2.heap.size t v xs L w2 wr hT0 hLs (by omega) HL.out
              clear hT0
              go_wp2_with (first
                | (go_at_call 23; go_fit i3; (rintro e w3 (⟨rfl, hs, hL3⟩ | ⟨t3, ys, v3, rfl, hs, hd3, hy, hL3⟩)) <;> first | (have HD := Lib.hid (left_dead HK.out hk1 (by rw [HKT.out]; exact hs) rfl); clear hs; obtain ⟨vp, vc, rfl, _⟩ := hL3.2.1.row stC_len; have HL3 := Lib.hid hL3; obtain ⟨⟨a0, a1, a2, a3, a4, a5, a6, a7, a8⟩, b0, b1, b2, b3, b4, b5, b6, b7, b8⟩ := arr_nine hL3.1; clear hL3) | (have HN := Lib.hid (left_on HK.out hk1 (by rw [HKT.out]; exact hs) (hd3.trans HK.out.1)); have HL3 := Lib.hid hL3; clear hL3 hs hd3))
                | (refine wpList_store_row rfl 32 _ _ rfl (w.heap.size + 1) _ rfl rfl 32 _ (fin_ans HJ2.out HL3.out.dead.2.1 HL3.out.dead.2.2.1 hh2 #[]).1 (by kernel_rfl) (by rfl) (by kernel_rfl) ?_))
              · have HE : Hid (feedO s (R ++ T) = ⟨⟨t.f, t.o, t.n, t.op, t.cl, true⟩, [], xs⟩) := Lib.hid (by unfold feedO; rw [HD.out, restK_dead (by rfl)])
                exact bodyPost_ret (v := soV ⟨⟨t.f, t.o, t.n, t.op, t.cl, true⟩, [], xs⟩ (.slice vp xs.length vc) 0) (results_cell_row (P := Tryz.prog) Tryz.results7 _ _ (w.heap.size + 1) 32 _ (0, 0) _ rfl (setRow_heap _ _ _ _ _ _ (fin_ans HJ2.out HL3.out.dead.2.1 HL3.out.dead.2.2.1 hh2 #[]).1) Tryz.underlying32 rfl (by kernel_rfl)) rfl ⟨⟨_, by rw [HE.out], by rw [HE.out]; exact (fin_ans HJ2.out HL3.out.dead.2.1 HL3.out.dead.2.2.1 hh2 _).2.1⟩, (fin_ans HJ2.out HL3.out.dead.2.1 HL3.out.dead.2.2.1 hh2 _).2.2⟩
              · go_roundw
                case rel => exact ⟨k + 1, t3, v3, xs ++ ys, by omega, by go_num, HL3.out, HN.out, by simp; omega⟩
                case measure => simp [intOf]; omega
          · obtain rfl : k = q := by omega
            have HF := Lib.hid (left_end hl (by rw [ini_len HQ.out HP.out]; exact Nat.le_refl _))
            obtain ⟨L, hLq, hLd⟩ := fin_at HQ.out HP.out
            have hc := hL.2.2.1.cell (p := ⟨gl, k, none⟩) hgl
            obtain ⟨hLlt, hLe⟩ := List.getElem?_eq_some_iff.1 hLq
            rw [HR.out k hLlt, hLe] at hc
            have HLD := Lib.hid hLd
            obtain ⟨vp, vc, rfl, _⟩ := hL.2.1.row stC_len
            rcases t with ⟨tf, tt, tn, top, tcl, tde⟩
            obtain rfl : tde = false := hl.1
            have HL := Lib.hid hL
            obtain ⟨⟨a0, a1, a2, a3, a4, a5, a6, a7, a8⟩, b0, b1, b2, b3, b4, b5, b6, b7, b8⟩ := arr_nine hL.1
            dsimp only at a0 a1 a2 a3 a4 a5 a6
            clear hL hl hLq hLe hLlt hLd
            cases tcl
            case true =>
              have HE : Hid (feedO s (R ++ T) = ⟨⟨tf, tt, tn, top, true, false⟩, [], xs⟩) := Lib.hid (by unfold feedO; rw [HF.out, restK_shut (by rfl)])
              go_wp2_with (refine wpList_store_row rfl 32 _ _ rfl (w.heap.size + 1) _ rfl rfl 32 _ (fin_ans HJ2.out HL.out.2.1 HL.out.2.2.1 hh2 #[]).1 (by kernel_rfl) (by rfl) (by kernel_rfl) ?_)
              exact bodyPost_ret (v := soV ⟨⟨tf, tt, tn, top, true, false⟩, [], xs⟩ (.slice vp xs.length vc) 0) (results_cell_row (P := Tryz.prog) Tryz.results7 _ _ (w.heap.size + 1) 32 _ (0, 0) _ rfl (setRow_heap _ _ _ _ _ _ (fin_ans HJ2.out HL.out.2.1 HL.out.2.2.1 hh2 #[]).1) Tryz.underlying32 rfl (by kernel_rfl)) rfl ⟨⟨_, by rw [HE.out], by rw [HE.out]; exact (fin_ans HJ2.out HL.out.2.1 HL.out.2.2.1 hh2 _).2.1⟩, (fin_ans HJ2.out HL.out.2.1 HL.out.2.2.1 hh2 _).2.2⟩
            case false =>
              by_cases hl4 : 4000 < L.size
              · have HE : Hid (feedO s (R ++ T) = ⟨⟨tf, tt, tn, top, false, true⟩, [], xs⟩) := Lib.hid (by unfold feedO; rw [HF.out, restK_long (by rfl) (by rfl) (by rw [← HLD.out, size_data]; exact hl4)])
                go_wp2_with (refine wpList_store_row rfl 32 _ _ rfl (w.heap.size + 1) _ rfl rfl 32 _ (fin_ans HJ2.out HL.out.dead.2.1 HL.out.dead.2.2.1 hh2 #[]).1 (by kernel_rfl) (by rfl) (by kernel_rfl) ?_)
                exact bodyPost_ret (v := soV ⟨⟨tf, tt, tn, top, false, true⟩, [], xs⟩ (.slice vp xs.length vc) 0) (results_cell_row (P := Tryz.prog) Tryz.results7 _ _ (w.heap.size + 1) 32 _ (0, 0) _ rfl (setRow_heap _ _ _ _ _ _ (fin_ans HJ2.out HL.out.dead.2.1 HL.out.dead.2.2.1 hh2 #[]).1) Tryz.underlying32 rfl (by kernel_rfl)) rfl ⟨⟨_, by rw [HE.out], by rw [HE.out]; exact (fin_ans HJ2.out HL.out.dead.2.1 HL.out.dead.2.2.1 hh2 _).2.1⟩, (fin_ans HJ2.out HL.out.dead.2.1 HL.out.dead.2.2.1 hh2 _).2.2⟩
              · have HE : Hid (feedO s (R ++ T) = ⟨⟨tf, tt, tn, top, false, false⟩, L.data.toList, xs⟩) := Lib.hid (by unfold feedO; rw [HF.out, restK_on (by rfl) (by rfl) (by rw [← HLD.out, size_data]; exact hl4), HLD.out])
                go_wp2_with (refine wpList_store_row rfl 32 _ _ rfl (w.heap.size + 1) _ rfl rfl 32 _ (fin_ans HJ2.out (HL.out.2.1.low (a := ⟨w2.heap.size, 3, none⟩) (Nat.lt_succ_self _) (.string L)) (HL.out.2.2.1.setCell (p := ⟨w2.heap.size, 3, none⟩) (Nat.le_refl _) (.string L)) hh2 #[]).1 (by kernel_rfl) (by rfl) (by kernel_rfl) ?_)
                exact bodyPost_ret (v := soV ⟨⟨tf, tt, tn, top, false, false⟩, L.data.toList, xs⟩ (.slice vp xs.length vc) 0) (results_cell_row (P := Tryz.prog) Tryz.results7 _ _ (w.heap.size + 1) 32 _ (0, 0) _ rfl (setRow_heap _ _ _ _ _ _ (fin_ans HJ2.out (HL.out.2.1.low (a := ⟨w2.heap.size, 3, none⟩) (Nat.lt_succ_self _) (.string L)) (HL.out.2.2.1.setCell (p := ⟨w2.heap.size, 3, none⟩) (Nat.le_refl _) (.string L)) hh2 #[]).1) Tryz.underlying32 rfl (by kernel_rfl)) rfl ⟨⟨_, by rw [HE.out], by rw [HE.out]; exact (fin_ans HJ2.out (HL.out.2.1.low (a := ⟨w2.heap.size, 3, none⟩) (Nat.lt_succ_self _) (.string L)) (HL.out.2.2.1.setCell (p := ⟨w2.heap.size, 3, none⟩) (Nat.le_refl _) (.string L)) hh2 _).2.1⟩, (fin_ans HJ2.out (HL.out.2.1.low (a := ⟨w2.heap.size, 3, none⟩) (Nat.lt_succ_self _) (.string L)) (HL.out.2.2.1.setCell (p := ⟨w2.heap.size, 3, none⟩) (Nat.le_refl _) (.string L)) hh2 _).2.2⟩
end Go.Proofs.YtgcfognljkebjaaGreatDoor

namespace Go.Proofs.YtgcfognljkebjaaGreatDoor
set_option linter.unusedSimpArgs false
set_option linter.unusedVariables false
open Go.RowKit

/-- The mark of a number. -/
def mkT (k : Nat) : ByteArray := strOf (109 :: dgL k)
theorem dg_len2 (m : Nat) (h : m ≤ 1000000000000) : (dgL m).length ≤ 13 := by
  unfold dgL
  split
  · simp
  · exact dec_len m 12 (by omega)
set_option maxRecDepth 100000 in
set_option maxHeartbeats 1000000 in
theorem mark_text (N : Nat) (w : World) (h0 : 0 < N) (h1 : N ≤ 1000000000000) :
    Calls Tryz.prog 53 #[.int .i64 (N : Int)] w fun e w' => e = .returned (.string (mkT N)) ∧ Below w.heap.size w w' := by
  have hz : ¬ ((N : Int) ≤ 0) := by omega
  unfold mkT
  go_enter Tryz.func53, Tryz.ntmps53
  go_wp2
  clear hz
  go_loopw [0, 3] (fun q s W => ∃ (m : Nat) (l : List UInt8), m ≤ N ∧ q = .int .i64 m ∧ s = .string (strOf l) ∧ dgL N = dgL m ++ l ∧ Below w.heap.size w W) (fun q _ _ => (intOf q).toNat)
  case atStart => exact ⟨N, [], Nat.le_refl _, rfl, rfl, by simp, Below.refl _ _⟩
  case round =>
    obtain ⟨m, l, hm, rfl, rfl, hd, hB⟩ := hrel
    have hs2 : (strOf l).size ≤ 13 := by
      rw [strOf_size]
      have e := congrArg List.length hd
      rw [List.length_append] at e
      have := dg_len2 N (by omega)
      omega
    by_cases hz : 0 < m
    · have hmod : (0 : Int) ≤ (m : Int) % 10 := by omega
      have hmod2 : (m : Int) % 10 ≤ 9 := by omega
      have hdig : (48 : Int) + (m : Int) % 10 = ((UInt8.ofNat (48 + m % 10)).toNat : Int) := by
        rw [UInt8.toNat_ofNat']
        omega
      obtain ⟨b, hb0⟩ : ∃ b : UInt8, b = UInt8.ofNat (48 + m % 10) := ⟨_, rfl⟩
      have HD : Hid (dgL N = dgL (m / 10) ++ ([b] ++ l)) := Lib.hid (by rw [hd, dg_step hz, hb0]; simp)
      have hcv := str_digit wr ((48 : Int) + (m : Int) % 10) b (by rw [hb0]; exact hdig)
      have hq : (m : Int) / 10 = ((m / 10 : Nat) : Int) := by omega
      have HQ := Lib.hid hq
      have hs1 : (strOf [b]).size = 1 := rfl
      clear hd hdig hb0 hq
      go_wp2
      go_roundw
      case rel => exact ⟨m / 10, [b] ++ l, by omega, by rw [HQ.out], by rw [strOf_app], HD.out, hB.alloc hB.size _⟩
      case measure => simp [intOf]; omega
    · obtain rfl : m = 0 := by omega
      have HD : Hid (dgL N = l) := Lib.hid (by rw [hd]; simp [dgL])
      clear hd
      go_wp2
      go_ret
      exact ⟨ret_str (by rw [HD.out]; exact (strOf_app [109] l).symm), hB⟩
end Go.Proofs.YtgcfognljkebjaaGreatDoor

namespace Go.Proofs.YtgcfognljkebjaaGreatDoor
set_option linter.unusedSimpArgs false
set_option linter.unusedVariables false
open Go.RowKit

/-- The first m cells of L are the marks from k on. -/
def Marked (f : Nat → Nat → Value) (k : Nat) (L : List Value) (m : Nat) : Prop := ∀ q, q < m → L[q]? = some (f q (k + q))
theorem Marked.step {f : Nat → Nat → Value} {k : Nat} {L : List Value} {m : Nat} (h : Marked f k L m) (hm : m < L.length) {u : Value} (hu : u = f m (k + m)) : Marked f k (L.set m u) (m + 1) := by
  intro q hq
  by_cases e : q = m
  · subst e
    rw [List.getElem?_set_self hm, hu]
  · rw [List.getElem?_set_ne (by omega)]
    exact h q (by omega)
/-- All blocks but g are as they were. -/
def Keep (g : Nat) (w W : World) : Prop := w.heap.size ≤ W.heap.size ∧ ∀ k, k < w.heap.size → k ≠ g → W.heap[k]? = w.heap[k]?
theorem Keep.refl (g : Nat) (w : World) : Keep g w w := ⟨Nat.le_refl _, fun _ _ _ => rfl⟩
theorem Keep.on {g : Nat} {w W W2 : World} (h : Keep g w W) (hb : Below W.heap.size W W2) : Keep g w W2 := ⟨Nat.le_trans h.1 hb.size, fun k hk hne => (hb.block k (Nat.lt_of_lt_of_le hk h.1)).trans (h.2 k hk hne)⟩
theorem Keep.put {g : Nat} {w W : World} (h : Keep g w W) (i : Nat) (u : Value) : Keep g w (W.setCell ⟨g, i, none⟩ u) := ⟨by simpa [World.setCell] using h.1, fun k hk hne => (heap_setCell_other W ⟨g, i, none⟩ k u hne).trans (h.2 k hk hne)⟩
theorem Keep.arr {g b t : Nat} {cs : List Value} {w W : World} (h : Keep g w W) (hA : Arr w b t cs) (hne : b ≠ g) : Arr W b t cs := (h.2 b (Array.getElem?_eq_some_iff.1 hA).1 hne).trans hA
theorem Keep.own {α : Type} {enc : α → List Value} {g B e size : Nat} {v : Value} {xs : List α} {w W : World} (h : Keep g w W) (ho : OwnC enc w B e size v xs) (hne : ∀ k, v.ownBlock = some k → k ≠ g) : OwnC enc W B e size v xs := by
  refine ⟨ho.1, ?_⟩
  rcases ho.2 with h0 | ⟨b, cap, cur, h1, h2, h3, h4⟩
  · exact .inl h0
  · refine .inr ⟨b, cap, cur, h1, h2, (h.2 b (Array.getElem?_eq_some_iff.1 h3).1 (hne b ?_)).trans h3, h4⟩
    rw [h1]
    rfl
/-- The slice v is a row of n elements of size cells each; so many cells are marked so far; below B the world is as w, and so is every block but the row's. -/
def MRow (f : Nat → Nat → Value) (k : Nat) (w : World) (B e size g n cap : Nat) (W : World) (m : Nat) : Prop := (∃ L, W.ownsRow B e size (.slice (some ⟨g, 0, none⟩) n cap) n L ∧ Marked f k L m) ∧ Below B w W ∧ B ≤ w.heap.size ∧ Keep g w W
theorem MRow.on {f : Nat → Nat → Value} {k B e size g n cap m : Nat} {w W W2 : World} (h : MRow f k w B e size g n cap W m) (hb : Below W.heap.size W W2) : MRow f k w B e size g n cap W2 m := by
  obtain ⟨⟨L, h1, h2⟩, h3, h4, h5⟩ := h
  exact ⟨⟨L, ownsRow_on h1 hb, h2⟩, h3.trans (hb.mono (Nat.le_trans h4 h3.size)), h4, h5.on hb⟩
theorem MRow.put {f : Nat → Nat → Value} {k B e size g n cap m : Nat} {w W : World} (h : MRow f k w B e size g n cap W m) (hm : m < n * size) {u : Value} (hu : u = f m (k + m)) : MRow f k w B e size g n cap (W.setCell ⟨g, m, none⟩ u) (m + 1) := by
  obtain ⟨⟨L, h1, h2⟩, h3, h4, h5⟩ := h
  exact ⟨⟨L.set m u, (h1.stored m u).1, h2.step (by rw [h1.1]; exact hm) hu⟩, h3.setCell (p := ⟨g, m, none⟩) (h1.lt g rfl).1 u, h4, h5.put m u⟩
theorem MRow.there {f : Nat → Nat → Value} {k B e size g n cap m : Nat} {w W : World} (h : MRow f k w B e size g n cap W m) {q : Nat} (hq : q < n * size) : (∃ u, W.cell? ⟨g, q, none⟩ = some u) ∧ W.frozen? ⟨g, q, none⟩ = false := by
  obtain ⟨⟨L, h1, h2⟩, _⟩ := h
  refine ⟨?_, h1.frozenAt q⟩
  rw [h1.cellAt q hq]
  exact ⟨L[q]'(by rw [h1.1]; exact hq), List.getElem?_eq_getElem _⟩
theorem MRow.cell {f : Nat → Nat → Value} {k B e size g n cap m : Nat} {w W : World} (h : MRow f k w B e size g n cap W m) {q : Nat} (hq : q < n * size) (hm : q < m) : W.cell? ⟨g, q, none⟩ = some (f q (k + q)) := by
  obtain ⟨⟨L, h1, h2⟩, _⟩ := h
  rw [h1.cellAt q hq]
  exact h2 q hm
theorem MRow.lt {f : Nat → Nat → Value} {k B e size g n cap m : Nat} {w W : World} (h : MRow f k w B e size g n cap W m) : B ≤ g ∧ g < W.heap.size := by
  obtain ⟨⟨L, h1, h2⟩, _⟩ := h
  exact h1.lt g rfl
theorem mrow_of {α : Type} {enc : α → List Value} {f : Nat → Nat → Value} {k B e size g n cap : Nat} {w : World} {xs : List α} (h : OwnC enc w B e size (.slice (some ⟨g, 0, none⟩) n cap) xs) (hB : B ≤ w.heap.size) : MRow f k w B e size g n cap w 0 := by
  have hn : n = xs.length := by
    rcases h.2 with ⟨h0, _⟩ | ⟨g', cap', cur, h1, _⟩
    · cases h0
    · injection h1 with _ h2 _
  subst hn
  exact ⟨⟨_, h, fun q hq => absurd hq (Nat.not_lt_zero _)⟩, Below.refl _ _, hB, Keep.refl _ _⟩
/-- The slice v of n elements is marked from k on. -/
def MOwn (f : Nat → Nat → Value) (k : Nat) (B e size : Nat) (v : Value) (n : Nat) (W : World) : Prop := ∃ p cap, v = .slice p n cap ∧ (n = 0 ∨ ∃ g w, p = some ⟨g, 0, none⟩ ∧ MRow f k w B e size g n cap W (n * size))
theorem MOwn.on {f : Nat → Nat → Value} {k B e size n : Nat} {v : Value} {W W2 : World} (h : MOwn f k B e size v n W) (hb : Below W.heap.size W W2) : MOwn f k B e size v n W2 := by
  obtain ⟨p, cap, h1, h2⟩ := h
  refine ⟨p, cap, h1, ?_⟩
  rcases h2 with h0 | ⟨g, w, hp, hM⟩
  · exact .inl h0
  · exact .inr ⟨g, w, hp, hM.on hb⟩
/-- What marking leaves as it was. -/
def MFrame (B : Nat) (v : Value) (w W : World) : Prop := Below B w W ∧ w.heap.size ≤ W.heap.size ∧ ∀ k, k < w.heap.size → (∀ g, v.ownBlock = some g → k ≠ g) → W.heap[k]? = w.heap[k]?
theorem MFrame.arr {B b t : Nat} {v : Value} {cs : List Value} {w W : World} (h : MFrame B v w W) (hA : Arr w b t cs) (hne : ∀ g, v.ownBlock = some g → b ≠ g) : Arr W b t cs := (h.2.2 b (Array.getElem?_eq_some_iff.1 hA).1 hne).trans hA
theorem mark_textI (z : Int) (w : World) (h0 : 0 < z) (h1 : z ≤ 1000000000000) :
    Calls Tryz.prog 53 #[.int .i64 z] w fun e w' => e = .returned (.string (mkT z.toNat)) ∧ Below w.heap.size w w' := by
  obtain ⟨N, rfl⟩ : ∃ N : Nat, z = (N : Int) := ⟨z.toNat, by omega⟩
  rw [Int.toNat_natCast]
  exact mark_text N w (by omega) (by omega)
end Go.Proofs.YtgcfognljkebjaaGreatDoor

namespace Go.Proofs.YtgcfognljkebjaaGreatDoor
set_option linter.unusedSimpArgs false
set_option linter.unusedVariables false
open Go.RowKit

def mk_st (q k : Nat) : Value := if q % 6 = 4 then .int .i64 (k : Int) else .string (mkT k)
theorem mk_st_s {q k : Nat} {z : Int} (h4 : q % 6 ≠ 4) (hz : z.toNat = k) : Value.string (mkT z.toNat) = mk_st q k := by
  unfold mk_st
  rw [if_neg h4, hz]
theorem mk_st_4 {q k : Nat} {z : Int} (h : q % 6 = 4) (hz : z = (k : Int)) : Value.int .i64 z = mk_st q k := by
  unfold mk_st
  rw [if_pos h, hz]
theorem MRow.st {f : Nat → Nat → Value} {k B e g n cap m : Nat} {w W : World} (h : MRow f k w B e 6 g n cap W m) {i : Nat} (hi : i < n) : ∃ u0 u1 u2 u3 u4 u5, (W.cell? ⟨g, i * 6, none⟩ = some u0 ∧ W.cell? ⟨g, i * 6 + 1, none⟩ = some u1 ∧ W.cell? ⟨g, i * 6 + 2, none⟩ = some u2 ∧ W.cell? ⟨g, i * 6 + 3, none⟩ = some u3 ∧ W.cell? ⟨g, i * 6 + 4, none⟩ = some u4 ∧ W.cell? ⟨g, i * 6 + 5, none⟩ = some u5) ∧ W.frozen? ⟨g, i * 6, none⟩ = false ∧ W.frozen? ⟨g, i * 6 + 1, none⟩ = false ∧ W.frozen? ⟨g, i * 6 + 2, none⟩ = false ∧ W.frozen? ⟨g, i * 6 + 3, none⟩ = false ∧ W.frozen? ⟨g, i * 6 + 4, none⟩ = false ∧ W.frozen? ⟨g, i * 6 + 5, none⟩ = false := by
  obtain ⟨⟨u0, c0⟩, f0⟩ := h.there (q := i * 6) (by omega)
  obtain ⟨⟨u1, c1⟩, f1⟩ := h.there (q := i * 6 + 1) (by omega)
  obtain ⟨⟨u2, c2⟩, f2⟩ := h.there (q := i * 6 + 2) (by omega)
  obtain ⟨⟨u3, c3⟩, f3⟩ := h.there (q := i * 6 + 3) (by omega)
  obtain ⟨⟨u4, c4⟩, f4⟩ := h.there (q := i * 6 + 4) (by omega)
  obtain ⟨⟨u5, c5⟩, f5⟩ := h.there (q := i * 6 + 5) (by omega)
  exact ⟨u0, u1, u2, u3, u4, u5, ⟨c0, c1, c2, c3, c4, c5⟩, f0, f1, f2, f3, f4, f5⟩
set_option maxRecDepth 100000 in
set_option maxHeartbeats 1000000 in
theorem mark_st (B g n cap k0 : Nat) (w : World) (hk : 0 < k0) (hk1 : k0 ≤ 1000000) (hn : n ≤ 1000000) (h : MRow mk_st k0 w B 70 6 g n cap w 0) :
    Calls Tryz.prog 32 #[.slice (some ⟨g, 0, none⟩) n cap, .int .i64 (k0 : Int)] w fun e w' => e = .returned (.int .i64 ((k0 : Int) + n * 6)) ∧ MRow mk_st k0 w B 70 6 g n cap w' (n * 6) := by
  have HH := Lib.hid h
  clear h
  go_enter Tryz.func32, Tryz.ntmps32
  go_wp2
  go_loopw [1, 5] (fun kq iq wr => ∃ (i : Nat) (z : Int), i ≤ n ∧ iq = .int .i64 i ∧ kq = .int .i64 z ∧ z = (k0 : Int) + i * 6 ∧ MRow mk_st k0 w B 70 6 g n cap wr (i * 6)) (fun _ i _ => n - (intOf i).toNat)
  case atStart => exact ⟨0, _, Nat.zero_le _, rfl, rfl, by simp, by simpa using HH.out⟩
  case round =>
    obtain ⟨i, z, hi, rfl, rfl, hz, hM⟩ := hrel
    have hz0 : 0 < z := by omega
    have hz1 : z ≤ 100000000 := by omega
    have HZ := Lib.hid hz
    have HM := Lib.hid hM
    clear hz hM
    by_cases hlt : i < n
    · clear hk hk1
      go_wp2_with (first
        | (go_at_call 53; have _ := HM3; go_fit (mark_textI _ _ (by omega) (by omega)); rintro e w5 ⟨rfl, hb5⟩; have HM5 := Lib.hid ((((HM3.out.put (by omega) (mk_st_s (by omega) (by have := HZ.out; omega))).put (by omega) (mk_st_4 (by omega) (by have := HZ.out; omega)))).on hb5); clear hb5; obtain ⟨u0, u1, u2, u3, u4, u5, ⟨c0, c1, c2, c3, c4, c5⟩, f0, f1, f2, f3, f4, f5⟩ := HM5.out.st hlt)
        | (go_at_call 53; have _ := HM2; go_fit (mark_textI _ _ (by omega) (by omega)); rintro e w3 ⟨rfl, hb3⟩; have HM3 := Lib.hid (((HM2.out.put (by omega) (mk_st_s (by omega) (by have := HZ.out; omega)))).on hb3); clear hb3; obtain ⟨u0, u1, u2, u3, u4, u5, ⟨c0, c1, c2, c3, c4, c5⟩, f0, f1, f2, f3, f4, f5⟩ := HM3.out.st hlt)
        | (go_at_call 53; have _ := HM1; go_fit (mark_textI _ _ (by omega) (by omega)); rintro e w2 ⟨rfl, hb2⟩; have HM2 := Lib.hid (((HM1.out.put (by omega) (mk_st_s (by omega) (by have := HZ.out; omega)))).on hb2); clear hb2; obtain ⟨u0, u1, u2, u3, u4, u5, ⟨c0, c1, c2, c3, c4, c5⟩, f0, f1, f2, f3, f4, f5⟩ := HM2.out.st hlt)
        | (go_at_call 53; have _ := HM0; go_fit (mark_textI _ _ (by omega) (by omega)); rintro e w1 ⟨rfl, hb1⟩; have HM1 := Lib.hid (((HM0.out.put (by omega) (mk_st_s (by omega) (by have := HZ.out; omega)))).on hb1); clear hb1; obtain ⟨u0, u1, u2, u3, u4, u5, ⟨c0, c1, c2, c3, c4, c5⟩, f0, f1, f2, f3, f4, f5⟩ := HM1.out.st hlt)
        | (go_at_call 53; go_fit (mark_textI _ _ (by omega) (by omega)); rintro e w0 ⟨rfl, hb0⟩; have HM0 := Lib.hid ((HM.out).on hb0); clear hb0; obtain ⟨u0, u1, u2, u3, u4, u5, ⟨c0, c1, c2, c3, c4, c5⟩, f0, f1, f2, f3, f4, f5⟩ := HM0.out.st hlt))
      go_roundw
      case rel => exact ⟨i + 1, _, by omega, by go_num, rfl, by have := HZ.out; omega, by rw [show (i + 1) * 6 = i * 6 + 5 + 1 by omega]; exact (HM5.out.put (by omega) (mk_st_s (by omega) (by have := HZ.out; omega)))⟩
      case measure => simp [intOf]; omega
    · obtain rfl : i = n := by omega
      go_wp2
      go_ret
      exact ⟨ret_int HZ.out, HM.out⟩
theorem mark_st_0 (p : Option Addr) (cap k0 : Nat) (w : World) (hk1 : k0 ≤ 1000000) :
    Calls Tryz.prog 32 #[.slice p 0 cap, .int .i64 (k0 : Int)] w fun e w' => e = .returned (.int .i64 (k0 : Int)) ∧ w = w' := by
  go_enter Tryz.func32, Tryz.ntmps32
  go_wp2
  go_loopw [1, 5] (fun kq iq wr => kq = .int .i64 (k0 : Int) ∧ iq = .int .i64 0 ∧ w = wr) (fun _ _ _ => 0)
  case atStart => exact ⟨rfl, rfl, rfl⟩
  case round =>
    obtain ⟨rfl, rfl, rfl⟩ := hrel
    go_wp2
    go_ret
    exact ⟨rfl, rfl⟩
theorem held_st_0 (p : Option Addr) (cap k0 : Nat) (w : World) (hk1 : k0 ≤ 1000000) :
    Calls Tryz.prog 33 #[.slice p 0 cap, .int .i64 (k0 : Int)] w fun e w' => e = .returned (.int .i64 (k0 : Int)) ∧ w = w' := by
  go_enter Tryz.func33, Tryz.ntmps33
  go_wp2
  go_loopw [1, 5] (fun kq iq wr => kq = .int .i64 (k0 : Int) ∧ iq = .int .i64 0 ∧ w = wr) (fun _ _ _ => 0)
  case atStart => exact ⟨rfl, rfl, rfl⟩
  case round =>
    obtain ⟨rfl, rfl, rfl⟩ := hrel
    go_wp2
    go_ret
    exact ⟨rfl, rfl⟩
abbrev Held_st (g i : Nat) (z : Int) (wr W : World) : Prop := (W.cell? ⟨g, i * 6, none⟩ = some (.string (mkT (z).toNat)) ∧ W.cell? ⟨g, i * 6 + 1, none⟩ = some (.string (mkT (z + 1).toNat)) ∧ W.cell? ⟨g, i * 6 + 2, none⟩ = some (.string (mkT (z + 1 + 1).toNat)) ∧ W.cell? ⟨g, i * 6 + 3, none⟩ = some (.string (mkT (z + 1 + 1 + 1).toNat)) ∧ W.cell? ⟨g, i * 6 + 4, none⟩ = some (.int .i64 (z + 1 + 1 + 1 + 1)) ∧ W.cell? ⟨g, i * 6 + 5, none⟩ = some (.string (mkT (z + 1 + 1 + 1 + 1 + 1).toNat))) ∧ (Below wr.heap.size wr W ∧ g < wr.heap.size)
theorem held_st_on {g i : Nat} {z : Int} {wr W W2 : World} (h : Held_st g i z wr W) (hb : Below W.heap.size W W2) : Held_st g i z wr W2 := by
  obtain ⟨⟨c0, c1, c2, c3, c4, c5⟩, h1, h2⟩ := h
  have hg : g < W.heap.size := Nat.lt_of_lt_of_le h2 h1.size
  exact ⟨⟨(hb.cell (p := ⟨g, i * 6, none⟩) hg).trans c0, (hb.cell (p := ⟨g, i * 6 + 1, none⟩) hg).trans c1, (hb.cell (p := ⟨g, i * 6 + 2, none⟩) hg).trans c2, (hb.cell (p := ⟨g, i * 6 + 3, none⟩) hg).trans c3, (hb.cell (p := ⟨g, i * 6 + 4, none⟩) hg).trans c4, (hb.cell (p := ⟨g, i * 6 + 5, none⟩) hg).trans c5⟩, h1.trans (hb.mono h1.size), h2⟩
theorem held_st_drew {g i : Nat} {z : Int} {wr W : World} (h : Held_st g i z wr W) : Held_st g i z wr W.drew := held_st_on h (Below.refl _ _).drew
theorem held_st_of {k0 B g n cap m i : Nat} {z : Int} {w wr : World} (h : MRow mk_st k0 w B 70 6 g n cap wr m) (hi : i < n) (hm : i * 6 + 6 ≤ m) (hz : z = (k0 : Int) + i * 6) : Held_st g i z wr wr := by
  refine ⟨⟨?_, ?_, ?_, ?_, ?_, ?_⟩, Below.refl _ _, h.lt.2⟩
  · exact (h.cell (by omega) (by omega)).trans (congrArg some (mk_st_s (by omega) (by omega)).symm)
  · exact (h.cell (by omega) (by omega)).trans (congrArg some (mk_st_s (by omega) (by omega)).symm)
  · exact (h.cell (by omega) (by omega)).trans (congrArg some (mk_st_s (by omega) (by omega)).symm)
  · exact (h.cell (by omega) (by omega)).trans (congrArg some (mk_st_s (by omega) (by omega)).symm)
  · exact (h.cell (by omega) (by omega)).trans (congrArg some (mk_st_4 (by omega) (by omega)).symm)
  · exact (h.cell (by omega) (by omega)).trans (congrArg some (mk_st_s (by omega) (by omega)).symm)
set_option maxRecDepth 100000 in
set_option maxHeartbeats 2000000 in
theorem heldr_st (B g n cap k0 m : Nat) (w0 w : World) (hk : 0 < k0) (hk1 : k0 ≤ 1000000) (hn : n ≤ 1000000) (h : MRow mk_st k0 w0 B 70 6 g n cap w m) (hm : m = n * 6) :
    Calls Tryz.prog 33 #[.slice (some ⟨g, 0, none⟩) n cap, .int .i64 (k0 : Int)] w fun e w' => e = .returned (.int .i64 ((k0 : Int) + n * 6)) ∧ Below w.heap.size w w' := by
  have HH := Lib.hid h
  clear h
  go_enter Tryz.func33, Tryz.ntmps33
  go_wp2
  go_loopw [1, 5] (fun kq iq wr => ∃ (i : Nat) (z : Int), i ≤ n ∧ iq = .int .i64 i ∧ kq = .int .i64 z ∧ z = (k0 : Int) + i * 6 ∧ Below w.heap.size w wr) (fun _ i _ => n - (intOf i).toNat)
  case atStart => exact ⟨0, _, Nat.zero_le _, rfl, rfl, by simp, Below.refl _ _⟩
  case round =>
    obtain ⟨i, z, hi, rfl, rfl, hz, hb⟩ := hrel
    have hz0 : 0 < z := by omega
    have hz1 : z ≤ 100000000 := by omega
    have HZ := Lib.hid hz
    have HB := Lib.hid hb
    by_cases hlt : i < n
    · have hS := held_st_of (HH.out.on hb) hlt (by omega) hz
      have HS := Lib.hid hS
      obtain ⟨⟨c0, c1, c2, c3, c4, c5⟩, _, _⟩ := hS
      clear hz hb hk hk1 hm
      go_wp2
      go_region_held3 (fun W => (W.cell? ⟨g, i * 6, none⟩ = some (.string (mkT (z).toNat)) ∧ W.cell? ⟨g, i * 6 + 1, none⟩ = some (.string (mkT (z + 1).toNat)) ∧ W.cell? ⟨g, i * 6 + 2, none⟩ = some (.string (mkT (z + 1 + 1).toNat)) ∧ W.cell? ⟨g, i * 6 + 3, none⟩ = some (.string (mkT (z + 1 + 1 + 1).toNat)) ∧ W.cell? ⟨g, i * 6 + 4, none⟩ = some (.int .i64 (z + 1 + 1 + 1 + 1)) ∧ W.cell? ⟨g, i * 6 + 5, none⟩ = some (.string (mkT (z + 1 + 1 + 1 + 1 + 1).toNat))) ∧ (Below wr.heap.size wr W ∧ g < wr.heap.size))
        (with_reducible first | assumption | exact held_st_drew HS.out | exact held_st_on (by assumption) hbN)
        (first | (go_at_call 53; go_fit (mark_textI _ _ (by omega) (by omega)); rintro e wn0 ⟨rfl, hbN⟩; have HS0 := Lib.hid (held_st_on (z := z) (i := i) (wr := wr) (by assumption) hbN); obtain ⟨⟨d0, d1, d2, d3, d4, d5⟩, _, _⟩ := HS0.out))
      go_wp2
      go_region_held3 (fun W => (W.cell? ⟨g, i * 6, none⟩ = some (.string (mkT (z).toNat)) ∧ W.cell? ⟨g, i * 6 + 1, none⟩ = some (.string (mkT (z + 1).toNat)) ∧ W.cell? ⟨g, i * 6 + 2, none⟩ = some (.string (mkT (z + 1 + 1).toNat)) ∧ W.cell? ⟨g, i * 6 + 3, none⟩ = some (.string (mkT (z + 1 + 1 + 1).toNat)) ∧ W.cell? ⟨g, i * 6 + 4, none⟩ = some (.int .i64 (z + 1 + 1 + 1 + 1)) ∧ W.cell? ⟨g, i * 6 + 5, none⟩ = some (.string (mkT (z + 1 + 1 + 1 + 1 + 1).toNat))) ∧ (Below wr.heap.size wr W ∧ g < wr.heap.size))
        (with_reducible first | assumption | exact held_st_drew HS0.out | exact held_st_on (by assumption) hbN)
        (first | (go_at_call 53; go_fit (mark_textI _ _ (by omega) (by omega)); rintro e wn1 ⟨rfl, hbN⟩; have HS1 := Lib.hid (held_st_on (z := z) (i := i) (wr := wr) (by assumption) hbN); obtain ⟨⟨d0, d1, d2, d3, d4, d5⟩, _, _⟩ := HS1.out))
      go_wp2
      go_region_held3 (fun W => (W.cell? ⟨g, i * 6, none⟩ = some (.string (mkT (z).toNat)) ∧ W.cell? ⟨g, i * 6 + 1, none⟩ = some (.string (mkT (z + 1).toNat)) ∧ W.cell? ⟨g, i * 6 + 2, none⟩ = some (.string (mkT (z + 1 + 1).toNat)) ∧ W.cell? ⟨g, i * 6 + 3, none⟩ = some (.string (mkT (z + 1 + 1 + 1).toNat)) ∧ W.cell? ⟨g, i * 6 + 4, none⟩ = some (.int .i64 (z + 1 + 1 + 1 + 1)) ∧ W.cell? ⟨g, i * 6 + 5, none⟩ = some (.string (mkT (z + 1 + 1 + 1 + 1 + 1).toNat))) ∧ (Below wr.heap.size wr W ∧ g < wr.heap.size))
        (with_reducible first | assumption | exact held_st_drew HS1.out | exact held_st_on (by assumption) hbN)
        (first | (go_at_call 53; go_fit (mark_textI _ _ (by omega) (by omega)); rintro e wn2 ⟨rfl, hbN⟩; have HS2 := Lib.hid (held_st_on (z := z) (i := i) (wr := wr) (by assumption) hbN); obtain ⟨⟨d0, d1, d2, d3, d4, d5⟩, _, _⟩ := HS2.out))
      go_wp2
      go_region_held3 (fun W => (W.cell? ⟨g, i * 6, none⟩ = some (.string (mkT (z).toNat)) ∧ W.cell? ⟨g, i * 6 + 1, none⟩ = some (.string (mkT (z + 1).toNat)) ∧ W.cell? ⟨g, i * 6 + 2, none⟩ = some (.string (mkT (z + 1 + 1).toNat)) ∧ W.cell? ⟨g, i * 6 + 3, none⟩ = some (.string (mkT (z + 1 + 1 + 1).toNat)) ∧ W.cell? ⟨g, i * 6 + 4, none⟩ = some (.int .i64 (z + 1 + 1 + 1 + 1)) ∧ W.cell? ⟨g, i * 6 + 5, none⟩ = some (.string (mkT (z + 1 + 1 + 1 + 1 + 1).toNat))) ∧ (Below wr.heap.size wr W ∧ g < wr.heap.size))
        (with_reducible first | assumption | exact held_st_drew HS2.out | exact held_st_on (by assumption) hbN)
        (first | (go_at_call 53; go_fit (mark_textI _ _ (by omega) (by omega)); rintro e wn3 ⟨rfl, hbN⟩; have HS3 := Lib.hid (held_st_on (z := z) (i := i) (wr := wr) (by assumption) hbN); obtain ⟨⟨d0, d1, d2, d3, d4, d5⟩, _, _⟩ := HS3.out))
      go_wp2
      go_region_held3 (fun W => (W.cell? ⟨g, i * 6, none⟩ = some (.string (mkT (z).toNat)) ∧ W.cell? ⟨g, i * 6 + 1, none⟩ = some (.string (mkT (z + 1).toNat)) ∧ W.cell? ⟨g, i * 6 + 2, none⟩ = some (.string (mkT (z + 1 + 1).toNat)) ∧ W.cell? ⟨g, i * 6 + 3, none⟩ = some (.string (mkT (z + 1 + 1 + 1).toNat)) ∧ W.cell? ⟨g, i * 6 + 4, none⟩ = some (.int .i64 (z + 1 + 1 + 1 + 1)) ∧ W.cell? ⟨g, i * 6 + 5, none⟩ = some (.string (mkT (z + 1 + 1 + 1 + 1 + 1).toNat))) ∧ (Below wr.heap.size wr W ∧ g < wr.heap.size))
        (with_reducible first | assumption | exact held_st_drew HS3.out | exact held_st_on (by assumption) hbN)
        (first | (go_at_call 53; go_fit (mark_textI _ _ (by omega) (by omega)); rintro e wn5 ⟨rfl, hbN⟩; have HS5 := Lib.hid (held_st_on (z := z) (i := i) (wr := wr) (by assumption) hbN); obtain ⟨⟨d0, d1, d2, d3, d4, d5⟩, _, _⟩ := HS5.out))
      go_wp2
      go_roundw
      case rel => exact ⟨i + 1, _, by omega, by go_num, rfl, by have := HZ.out; omega, HB.out.trans (HS5.out.2.1.mono HB.out.size)⟩
      case measure => simp [intOf]; omega
    · obtain rfl : i = n := by omega
      go_wp2
      go_ret
      exact ⟨ret_int HZ.out, HB.out⟩
/-- Marking a slice that the call has made. -/
theorem marks_st {α : Type} (enc : α → List Value) (B k0 : Nat) (v : Value) (xs : List α) (w : World) (hk : 0 < k0) (hk1 : k0 ≤ 1000000) (hn : xs.length ≤ 1000000) (hB : B ≤ w.heap.size) (h : OwnC enc w B 70 6 v xs) :
    Calls Tryz.prog 32 #[v, .int .i64 (k0 : Int)] w fun e w' => e = .returned (.int .i64 ((k0 : Int) + xs.length * 6)) ∧ MOwn mk_st k0 B 70 6 v xs.length w' ∧ MFrame B v w w' := by
  obtain ⟨n, hxn⟩ : ∃ n, xs.length = n := ⟨_, rfl⟩
  rcases Nat.eq_zero_or_pos n with h0 | h0
  · subst h0
    have hv : ∃ p cap, v = .slice p 0 cap := by
      rcases h.2 with ⟨e1, _⟩ | ⟨g, cap, cur, e1, _⟩
      · exact ⟨none, 0, e1⟩
      · exact ⟨_, cap, by rw [e1, hxn]⟩
    obtain ⟨p, cap, rfl⟩ := hv
    rw [hxn]
    refine (mark_st_0 p cap k0 w hk1).mono ?_
    rintro e w' ⟨rfl, rfl⟩
    exact ⟨by simp, ⟨p, cap, rfl, .inl rfl⟩, Below.refl _ _, Nat.le_refl _, fun _ _ _ => rfl⟩
  · obtain ⟨g, cap, rfl⟩ := Joins.ownsRow_form h (by omega)
    rw [hxn] at h hn ⊢
    refine (mark_st B g n cap k0 w hk hk1 hn (mrow_of h hB)).mono ?_
    rintro e w' ⟨rfl, hM⟩
    exact ⟨rfl, ⟨_, cap, rfl, .inr ⟨g, w, rfl, hM⟩⟩, hM.2.1, hM.2.2.2.1, fun k hk hne => hM.2.2.2.2 k hk (hne g rfl)⟩
theorem helds_st (B k0 n : Nat) (v : Value) (w : World) (hk : 0 < k0) (hk1 : k0 ≤ 1000000) (hn : n ≤ 1000000) (h : MOwn mk_st k0 B 70 6 v n w) :
    Calls Tryz.prog 33 #[v, .int .i64 (k0 : Int)] w fun e w' => e = .returned (.int .i64 ((k0 : Int) + n * 6)) ∧ Below w.heap.size w w' := by
  obtain ⟨p, cap, rfl, h1⟩ := h
  rcases h1 with rfl | ⟨g, w0, rfl, hM⟩
  · refine (held_st_0 p cap k0 w hk1).mono ?_
    rintro e w' ⟨rfl, rfl⟩
    exact ⟨by simp, Below.refl _ _⟩
  · exact heldr_st B g n cap k0 _ w0 w hk hk1 hn hM rfl
end Go.Proofs.YtgcfognljkebjaaGreatDoor

namespace Go.Proofs.YtgcfognljkebjaaGreatDoor
set_option linter.unusedSimpArgs false
set_option linter.unusedVariables false
open Go.RowKit

set_option maxRecDepth 100000 in
set_option maxHeartbeats 1000000 in
theorem eq_st (x : StL) (w : World) : Calls Tryz.prog 52 #[.agg #[.string (strOf x.k), .string (strOf x.t), .string (strOf x.f), .string (strOf x.o), .int .i64 x.n, .string (strOf x.b)], .agg #[.string (strOf x.k), .string (strOf x.t), .string (strOf x.f), .string (strOf x.o), .int .i64 x.n, .string (strOf x.b)]] w fun e w' => e = .returned (.bool true) ∧ Below w.heap.size w w' := by
  go_enter Tryz.func52, Tryz.ntmps52
  go_wp2
  go_ret
  exact ⟨rfl, ((Below.refl _ _).alloc (Nat.le_refl _) _).alloc (by simp) _⟩
abbrev Both_st (a b i : Nat) (x : StL) (wr W : World) : Prop := ((W.cell? ⟨a, i * 6, none⟩ = some (.string (strOf x.k)) ∧ W.cell? ⟨a, i * 6 + 1, none⟩ = some (.string (strOf x.t)) ∧ W.cell? ⟨a, i * 6 + 2, none⟩ = some (.string (strOf x.f)) ∧ W.cell? ⟨a, i * 6 + 3, none⟩ = some (.string (strOf x.o)) ∧ W.cell? ⟨a, i * 6 + 4, none⟩ = some (.int .i64 x.n) ∧ W.cell? ⟨a, i * 6 + 5, none⟩ = some (.string (strOf x.b))) ∧ (W.cell? ⟨b, i * 6, none⟩ = some (.string (strOf x.k)) ∧ W.cell? ⟨b, i * 6 + 1, none⟩ = some (.string (strOf x.t)) ∧ W.cell? ⟨b, i * 6 + 2, none⟩ = some (.string (strOf x.f)) ∧ W.cell? ⟨b, i * 6 + 3, none⟩ = some (.string (strOf x.o)) ∧ W.cell? ⟨b, i * 6 + 4, none⟩ = some (.int .i64 x.n) ∧ W.cell? ⟨b, i * 6 + 5, none⟩ = some (.string (strOf x.b)))) ∧ (Below wr.heap.size wr W ∧ a < wr.heap.size ∧ b < wr.heap.size)
theorem both_st_on {a b i : Nat} {x : StL} {wr W W2 : World} (h : Both_st a b i x wr W) (hb : Below W.heap.size W W2) : Both_st a b i x wr W2 := by
  obtain ⟨⟨⟨c0, c1, c2, c3, c4, c5⟩, d0, d1, d2, d3, d4, d5⟩, h1, h2, h3⟩ := h
  have ha : a < W.heap.size := Nat.lt_of_lt_of_le h2 h1.size
  have hb0 : b < W.heap.size := Nat.lt_of_lt_of_le h3 h1.size
  exact ⟨⟨⟨(hb.cell (p := ⟨a, i * 6, none⟩) ha).trans c0, (hb.cell (p := ⟨a, i * 6 + 1, none⟩) ha).trans c1, (hb.cell (p := ⟨a, i * 6 + 2, none⟩) ha).trans c2, (hb.cell (p := ⟨a, i * 6 + 3, none⟩) ha).trans c3, (hb.cell (p := ⟨a, i * 6 + 4, none⟩) ha).trans c4, (hb.cell (p := ⟨a, i * 6 + 5, none⟩) ha).trans c5⟩, (hb.cell (p := ⟨b, i * 6, none⟩) hb0).trans d0, (hb.cell (p := ⟨b, i * 6 + 1, none⟩) hb0).trans d1, (hb.cell (p := ⟨b, i * 6 + 2, none⟩) hb0).trans d2, (hb.cell (p := ⟨b, i * 6 + 3, none⟩) hb0).trans d3, (hb.cell (p := ⟨b, i * 6 + 4, none⟩) hb0).trans d4, (hb.cell (p := ⟨b, i * 6 + 5, none⟩) hb0).trans d5⟩, h1.trans (hb.mono h1.size), h2, h3⟩
theorem both_st_drew {a b i : Nat} {x : StL} {wr W : World} (h : Both_st a b i x wr W) : Both_st a b i x wr W.drew := both_st_on h (Below.refl _ _).drew
theorem row_st {w : World} {p : Option Addr} {xs : List StL} (h : RowC stC 6 w p xs) {i : Nat} (hi : i < xs.length) : ∃ g, p = some ⟨g, 0, none⟩ ∧ g < w.heap.size ∧ w.cell? ⟨g, i * 6, none⟩ = (stC xs[i])[0]? ∧ w.cell? ⟨g, i * 6 + 1, none⟩ = (stC xs[i])[1]? ∧ w.cell? ⟨g, i * 6 + 2, none⟩ = (stC xs[i])[2]? ∧ w.cell? ⟨g, i * 6 + 3, none⟩ = (stC xs[i])[3]? ∧ w.cell? ⟨g, i * 6 + 4, none⟩ = (stC xs[i])[4]? ∧ w.cell? ⟨g, i * 6 + 5, none⟩ = (stC xs[i])[5]? := by
  obtain ⟨g, h1, h2, h3⟩ := h (List.ne_nil_of_length_pos (by omega))
  exact ⟨g, h1, h2, h3 i hi 0 (by decide), h3 i hi 1 (by decide), h3 i hi 2 (by decide), h3 i hi 3 (by decide), h3 i hi 4 (by decide), h3 i hi 5 (by decide)⟩
set_option maxRecDepth 100000 in
set_option maxHeartbeats 2000000 in
theorem eqs_st (xs : List StL) (p q : Option Addr) (c d : Nat) (w : World) (hn : xs.length ≤ 1000000) (hp : RowC stC 6 w p xs) (hq : RowC stC 6 w q xs) :
    Calls Tryz.prog 31 #[.slice p xs.length c, .slice q xs.length d] w fun e w' => e = .returned (.bool true) ∧ Below w.heap.size w w' := by
  obtain ⟨n, hxn⟩ : ∃ n, xs.length = n := ⟨_, rfl⟩
  have HP := Lib.hid hp
  have HQ := Lib.hid hq
  have HN := Lib.hid hxn
  rw [hxn] at hn ⊢
  clear hp hq hxn
  go_enter Tryz.func31, Tryz.ntmps31
  go_wp2
  go_loopw [5] (fun iq wr => ∃ i : Nat, i ≤ n ∧ iq = .int .i64 i ∧ Below w.heap.size w wr) (fun i _ => n - (intOf i).toNat)
  case atStart => exact ⟨0, Nat.zero_le _, rfl, Below.refl _ _⟩
  case round =>
    obtain ⟨i, hi, rfl, hb⟩ := hrel
    have HB := Lib.hid hb
    by_cases hlt : i < n
    · obtain ⟨a, rfl, ha, a0, a1, a2, a3, a4, a5⟩ := row_st HP.out (i := i) (by rw [HN.out]; exact hlt)
      obtain ⟨b, rfl, hb0, b0, b1, b2, b3, b4, b5⟩ := row_st HQ.out (i := i) (by rw [HN.out]; exact hlt)
      obtain ⟨x, hx⟩ : ∃ x, xs[i]'(by rw [HN.out]; exact hlt) = x := ⟨_, rfl⟩
      rw [hx] at a0 b0 a1 b1 a2 b2 a3 b3 a4 b4 a5 b5
      have HS : Hid (Both_st a b i x wr wr) := Lib.hid ⟨⟨⟨(hb.cell (p := ⟨a, i * 6, none⟩) ha).trans a0, (hb.cell (p := ⟨a, i * 6 + 1, none⟩) ha).trans a1, (hb.cell (p := ⟨a, i * 6 + 2, none⟩) ha).trans a2, (hb.cell (p := ⟨a, i * 6 + 3, none⟩) ha).trans a3, (hb.cell (p := ⟨a, i * 6 + 4, none⟩) ha).trans a4, (hb.cell (p := ⟨a, i * 6 + 5, none⟩) ha).trans a5⟩, (hb.cell (p := ⟨b, i * 6, none⟩) hb0).trans b0, (hb.cell (p := ⟨b, i * 6 + 1, none⟩) hb0).trans b1, (hb.cell (p := ⟨b, i * 6 + 2, none⟩) hb0).trans b2, (hb.cell (p := ⟨b, i * 6 + 3, none⟩) hb0).trans b3, (hb.cell (p := ⟨b, i * 6 + 4, none⟩) hb0).trans b4, (hb.cell (p := ⟨b, i * 6 + 5, none⟩) hb0).trans b5⟩, Below.refl _ _, Nat.lt_of_lt_of_le ha hb.size, Nat.lt_of_lt_of_le hb0 hb.size⟩
      clear hb a0 b0 a1 b1 a2 b2 a3 b3 a4 b4 a5 b5 hx ha hb0
      go_wp2
      go_region_held3 (fun W => ((W.cell? ⟨a, i * 6, none⟩ = some (.string (strOf x.k)) ∧ W.cell? ⟨a, i * 6 + 1, none⟩ = some (.string (strOf x.t)) ∧ W.cell? ⟨a, i * 6 + 2, none⟩ = some (.string (strOf x.f)) ∧ W.cell? ⟨a, i * 6 + 3, none⟩ = some (.string (strOf x.o)) ∧ W.cell? ⟨a, i * 6 + 4, none⟩ = some (.int .i64 x.n) ∧ W.cell? ⟨a, i * 6 + 5, none⟩ = some (.string (strOf x.b))) ∧ (W.cell? ⟨b, i * 6, none⟩ = some (.string (strOf x.k)) ∧ W.cell? ⟨b, i * 6 + 1, none⟩ = some (.string (strOf x.t)) ∧ W.cell? ⟨b, i * 6 + 2, none⟩ = some (.string (strOf x.f)) ∧ W.cell? ⟨b, i * 6 + 3, none⟩ = some (.string (strOf x.o)) ∧ W.cell? ⟨b, i * 6 + 4, none⟩ = some (.int .i64 x.n) ∧ W.cell? ⟨b, i * 6 + 5, none⟩ = some (.string (strOf x.b)))) ∧ (Below wr.heap.size wr W ∧ a < wr.heap.size ∧ b < wr.heap.size))
        (with_reducible first | assumption | exact both_st_drew HS.out | exact both_st_on (by assumption) hbN)
        (first | (go_at_call 52; go_fit (eq_st x _); rintro e wn ⟨rfl, hbN⟩; have HF := Lib.hid (both_st_on (i := i) (wr := wr) (by assumption) hbN)))
      go_wp2
      go_roundw
      case rel => exact ⟨i + 1, by omega, by go_num, HB.out.trans (HF.out.2.1.mono HB.out.size)⟩
      case measure => simp [intOf]; omega
    · obtain rfl : i = n := by omega
      go_wp2
      go_ret
      exact ⟨rfl, HB.out⟩
end Go.Proofs.YtgcfognljkebjaaGreatDoor

namespace Go.Proofs.YtgcfognljkebjaaGreatDoor
set_option linter.unusedSimpArgs false
set_option linter.unusedVariables false
open Go.ChangeShapes Go.WideShapes Go.ChangeAt Go.RowKit Go.Joins

theorem cellsHd : Tryz.prog.cellsOf 23 = 3 := by kernel_rfl
theorem cellsStr5 : Tryz.prog.cellsOf 9 = 1 := by kernel_rfl
theorem cellsI645 : Tryz.prog.cellsOf 2 = 1 := by kernel_rfl
theorem cellsBo5 : Tryz.prog.cellsOf 4 = 1 := by kernel_rfl
theorem cellsSm : Tryz.prog.cellsOf 25 = 7 := by kernel_rfl
def hdV (f o : ByteArray) (n : Int) : Value := .agg #[.string f, .string o, .int .i64 n]
def hdD {H : Type} (f o : ByteArray) (n : Int) : DataW H := .agg [.lit (.string f.data.toList), .lit (.string o.data.toList), .lit (.int .i64 n)]
def smV (f o : ByteArray) (n : Int) (r : ByteArray) (p c d : Bool) : Value := .agg #[.string f, .string o, .int .i64 n, .string r, .bool p, .bool c, .bool d]
def smD {H : Type} (f o : ByteArray) (n : Int) (r : ByteArray) (p c d : Bool) : DataW H := .agg [hdD f o n, .lit (.string r.data.toList), .lit (.bool p), .lit (.bool c), .lit (.bool d)]
def hdW (f o : ByteArray) (n : Int) : Prop := f.size ≤ maxLen ∧ o.size ≤ maxLen ∧ (Lit.int .i64 n).wf = true
def smW (f o : ByteArray) (n : Int) (r : ByteArray) : Prop := f.size ≤ maxLen ∧ o.size ≤ maxLen ∧ (Lit.int .i64 n).wf = true ∧ r.size ≤ maxLen
set_option maxRecDepth 100000 in
theorem head_trod {H : Type} {enc : TypeId × Value → H} {W : World} {base : Nat} {sp : Nat → Bool} {held : Bool} {fuel : Nat} {c0 c1 c2 : Value} {x : DataW H × List MemPlace}
    (hf : DataW.trod enc Tryz.prog W base sp held fuel 23 [c0, c1, c2] = some x) :
    ∃ f o n, c0 = .string f ∧ c1 = .string o ∧ c2 = .int .i64 n ∧ x = (hdD f o n, []) ∧ hdW f o n := by
  obtain ⟨xs, m, _, hx, hl, hlen, hall⟩ := DataW.trod_struct Tryz.underlying23 hf
  match xs, hlen with
  | [y0, y1, y2], _ =>
    have g0 := hall 0 _ rfl
    have g1 := hall 1 _ rfl
    have g2 := hall 2 _ rfl
    simp [Value.cells, cellsStr5, cellsI645] at g0 g1 g2
    obtain ⟨f, e0, rfl, w0⟩ := DataW.trod_string Tryz.underlying9 g0
    obtain ⟨o, e1, rfl, w1⟩ := DataW.trod_string Tryz.underlying9 g1
    obtain ⟨n, e2, rfl, w2⟩ := DataW.trod_int Tryz.underlying2 g2
    simp at e0 e1 e2
    subst e0 e1 e2
    simp at hx
    exact ⟨f, o, n, rfl, rfl, rfl, hx, w0, w1, w2⟩
set_option maxRecDepth 100000 in
theorem head_open {H : Type} {enc : TypeId × Value → H} {W : World} {base : Nat} {sp : Nat → Bool} {held : Bool} {r : Reach} {b0 : Nat} {v : Value} {d : DataW H} {p : List MemPlace}
    (hv : Value.okWide Tryz.prog W r b0 23 v) (h : DataW.Trod enc Tryz.prog W base sp held 23 v d p) :
    ∃ f o n, v = hdV f o n ∧ d = hdD f o n ∧ p = [] ∧ hdW f o n := by
  obtain ⟨cs, rfl, hsz⟩ := okWide_struct Tryz.underlying23 hv
  rw [cellsHd] at hsz
  obtain ⟨fuel, hf⟩ := h
  obtain ⟨l⟩ := cs
  match l, hsz with
  | [c0, c1, c2], _ =>
    obtain ⟨f, o, n, rfl, rfl, rfl, hx, hw⟩ := head_trod hf
    simp at hx
    exact ⟨f, o, n, rfl, hx.1, hx.2, hw⟩
set_option maxRecDepth 100000 in
theorem stream_open {H : Type} {enc : TypeId × Value → H} {W : World} {base : Nat} {sp : Nat → Bool} {held : Bool} {r : Reach} {b0 : Nat} {v : Value} {d : DataW H} {p : List MemPlace}
    (hv : Value.okWide Tryz.prog W r b0 25 v) (h : DataW.Trod enc Tryz.prog W base sp held 25 v d p) :
    ∃ f o n r op cl de, v = smV f o n r op cl de ∧ d = smD f o n r op cl de ∧ p = [] ∧ smW f o n r := by
  obtain ⟨cs, rfl, hsz⟩ := okWide_struct Tryz.underlying25 hv
  rw [cellsSm] at hsz
  obtain ⟨fuel, hf⟩ := h
  obtain ⟨xs, m, _, hx, hl, hlen, hall⟩ := DataW.trod_struct Tryz.underlying25 hf
  obtain ⟨l⟩ := cs
  match l, hsz, xs, hlen with
  | [c0, c1, c2, c3, c4, c5, c6], _, [y0, y1, y2, y3, y4], _ =>
    have g0 := hall 0 _ rfl
    have g1 := hall 1 _ rfl
    have g2 := hall 2 _ rfl
    have g3 := hall 3 _ rfl
    have g4 := hall 4 _ rfl
    simp [Value.cells, cellsStr5, cellsBo5, cellsHd] at g0 g1 g2 g3 g4
    obtain ⟨f, o, n, rfl, rfl, rfl, rfl, w0, w1, w2⟩ := head_trod g0
    obtain ⟨r, e1, rfl, w3⟩ := DataW.trod_string Tryz.underlying9 g1
    obtain ⟨op, e2, rfl⟩ := DataW.trod_bool Tryz.underlying4 g2
    obtain ⟨cl, e3, rfl⟩ := DataW.trod_bool Tryz.underlying4 g3
    obtain ⟨de, e4, rfl⟩ := DataW.trod_bool Tryz.underlying4 g4
    simp at e1 e2 e3 e4
    subst e1 e2 e3 e4
    simp at hx
    exact ⟨f, o, n, r, op, cl, de, rfl, hx.1, hx.2, w0, w1, w2, w3⟩
set_option maxRecDepth 100000 in
theorem head_run {H : Type} {enc : TypeId × Value → H} {W : World} {base : Nat} {sp : Nat → Bool} {held : Bool} {f o : ByteArray} {n : Int} (h : hdW f o n) :
    DataW.trod enc Tryz.prog W base sp held 2 23 [.string f, .string o, .int .i64 n] = some (hdD f o n, []) := by
  obtain ⟨w0, w1, w2⟩ := h
  have hs : ∀ s : ByteArray, s.size ≤ maxLen → DataW.trod enc Tryz.prog W base sp held 1 9 [.string s] = some (.lit (.string s.data.toList), []) := fun s hs => by simp [DataW.trod, Tryz.underlying9, hs]
  have hi : DataW.trod enc Tryz.prog W base sp held 1 2 [.int .i64 n] = some (.lit (.int .i64 n), []) := by simp [DataW.trod, Tryz.underlying2, w2]
  have ts := trod_struct_mk (enc := enc) (w := W) (base := base) (spare := sp) (held := held) (n := 1) (cs := [.string f, .string o, .int .i64 n])
    (xs := [(.lit (.string f.data.toList), []), (.lit (.string o.data.toList), []), (.lit (.int .i64 n), [])]) Tryz.underlying23 (by simp [cellsHd])
    (by simp [cellsStr5, cellsI645, hs f w0, hs o w1, hi])
  simpa [hdD] using ts
set_option maxRecDepth 100000 in
theorem head_shut {H : Type} {enc : TypeId × Value → H} {W : World} {base : Nat} {sp : Nat → Bool} {held : Bool} {f o : ByteArray} {n : Int} (h : hdW f o n) :
    DataW.Trod enc Tryz.prog W base sp held 23 (hdV f o n) (hdD f o n) [] := ⟨2, by simpa [hdV, Value.cells] using head_run h⟩
set_option maxRecDepth 100000 in
theorem stream_shut {H : Type} {enc : TypeId × Value → H} {W : World} {base : Nat} {sp : Nat → Bool} {held : Bool} {f o : ByteArray} {n : Int} {r : ByteArray} {op cl de : Bool} (h : smW f o n r) :
    DataW.Trod enc Tryz.prog W base sp held 25 (smV f o n r op cl de) (smD f o n r op cl de) [] := by
  obtain ⟨w0, w1, w2, w3⟩ := h
  have h0 := head_run (enc := enc) (W := W) (base := base) (sp := sp) (held := held) (f := f) (o := o) (n := n) ⟨w0, w1, w2⟩
  have hs : DataW.trod enc Tryz.prog W base sp held 2 9 [.string r] = some (.lit (.string r.data.toList), []) := by simp [DataW.trod, Tryz.underlying9, w3]
  have hb : ∀ b : Bool, DataW.trod enc Tryz.prog W base sp held 2 4 [.bool b] = some (.lit (.bool b), []) := fun b => by simp [DataW.trod, Tryz.underlying4]
  have ts := trod_struct_mk (enc := enc) (w := W) (base := base) (spare := sp) (held := held) (n := 2) (cs := [.string f, .string o, .int .i64 n, .string r, .bool op, .bool cl, .bool de])
    (xs := [(hdD f o n, []), (.lit (.string r.data.toList), []), (.lit (.bool op), []), (.lit (.bool cl), []), (.lit (.bool de), [])]) Tryz.underlying25 (by simp [cellsSm])
    (by simp [cellsStr5, cellsBo5, cellsHd, h0, hs, hb])
  exact ⟨3, by simpa [smV, smD, Value.cells] using ts⟩
end Go.Proofs.YtgcfognljkebjaaGreatDoor

namespace Go.Proofs.YtgcfognljkebjaaGreatDoor
set_option linter.unusedSimpArgs false
set_option linter.unusedVariables false
open Go.RowKit

set_option maxHeartbeats 1000000 in
theorem sz_hd (f o : ByteArray) (n left : Int) (w : World) (hf : f.size ≤ 9223372036854775807) (ho : o.size ≤ 9223372036854775807) (h0 : 0 ≤ left) (h1 : left ≤ 1048576) :
    Calls Tryz.prog 21 #[.agg #[.string f, .string o, .int .i64 n], .int .i64 left] w fun e w' =>
      (∃ z, e = .returned (.int .i64 z) ∧ (z = -1 ∨ 0 ≤ z ∧ z = left - f.size - o.size)) ∧ Below w.heap.size w w' := by
  by_cases k1 : left - f.size < 0
  · go_enter Tryz.func21, Tryz.ntmps21
    go_wp2
    all_goals (go_ret; exact ⟨⟨_, rfl, .inl rfl⟩, (Below.refl _ _).alloc (Nat.le_refl _) _⟩)
  by_cases k2 : left - f.size - o.size < 0
  · go_enter Tryz.func21, Tryz.ntmps21
    go_wp2
    all_goals (go_ret; exact ⟨⟨_, rfl, .inl rfl⟩, (Below.refl _ _).alloc (Nat.le_refl _) _⟩)
  go_enter Tryz.func21, Tryz.ntmps21
  go_wp2
  all_goals (go_ret; exact ⟨⟨_, rfl, .inr ⟨by omega, rfl⟩⟩, (Below.refl _ _).alloc (Nat.le_refl _) _⟩)
theorem to_hd (f o : ByteArray) (n : Int) (w : World) :
    Calls Tryz.prog 24 #[.agg #[.string f, .string o, .int .i64 n]] w fun e w' => e = .returned (.agg #[.string f, .string o, .int .i64 n]) ∧ ∃ o1 o2 o3, w' = ((w.alloc o1).alloc o2).alloc o3 := by
  go_enter Tryz.func24, Tryz.ntmps24
  go_wp2
  exact bodyPost_ret (v := .agg #[.string f, .string o, .int .i64 n]) (by simp [results, Tryz.results24, go_sem]) rfl ⟨rfl, _, _, _, rfl⟩
theorem box_seven5 {w w1 : World} {a b c d e f g : Value} {t : Nat} (h : Below (w.alloc (.cells #[a, b, c, d, e, f, g] t)).heap.size (w.alloc (.cells #[a, b, c, d, e, f, g] t)) w1) :
    w1.cell? ⟨w.heap.size, 0, none⟩ = some a ∧ w1.cell? ⟨w.heap.size, 1, none⟩ = some b ∧ w1.cell? ⟨w.heap.size, 2, none⟩ = some c ∧ w1.cell? ⟨w.heap.size, 3, none⟩ = some d ∧ w1.cell? ⟨w.heap.size, 4, none⟩ = some e ∧ w1.cell? ⟨w.heap.size, 5, none⟩ = some f ∧ w1.cell? ⟨w.heap.size, 6, none⟩ = some g := by
  have hA : Arr w1 w.heap.size t [a, b, c, d, e, f, g] := (h.block w.heap.size (by simp)).trans (Arr.fresh w t [a, b, c, d, e, f, g])
  exact ⟨hA.cell 0, hA.cell 1, hA.cell 2, hA.cell 3, hA.cell 4, hA.cell 5, hA.cell 6⟩
set_option maxHeartbeats 1000000 in
theorem sz_sm (f o : ByteArray) (n : Int) (r : ByteArray) (op cl de : Bool) (left : Int) (w : World) (hf : f.size ≤ 9223372036854775807) (ho : o.size ≤ 9223372036854775807) (hr : r.size ≤ 9223372036854775807) (h0 : 0 ≤ left) (h1 : left ≤ 1048576) :
    Calls Tryz.prog 6 #[.agg #[.string f, .string o, .int .i64 n, .string r, .bool op, .bool cl, .bool de], .int .i64 left] w fun e w' =>
      (∃ z, e = .returned (.int .i64 z) ∧ (z = -1 ∨ 0 ≤ z ∧ z = left - f.size - o.size - r.size)) ∧ Below w.heap.size w w' := by
  have i1 := fun w => sz_hd f o n left w hf ho h0 h1
  have HK := Lib.hid (fun w1 (h : Below (w.alloc (.cells #[.string f, .string o, .int .i64 n, .string r, .bool op, .bool cl, .bool de] 25)).heap.size (w.alloc (.cells #[.string f, .string o, .int .i64 n, .string r, .bool op, .bool cl, .bool de] 25)) w1) => box_seven5 h)
  go_enter Tryz.func6, Tryz.ntmps6
  go_wp2_with (go_at_call 21; go_fit (i1 _); rintro e w1 ⟨⟨z, rfl, hz⟩, hb⟩; obtain ⟨c0, c1, c2, c3, c4, c5, c6⟩ := HK.out _ hb; have hz1 : z ≤ 1048576 := (by omega); have hz2 : -1 ≤ z := (by omega); have HZ := Lib.hid hz; clear hz)
  all_goals
    have hz := HZ.out
    go_ret
    first
      | exact ⟨⟨_, rfl, .inl rfl⟩, below_one hb⟩
      | exact ⟨⟨_, rfl, .inr ⟨by omega, by omega⟩⟩, below_one hb⟩
set_option maxHeartbeats 1000000 in
theorem to_sm (f o : ByteArray) (n : Int) (r : ByteArray) (op cl de : Bool) (w : World) :
    Calls Tryz.prog 8 #[.agg #[.string f, .string o, .int .i64 n, .string r, .bool op, .bool cl, .bool de]] w fun e w' => e = .returned (.agg #[.string f, .string o, .int .i64 n, .string r, .bool op, .bool cl, .bool de]) ∧ Below w.heap.size w w' := by
  have i1 := fun w => to_hd f o n w
  go_enter Tryz.func8, Tryz.ntmps8
  go_wp2_with (go_at_call 24; go_fit (i1 _); rintro e w1 ⟨rfl, o1, o2, o3, rfl⟩)
  exact bodyPost_ret (v := .agg #[.string f, .string o, .int .i64 n, .string r, .bool op, .bool cl, .bool de]) (by simp [results, Tryz.results8, go_sem]) rfl ⟨rfl, ((((((Below.refl _ _).alloc (Nat.le_refl _) _).alloc (by simp) _).alloc (by simp; omega) _).alloc (by simp; omega) _).alloc (by simp; omega) _).alloc (by simp; omega) _⟩
end Go.Proofs.YtgcfognljkebjaaGreatDoor

namespace Go.Proofs.YtgcfognljkebjaaGreatDoor
set_option linter.unusedSimpArgs false
set_option linter.unusedVariables false
open Go.RowKit Go.Joins

theorem eq_hd (f o : ByteArray) (n : Int) (w : World) : Calls Tryz.prog 51 #[.agg #[.string f, .string o, .int .i64 n], .agg #[.string f, .string o, .int .i64 n]] w fun e w' => e = .returned (.bool true) ∧ Below w.heap.size w w' := by
  go_enter Tryz.func51, Tryz.ntmps51
  go_wp2
  go_ret
  exact ⟨rfl, ((Below.refl _ _).alloc (Nat.le_refl _) _).alloc (by simp) _⟩
theorem two_arr {w w1 : World} {t : Nat} {cs ds : List Value} (h : Below ((w.alloc (.cells cs.toArray t)).alloc (.cells ds.toArray t)).heap.size ((w.alloc (.cells cs.toArray t)).alloc (.cells ds.toArray t)) w1) : Arr w1 w.heap.size t cs ∧ Arr w1 (w.heap.size + 1) t ds ∧ Below w.heap.size w w1 := by
  have h1 := below_one h
  have h2 := Arr.fresh (w.alloc (.cells cs.toArray t)) t ds
  rw [World.size_alloc] at h2
  exact ⟨(h1.block _ (by simp)).trans (Arr.fresh w t cs), (h.block _ (by simp)).trans h2, below_one h1⟩
set_option maxHeartbeats 1000000 in
theorem eq_smv (s : SmS) (R : List UInt8) (w : World) : Calls Tryz.prog 30 #[smLV s R, smLV s R] w fun e w' => e = .returned (.bool true) ∧ Below w.heap.size w w' := by
  have i1 := fun w => eq_hd (strOf s.f) (strOf s.o) s.n w
  have HK := Lib.hid (fun w1 (h : Below ((w.alloc (.cells (smC s R).toArray 29)).alloc (.cells (smC s R).toArray 29)).heap.size ((w.alloc (.cells (smC s R).toArray 29)).alloc (.cells (smC s R).toArray 29)) w1) => two_arr h)
  unfold smLV
  go_enter Tryz.func30, Tryz.ntmps30
  go_wp2_with (go_at_call 51; go_fit (i1 _); rintro e w1 ⟨rfl, hb1⟩; obtain ⟨hA, hB, hb⟩ := HK.out _ hb1; obtain ⟨⟨c0, c1, c2, c3, c4, c5, c6⟩, _⟩ := arr_sev hA; obtain ⟨⟨d0, d1, d2, d3, d4, d5, d6⟩, _⟩ := arr_sev hB)
  go_ret
  exact ⟨rfl, hb⟩
set_option maxHeartbeats 1000000 in
theorem eq_so (o : SmO) (c : Int) (p q : Option Addr) (k l : Nat) (w : World) (hn : o.xs.length ≤ 1000000) (hp : RowC stC 6 w p o.xs) (hq : RowC stC 6 w q o.xs) :
    Calls Tryz.prog 10 #[soV o (.slice p o.xs.length k) c, soV o (.slice q o.xs.length l) c] w fun e w' => e = .returned (.bool true) ∧ Below w.heap.size w w' := by
  have i1 := fun w => eq_smv o.s o.rest w
  have i2 := fun w hp hq => eqs_st o.xs p q k l w hn hp hq
  have HK := Lib.hid (fun w1 (h : Below ((w.alloc (.cells (soC o (.slice p o.xs.length k) c).toArray 32)).alloc (.cells (soC o (.slice q o.xs.length l) c).toArray 32)).heap.size ((w.alloc (.cells (soC o (.slice p o.xs.length k) c).toArray 32)).alloc (.cells (soC o (.slice q o.xs.length l) c).toArray 32)) w1) => two_arr h)
  have HP := Lib.hid hp
  have HQ := Lib.hid hq
  clear hp hq
  unfold smLV at i1
  unfold soV
  go_enter Tryz.func10, Tryz.ntmps10
  go_wp2_with (first
    | (go_at_call 30; go_fit (i1 _); rintro e w1 ⟨rfl, hb1⟩; have HB1 := Lib.hid hb1; obtain ⟨hA, hB, hb⟩ := HK.out _ hb1; obtain ⟨⟨c0, c1, c2, c3, c4, c5, c6, c7, c8⟩, _⟩ := arr_nine hA; obtain ⟨⟨d0, d1, d2, d3, d4, d5, d6, d7, d8⟩, _⟩ := arr_nine hB; clear hA hB hb1)
    | (go_at_call 31; go_fit (i2 _ (HP.out.on hb) (HQ.out.on hb)); rintro e w2 ⟨rfl, hb2⟩; obtain ⟨hA, hB, hb'⟩ := HK.out _ (HB1.out.trans (hb2.mono HB1.out.size)); obtain ⟨⟨c0, c1, c2, c3, c4, c5, c6, c7, c8⟩, _⟩ := arr_nine hA; obtain ⟨⟨d0, d1, d2, d3, d4, d5, d6, d7, d8⟩, _⟩ := arr_nine hB; clear hA hB))
  go_ret
  exact ⟨rfl, hb'⟩
set_option maxHeartbeats 1000000 in
theorem mark_so (o : SmO) (c : Int) (v : Value) (B : Nat) (w : World) (hn : o.xs.length ≤ 1000000) (hB : B ≤ w.heap.size) (h : OwnX w B v o.xs) :
    Calls Tryz.prog 11 #[soV o v c, .int .i64 1] w fun e w' => e = .returned (.int .i64 (1 + o.xs.length * 6)) ∧ MOwn mk_st 1 B 70 6 v o.xs.length w' ∧ MFrame B v w w' := by
  have hlt : ∀ g, v.ownBlock = some g → g < w.heap.size := fun g hg => (own_lt h g hg).2
  have i1 := fun W (hB : B ≤ W.heap.size) h => marks_st stC B 1 v o.xs W (by decide) (by decide) hn hB h
  have HO := Lib.hid h
  obtain ⟨p, k, rfl, _⟩ := h.row stC_len
  clear h
  unfold soV
  go_enter Tryz.func11, Tryz.ntmps11
  go_wp2_with (go_at_call 32; go_fit (i1 _ (by simp; omega) (HO.out.alloc _)); rintro e w1 ⟨rfl, hM, hF⟩)
  go_ret
  refine ⟨rfl, hM, ((Below.refl B w).alloc hB _).trans hF.1, Nat.le_trans (by simp) hF.2.1, fun x hx hne => ?_⟩
  rw [hF.2.2 x (by simp; omega) hne]
  exact heap_alloc_old w _ hx
set_option maxHeartbeats 1000000 in
theorem held_so (o : SmO) (c : Int) (v : Value) (B : Nat) (w : World) (hn : o.xs.length ≤ 1000000) (h : MOwn mk_st 1 B 70 6 v o.xs.length w) :
    Calls Tryz.prog 12 #[soV o v c, .int .i64 1] w fun e w' => e = .returned (.int .i64 (1 + o.xs.length * 6)) ∧ Below w.heap.size w w' := by
  have i1 := fun W h => helds_st B 1 o.xs.length v W (by decide) (by decide) hn h
  have HO := Lib.hid h
  obtain ⟨p, k, rfl, _⟩ := h
  have hpos : ¬ ((1 : Int) + o.xs.length * 6 < 0) := by omega
  unfold soV
  go_enter Tryz.func12, Tryz.ntmps12
  go_wp2_with (go_at_call 33; go_fit (i1 _ (HO.out.on ((Below.refl _ _).alloc (Nat.le_refl _) _))); rintro e w1 ⟨rfl, hb⟩)
  go_ret
  exact ⟨rfl, below_one hb⟩
theorem actK_len (s : SmS) (k : LineK) : (actK s k).2.length ≤ 1 := by cases k <;> simp [actK]
theorem feedK_len : ∀ (l : List (List UInt8)) (s : SmS), (feedK s l).2.length ≤ l.length
  | [], s => Nat.le_refl _
  | T :: r, s => by
    have h1 := actK_len s (nextK s.op s.cl (lineK T))
    cases hd : (stepK s T).1.de with
    | true =>
      rw [feedK_dead _ hd]
      unfold stepK
      simp
      omega
    | false =>
      rw [feedK_on _ hd]
      have h2 := feedK_len r (stepK s T).1
      unfold stepK at h2 ⊢
      simp
      omega
/-- The argument's box; below the call's first block all is as it was. -/
def ABox (w W : World) (c : List Value) : Prop := Arr W w.heap.size 25 c ∧ Below w.heap.size w W
theorem ABox.on {w W W2 : World} {c : List Value} (h : ABox w W c) (hb : Below W.heap.size W W2) : ABox w W2 c := ⟨arr_below h.1 hb, h.2.trans (hb.mono h.2.size)⟩
theorem ABox.mark {w W W2 : World} {c : List Value} {B : Nat} {v : Value} (h : ABox w W c) (hF : MFrame B v W W2) (hB : w.heap.size < B) : ABox w W2 c := ⟨arr_keep h.1 hF.1 hB, h.2.trans (hF.1.mono (Nat.le_of_lt hB))⟩
/-- An answer in a box of the law's. -/
def OBox (b B : Nat) (W : World) (o : SmO) (v : Value) (c : Int) : Prop := Arr W b 32 (soC o v c) ∧ OwnX W B v o.xs
theorem OBox.on {b B : Nat} {W W2 : World} {o : SmO} {v : Value} {c : Int} (h : OBox b B W o v c) (hb : Below W.heap.size W W2) : OBox b B W2 o v c := ⟨arr_below h.1 hb, h.2.on hb⟩
theorem OBox.new {B : Nat} {W : World} {o : SmO} {v : Value} {c : Int} (h : OwnX W B v o.xs) : OBox W.heap.size B (W.alloc (.cells (soC o v c).toArray 32)) o v c := ⟨Arr.fresh W _ _, h.alloc _⟩
theorem OBox.low {b B B2 : Nat} {W W2 : World} {o : SmO} {v v2 : Value} {c : Int} (h : OBox b B W o v c) (hF : MFrame B2 v2 W W2) (hb : b < B2) (hv : ∀ g, v.ownBlock = some g → g < B2) : OBox b B W2 o v c := by
  refine ⟨arr_keep h.1 hF.1 hb, h.2.1, ?_⟩
  rcases h.2.2 with h0 | ⟨g, cap, cur, h1, h2, h3, h4⟩
  · exact .inl h0
  · refine .inr ⟨g, cap, cur, h1, h2, (hF.1.block g (hv g ?_)).trans h3, h4⟩
    rw [h1]
    rfl
theorem sfeed_xs (s : SmS) (R T : List UInt8) : (feedA s R T).1.xs.length ≤ 1000000 := by
  unfold feedA
  split
  · exact Nat.zero_le _
  · split
    · exact Nat.zero_le _
    · split
      · exact Nat.zero_le _
      · rename_i h1 h2 h3
        have h4 := (smBL_iff (s := s) (R := R)).1 (by simpa using h2)
        dsimp only
        unfold feedO
        rw [restK_xs]
        have h5 := feedK_len (iniL (R ++ T)) s
        have h6 := linesL_len (R ++ T)
        have h7 : (iniL (R ++ T)).length ≤ (linesL (R ++ T)).length := by unfold iniL; rw [List.length_dropLast]; omega
        rw [List.length_append] at h6
        omega
end Go.Proofs.YtgcfognljkebjaaGreatDoor

namespace Go.Proofs.YtgcfognljkebjaaGreatDoor
set_option linter.unusedSimpArgs false
set_option linter.unusedVariables false
open Go.RowKit Go.Joins

theorem abox_start {w w1 : World} {cs : List Value} (hb : Below (w.alloc (.cells cs.toArray 25)).heap.size (w.alloc (.cells cs.toArray 25)) w1) : ABox w w1 cs := ⟨(hb.block _ (by simp)).trans (Arr.fresh w _ cs), below_one hb⟩
theorem row_of {W : World} {B : Nat} {p : Option Addr} {k n : Nat} {xs : List StL} (h : OwnX W B (.slice p n k) xs) : RowC stC 6 W p xs := by
  obtain ⟨p', k', e, hR⟩ := h.row stC_len
  injection e with e1 e2 e3
  rw [e1]
  exact hR
set_option maxRecDepth 100000 in
set_option maxHeartbeats 1000000 in
theorem sfeed_law (w : World) (f o : ByteArray) (n : Int) (r : ByteArray) (op cl de : Bool) (x : ByteArray) (x0 : smW f o n r) (wx : x.size ≤ maxLen) (hm : MaxL w) (hp : TabP w) (hE : ErrV w) :
    Calls Tryz.prog 3 #[.agg #[.string f, .string o, .int .i64 n, .string r, .bool op, .bool cl, .bool de], .string x] w fun e w' => e = .returned (.bool true) ∧ Below w.heap.size w w' := by
  obtain ⟨xf, xo, xn, xr⟩ := x0
  have HM := Lib.hid (fun W (h : Below w.heap.size w W) => And.intro (hm.below h hm.pos) (And.intro (hp.below h) (hE.below h)))
  unfold maxLen at xf xo xr wx
  by_cases hx : 1048576 < x.size
  · clear HM hm hp hE
    go_enter Tryz.func3, Tryz.ntmps3
    go_wp2
    go_ret
    exact ⟨rfl, (Below.refl _ _).alloc (Nat.le_refl _) _⟩
  have hs := sfeed_xs ⟨f.data.toList, o.data.toList, n, op, cl, de⟩ r.data.toList x.data.toList
  have i1 : ∀ W, f.size ≤ 2000000 → o.size ≤ 2000000 → r.size ≤ 2000000 → Calls Tryz.prog 7 #[.agg #[.string f, .string o, .int .i64 n, .string r, .bool op, .bool cl, .bool de], .string x] W (FedAns ⟨f.data.toList, o.data.toList, n, op, cl, de⟩ r.data.toList x.data.toList W) := fun W h1 h2 h3 =>
    spec_sfeed ⟨f.data.toList, o.data.toList, n, op, cl, de⟩ r.data.toList x.data.toList W (by rw [size_data]; exact h1) (by rw [size_data]; exact h2) (by rw [size_data]; exact h3) (by rw [size_data]; omega)
  have i2 : ∀ W, f.size ≤ 2000000 → o.size ≤ 2000000 → r.size ≤ 2000000 → (MaxL W ∧ TabP W ∧ ErrV W) → Calls Tryz.prog 9 #[.agg #[.string f, .string o, .int .i64 n, .string r, .bool op, .bool cl, .bool de], .string x] W (FedAns ⟨f.data.toList, o.data.toList, n, op, cl, de⟩ r.data.toList x.data.toList W) := fun W h1 h2 h3 h4 =>
    impl_sfeed ⟨f.data.toList, o.data.toList, n, op, cl, de⟩ r.data.toList x.data.toList W (by rw [size_data]; exact h1) (by rw [size_data]; exact h2) (by rw [size_data]; exact h3) (by rw [size_data]; omega) h4.1 h4.2.1 h4.2.2
  unfold FedAns at i1 i2
  obtain ⟨A, hA⟩ : ∃ A, feedA ⟨f.data.toList, o.data.toList, n, op, cl, de⟩ r.data.toList x.data.toList = A := ⟨_, rfl⟩
  rw [hA] at i1 i2 hs
  rcases A with ⟨o1, cc⟩
  dsimp only at i1 i2 hs
  have hxs := hs
  clear hA hs hm hp hE xn
  unfold soV at i1 i2
  go_enter Tryz.func3, Tryz.ntmps3
  go_wp2_with (first
    | (go_at_call 12; have _ := HA11; go_fit (held_so o1 cc _ w4.heap.size _ hxs H711.out.2); rintro e w12 ⟨rfl, hb⟩; have HA12 := Lib.hid (HA11.out.on hb); clear hb)
    | (go_at_call 10; have _ := HA10; go_fit (eq_so o1 cc p2 p0 k2 k0 _ hxs (row_of (HV2.out.alloc _)) (row_of (H610.out.2.alloc _))); rintro e w11 ⟨rfl, hb⟩; have HA11 := Lib.hid ((HA10.out.on ((Below.refl _ _).alloc (Nat.le_refl _) _)).on hb); have H711 := Lib.hid (And.intro (arr_below (arr_below H710.out.1 ((Below.refl _ _).alloc (Nat.le_refl _) _)) hb) ((H710.out.2.on ((Below.refl _ _).alloc (Nat.le_refl _) _)).on hb)); clear hb; obtain ⟨⟨b0, b1, b2, b3, b4, b5, b6, b7, b8⟩, _⟩ := arr_nine H711.out.1; have hz7 := arr_lt H711.out.1)
    | (go_at_call 9; have _ := HA9; go_fit (i2 _ (by omega) (by omega) (by omega) (HM.out _ HA9.out.2)); rintro e w10 ⟨⟨v2, rfl, hv2⟩, hb⟩; have HA10 := Lib.hid (HA9.out.on hb); have H610 := Lib.hid (H69.out.on hb); have H710 := Lib.hid (And.intro (arr_below H79.out.1 hb) (H79.out.2.on hb)); clear hb; obtain ⟨p2, k2, rfl, _⟩ := hv2.row stC_len; have HV2 := Lib.hid hv2; clear hv2; obtain ⟨⟨a0, a1, a2, a3, a4, a5, a6, a7, a8⟩, _⟩ := arr_nine H610.out.1; have hz6 := arr_lt H610.out.1; obtain ⟨⟨b0, b1, b2, b3, b4, b5, b6, b7, b8⟩, _⟩ := arr_nine H710.out.1; have hz7 := arr_lt H710.out.1)
    | (go_at_call 8; have _ := HA8; go_fit (to_sm f o n r op cl de _); rintro e w9 ⟨rfl, hb⟩; have HA9 := Lib.hid (HA8.out.on hb); have H69 := Lib.hid (H68.out.on hb); have H79 := Lib.hid (And.intro (arr_below H78.out.1 hb) (H78.out.2.on hb)); clear hb; obtain ⟨⟨c0, c1, c2, c3, c4, c5, c6⟩, _⟩ := arr_sev HA9.out.1; have hzA := arr_lt HA9.out.1)
    | (go_at_call 12; have _ := HA7; go_fit (held_so o1 cc _ w4.heap.size _ hxs H77.out.2); rintro e w8 ⟨rfl, hb⟩; have HA8 := Lib.hid (HA7.out.on hb); have H68 := Lib.hid (H67.out.on hb); have H78 := Lib.hid (And.intro (arr_below H77.out.1 hb) (H77.out.2.on hb)); clear hb; obtain ⟨⟨c0, c1, c2, c3, c4, c5, c6⟩, _⟩ := arr_sev HA8.out.1; have hzA := arr_lt HA8.out.1)
    | (go_at_call 11; go_fit (mark_so o1 cc _ w4.heap.size _ hxs (Nat.le_trans HS6.out.1 HS6.out.2.1) H76.out.2); rintro e w7 ⟨rfl, hM, hF⟩; have HA7 := Lib.hid (HA6.out.mark hF HS6.out.2.2.2); have H67 := Lib.hid (H66.out.low hF HS6.out.2.2.1 (fun g hg => Nat.lt_of_lt_of_le (own_lt HV0.out g hg).2 (Nat.le_of_lt HS6.out.2.2.1))); have H77 := Lib.hid (And.intro (hF.arr H76.out.1 (fun g hg => by have := (own_lt HV1.out g hg).2; omega)) hM); clear hM hF; obtain ⟨⟨c0, c1, c2, c3, c4, c5, c6⟩, _⟩ := arr_sev HA7.out.1; have hzA := arr_lt HA7.out.1; obtain ⟨⟨a0, a1, a2, a3, a4, a5, a6, a7, a8⟩, _⟩ := arr_nine H67.out.1; have hz6 := arr_lt H67.out.1; obtain ⟨⟨b0, b1, b2, b3, b4, b5, b6, b7, b8⟩, _⟩ := arr_nine H77.out.1; have hz7 := arr_lt H77.out.1)
    | (go_at_call 10; have _ := HA5; go_fit (eq_so o1 cc p1 p0 k1 k0 _ hxs (row_of (HV1.out.alloc _)) (row_of (H65.out.2.alloc _))); rintro e w6 ⟨rfl, hb⟩; have HA6 := Lib.hid ((HA5.out.on ((Below.refl _ _).alloc (Nat.le_refl _) _)).on hb); have H66 := Lib.hid ((H65.out.on ((Below.refl _ _).alloc (Nat.le_refl _) _)).on hb); have H76 := Lib.hid ((OBox.new (c := cc) HV1.out).on hb); have HS6 : Hid (w4.heap.size ≤ w5.heap.size ∧ w5.heap.size ≤ w6.heap.size ∧ w3.heap.size < w4.heap.size ∧ w.heap.size < w4.heap.size) := Lib.hid ⟨HW5.out, Nat.le_trans (by simp) hb.size, arr_lt H64.out.1, arr_lt HA4.out.1⟩; clear hb; obtain ⟨⟨c0, c1, c2, c3, c4, c5, c6⟩, _⟩ := arr_sev HA6.out.1; have hzA := arr_lt HA6.out.1; obtain ⟨⟨a0, a1, a2, a3, a4, a5, a6, a7, a8⟩, _⟩ := arr_nine H66.out.1; have hz6 := arr_lt H66.out.1; obtain ⟨⟨b0, b1, b2, b3, b4, b5, b6, b7, b8⟩, _⟩ := arr_nine H76.out.1; have hz7 := arr_lt H76.out.1)
    | (go_at_call 9; have _ := HA4; go_fit (i2 _ (by omega) (by omega) (by omega) (HM.out _ HA4.out.2)); rintro e w5 ⟨⟨v1, rfl, hv1⟩, hb⟩; have HA5 := Lib.hid (HA4.out.on hb); have H65 := Lib.hid (H64.out.on hb); have HW5 := Lib.hid hb.size; clear hb; obtain ⟨p1, k1, rfl, _⟩ := hv1.row stC_len; have HV1 := Lib.hid hv1; clear hv1; obtain ⟨⟨c0, c1, c2, c3, c4, c5, c6⟩, _⟩ := arr_sev HA5.out.1; have hzA := arr_lt HA5.out.1; obtain ⟨⟨a0, a1, a2, a3, a4, a5, a6, a7, a8⟩, _⟩ := arr_nine H65.out.1; have hz6 := arr_lt H65.out.1)
    | (go_at_call 8; have _ := HA3; go_fit (to_sm f o n r op cl de _); rintro e w4 ⟨rfl, hb⟩; have HA4 := Lib.hid ((HA3.out.on ((Below.refl _ _).alloc (Nat.le_refl _) _)).on hb); have H64 := Lib.hid ((OBox.new (c := cc) HV0.out).on hb); clear hb; obtain ⟨⟨c0, c1, c2, c3, c4, c5, c6⟩, _⟩ := arr_sev HA4.out.1; have hzA := arr_lt HA4.out.1)
    | (go_at_call 7; go_fit (i1 _ (by omega) (by omega) (by omega)); rintro e w3 ⟨⟨v0, rfl, hv0⟩, hb⟩; have HA3 := Lib.hid (HA2.out.on hb); clear hb; obtain ⟨p0, k0, rfl, _⟩ := hv0.row stC_len; have HV0 := Lib.hid hv0; clear hv0; obtain ⟨⟨c0, c1, c2, c3, c4, c5, c6⟩, _⟩ := arr_sev HA3.out.1; have hzA := arr_lt HA3.out.1)
    | (go_at_call 8; have _ := HA1; go_fit (to_sm f o n r op cl de _); rintro e w2 ⟨rfl, hb⟩; have HA2 := Lib.hid (HA1.out.on hb); clear hb; obtain ⟨⟨c0, c1, c2, c3, c4, c5, c6⟩, _⟩ := arr_sev HA2.out.1; have hzA := arr_lt HA2.out.1)
    | (go_at_call 6; go_fit (sz_sm f o n r op cl de _ _ xf xo xr (by omega) (by omega)); rintro e w1 ⟨⟨z, rfl, hz⟩, hb⟩; have HA1 : Hid (ABox w w1 [.string f, .string o, .int .i64 n, .string r, .bool op, .bool cl, .bool de]) := Lib.hid (abox_start hb); clear hb; obtain ⟨⟨c0, c1, c2, c3, c4, c5, c6⟩, _⟩ := arr_sev HA1.out.1; have hzA := arr_lt HA1.out.1; rcases hz with rfl | ⟨hz0, hz1⟩))
  · go_ret
    exact ⟨rfl, HA1.out.2⟩
  · go_ret
    exact ⟨rfl, HA12.out.2⟩
end Go.Proofs.YtgcfognljkebjaaGreatDoor

namespace Go.Proofs.YtgcfognljkebjaaGreatDoor
open Go.ChangeShapes Go.WideShapes Go.ChangeAt Go.RowKit

theorem tyPow : (Tryz.prog.globals[1]?).map (·.type) = some 135 := by kernel_rfl
theorem cellsPow : Tryz.prog.cellsOf 135 = 20 := by kernel_rfl
theorem cellsU64 : Tryz.prog.cellsOf 97 = 1 := by kernel_rfl
/-- The row's list. -/
def sevLaid : List (String × DataW Unit) := [("math/bits.deBruijn32tab", Rows.laid_math_bits_deBruijn32tab), ("math/bits.deBruijn64tab", Rows.laid_math_bits_deBruijn64tab), ("internal/strconv.uint64pow10", Rows.laid_internal_strconv_uint64pow10), ("unicode/utf8.acceptRanges", Rows.laid_unicode_utf8_acceptRanges), ("strconv.ErrRange", Rows.laid_strconv_ErrRange), ("strconv.ErrSyntax", Rows.laid_strconv_ErrSyntax), ("unicode/utf8.first", Rows.laid_unicode_utf8_first)]
theorem pow_data : (Rows.laid_internal_strconv_uint64pow10 : DataW Unit) = Lib.tabData .u64 Lib.pow10Tab := by kernel_rfl
theorem sev_plain {W : World} (h : laidMetH Tryz.prog sevLaid W) : laidMet Tryz.prog sevLaid W := by
  rw [MakeChecks.laidMetH_plain _ _ _ (by kernel_rfl)] at h
  exact h
theorem tabP_of {W : World} (h : laidMetH Tryz.prog sevLaid W) : TabP W := by
  have h := sev_plain h
  unfold sevLaid at h
  rw [pow_data] at h
  exact Lib.tabIs_of_head gPow tyPow Tryz.underlying135 Tryz.underlying97 cellsU64 cellsPow h.tail.tail
theorem gSyn : Tryz.prog.globalNamed "strconv.ErrSyntax" = some 6 := by kernel_rfl
theorem gRan : Tryz.prog.globalNamed "strconv.ErrRange" = some 7 := by kernel_rfl
theorem tSyn : (Tryz.prog.globals[6]?).map (·.type) = some 142 := by kernel_rfl
theorem tRan : (Tryz.prog.globals[7]?).map (·.type) = some 142 := by kernel_rfl
theorem cellsEs : Tryz.prog.cellsOf 201 = 1 := by kernel_rfl
theorem cellsS9 : Tryz.prog.cellsOf 9 = 1 := by kernel_rfl
theorem starE : "*" ++ "errors.errorString" = "*errors.errorString" := by decide
theorem rowE (u : TypeId) (h : Tryz.prog.typeName? 3 u = some "*errors.errorString") : u = 199 :=
  typeName_ptr_named (nm := "errors.errorString") (by rw [starE]; kernel_rfl) (by kernel_rfl) (by decide) u (by rw [starE]; exact h)
theorem errV_of {W : World} (h : laidMetH Tryz.prog sevLaid W) : ErrV W := by
  have h := sev_plain h
  unfold sevLaid Rows.laid_strconv_ErrRange Rows.laid_strconv_ErrSyntax at h
  obtain ⟨a0, s0, hv0, _⟩ := laid_sentinel h.tail.tail.tail.tail gRan tRan Tryz.underlying142 rowE Tryz.underlying199 Tryz.underlying201 rfl rfl Tryz.underlying9 cellsEs cellsS9
  obtain ⟨a1, s1, hv1, _⟩ := laid_sentinel h.tail.tail.tail.tail.tail gSyn tSyn Tryz.underlying142 rowE Tryz.underlying199 Tryz.underlying201 rfl rfl Tryz.underlying9 cellsEs cellsS9
  have c0 : W.cell? ⟨7, 0, none⟩ = some (.iface 199 (.pointer (some a0))) := by simpa using World.var?_cell gRan hv0 0
  have c1 : W.cell? ⟨6, 0, none⟩ = some (.iface 199 (.pointer (some a1))) := by simpa using World.var?_cell gSyn hv1 0
  exact ⟨⟨_, c1, .inr ⟨_, _, rfl⟩⟩, _, c0, .inr ⟨_, _, rfl⟩⟩
def litC : DataW Unit → Value
  | .lit (.int k z) => .int k z
  | _ => undef
def aggC : DataW Unit → Array Value
  | .agg l => (l.map litC).toArray
  | _ => #[]
def partC : DataW Unit → List Value
  | .agg l => l.map litC
  | d => [litC d]
def aggD : DataW Unit → Array Value
  | .agg l => (l.flatMap partC).toArray
  | _ => #[]
def layCells (c : Array Value) : Obj → Obj
  | .cells _ t frozen => .cells c t frozen
  | o => o
/-- So many blocks has the settled world. -/
noncomputable def lowB : Nat := (World.holding Tryz.prog default ⟨#[], #[], []⟩).heap.size
/-- A world in which the tables and the errors lie as their initialisers lay them. -/
noncomputable def sevWorld (os : Os) : World :=
  let w0 := World.holding Tryz.prog os ⟨#[.cells #[.string ⟨#[118, 97, 108, 117, 101, 32, 111, 117, 116, 32, 111, 102, 32, 114, 97, 110, 103, 101]⟩] 201, .cells #[.string ⟨#[105, 110, 118, 97, 108, 105, 100, 32, 115, 121, 110, 116, 97, 120]⟩] 201], #[], []⟩
  { w0 with heap := ((((((w0.heap.modify 1 (layCells (aggC Rows.laid_internal_strconv_uint64pow10))).modify 4 (layCells (aggC Rows.laid_math_bits_deBruijn32tab))).modify 5 (layCells (aggC Rows.laid_math_bits_deBruijn64tab))).modify 3 (layCells (aggD Rows.laid_unicode_utf8_acceptRanges))).modify 2 (layCells (aggC Rows.laid_unicode_utf8_first))).modify 7 (layCells #[.iface 199 (.pointer (some ⟨lowB, 0, none⟩))])).modify 6 (layCells #[.iface 199 (.pointer (some ⟨lowB + 1, 0, none⟩))]) }
set_option maxRecDepth 100000 in
theorem sev_met (os : Os) (args : Array Value) : laidMetH Tryz.prog sevLaid ((sevWorld os).forCall (fun _ _ => 0) ⟨#[], args, []⟩).memory := by
  rw [MakeChecks.laidMetH_plain _ _ _ (by kernel_rfl)]
  exact laidMet_of_run' 8 (by kernel_rfl) (by kernel_rfl)
end Go.Proofs.YtgcfognljkebjaaGreatDoor
