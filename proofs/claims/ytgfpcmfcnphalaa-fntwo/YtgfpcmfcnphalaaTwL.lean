/- FnTwo's walk. -/
import Derived.Test.YtgfpcmfcnphalaaTwQ
import Derived.Test.YtgfpcmfcnphalaaTwMath
import Derived.Test.YtgfpcmfcnphalaaHfHearI
import Derived.Test.YtgfpcmfcnphalaaHfSay
import Derived.Test.YtgfpcmfcnphalaaHfDraw1
import Derived.Test.YtgfpcmfcnphalaaLwAt
import Derived.Test.YtgfpcmfcnphalaaSmJoin
namespace Go.Proofs.Ytgfpcmfcnphalaa
set_option linter.unusedSimpArgs false
set_option linter.unusedVariables false
open Go.RowKit Go.Joins

theorem lw_K (a : Option Addr) (len cap at_ : Nat) (K : Int) (hK : K = (at_ : Int)) (w : World) (hlen : len ≤ 1048576) (hrow : SrcRow w w.heap.size a len) (hat : at_ ≤ 1048576) :
    Calls Try.prog 21 #[.slice a len cap, .int .i64 K, .int .i64 4] w fun e w' => (∃ r : Int, e = .returned (.int .i64 r) ∧ 0 ≤ r ∧ r ≤ 3) ∧ w = w' := by
  subst hK
  refine (lw_at a len cap at_ 4 w hlen hrow (by omega) (by omega) hat).mono ?_
  rintro e w' ⟨⟨v, rfl, r, rfl, h0, h1⟩, rfl⟩
  exact ⟨⟨r, rfl, h0, by omega⟩, rfl⟩
abbrev hoT : List Value := [.int .i64 0, .int .i64 0, .int .i64 0, .int .i64 0, .int .i64 0, .slice none 0 0, .int .i64 10]
theorem ho_cellsT {W : World} {b t m k : Nat} {h : HfL} {p : Option Addr} {c : Int} (hA : Arr W b t (hoC h p m k c)) :
    W.cell? ⟨b, 0, none⟩ = some (.int .i64 h.n) ∧ W.cell? ⟨b, 1, none⟩ = some (.int .i64 h.o) ∧ W.cell? ⟨b, 2, none⟩ = some (.int .i64 h.t) ∧ W.cell? ⟨b, 3, none⟩ = some (.int .i64 h.i) ∧ W.cell? ⟨b, 4, none⟩ = some (.int .i64 h.f) ∧ W.cell? ⟨b, 5, none⟩ = some (.slice p m k) ∧ W.cell? ⟨b, 6, none⟩ = some (.int .i64 c) :=
  ⟨hA.cell 0, hA.cell 1, hA.cell 2, hA.cell 3, hA.cell 4, hA.cell 5, hA.cell 6⟩
structure TI (w W : World) (g5 g6 : Nat) (a b : HfL) (v5 v6 : Value) (ab ba : List SbL) (n : Nat) : Prop where
  a0 : Arr W w.heap.size 24 (hfC a)
  b0 : Arr W (w.heap.size + 1) 24 (hfC b)
  q5 : QRow W g5 v5 ab
  q6 : QRow W g6 v6 ba
  ne : g5 ≠ g6
  l5 : w.heap.size + 2 ≤ g5
  l6 : w.heap.size + 2 ≤ g6
  n5 : ab.length ≤ n
  n6 : ba.length ≤ n
  bl : Below w.heap.size w W
theorem TI.on {w W W2 : World} {g5 g6 : Nat} {a b : HfL} {v5 v6 : Value} {ab ba : List SbL} {n : Nat} (t : TI w W g5 g6 a b v5 v6 ab ba n) (hb : Below W.heap.size W W2) : TI w W2 g5 g6 a b v5 v6 ab ba n :=
  ⟨arr_belowH2 t.a0 hb, arr_belowH2 t.b0 hb, t.q5.on hb, t.q6.on hb, t.ne, t.l5, t.l6, t.n5, t.n6, t.bl.trans (hb.mono t.bl.size)⟩
theorem TI.up {w W : World} {g5 g6 : Nat} {a b : HfL} {v5 v6 : Value} {ab ba : List SbL} {n : Nat} (t : TI w W g5 g6 a b v5 v6 ab ba n) : TI w W g5 g6 a b v5 v6 ab ba (n + 1) := { t with n5 := Nat.le_succ_of_le t.n5, n6 := Nat.le_succ_of_le t.n6 }
theorem TI.far {w W : World} {g5 g6 : Nat} {a b : HfL} {v5 v6 : Value} {ab ba : List SbL} {n : Nat} (t : TI w W g5 g6 a b v5 v6 ab ba n) {z : Nat} (h5 : g5 < z) (h6 : g6 < z) (cs : Array Value) : TI w (W.setRow z cs) g5 g6 a b v5 v6 ab ba n := by
  have h1 := t.l5
  exact ⟨(setRow_other W z _ cs (by omega)).trans t.a0, (setRow_other W z _ cs (by omega)).trans t.b0, t.q5.same (setRow_other W z _ cs (by omega)), t.q6.same (setRow_other W z _ cs (by omega)), t.ne, t.l5, t.l6, t.n5, t.n6, below_setRow t.bl (by omega) cs⟩
theorem TI.setA {w W : World} {g5 g6 : Nat} {a b : HfL} {v5 v6 : Value} {ab ba : List SbL} {n : Nat} (t : TI w W g5 g6 a b v5 v6 ab ba n) (a2 : HfL) : TI w (W.setRow w.heap.size (hfC a2).toArray) g5 g6 a2 b v5 v6 ab ba n := by
  have h1 := t.l5
  have h2 := t.l6
  exact ⟨setRow_heap W _ _ _ _ _ t.a0, (setRow_other W _ _ _ (by omega)).trans t.b0, t.q5.same (setRow_other W _ _ _ (by omega)), t.q6.same (setRow_other W _ _ _ (by omega)), t.ne, t.l5, t.l6, t.n5, t.n6, below_setRow t.bl (Nat.le_refl _) _⟩
theorem TI.setB {w W : World} {g5 g6 : Nat} {a b : HfL} {v5 v6 : Value} {ab ba : List SbL} {n : Nat} (t : TI w W g5 g6 a b v5 v6 ab ba n) (b2 : HfL) : TI w (W.setRow (w.heap.size + 1) (hfC b2).toArray) g5 g6 a b2 v5 v6 ab ba n := by
  have h1 := t.l5
  have h2 := t.l6
  exact ⟨(setRow_other W _ _ _ (by omega)).trans t.a0, setRow_heap W _ _ _ _ _ t.b0, t.q5.same (setRow_other W _ _ _ (by omega)), t.q6.same (setRow_other W _ _ _ (by omega)), t.ne, t.l5, t.l6, t.n5, t.n6, below_setRow t.bl (Nat.le_succ _) _⟩
theorem TI.app5 {w W W2 : World} {g5 g6 g' : Nat} {a b : HfL} {v5 v6 v' : Value} {ab ba : List SbL} {x : SbL} {n : Nat} (t : TI w W g5 g6 a b v5 v6 ab ba n) (hq : QRow W2 g' v' (ab ++ [x])) (hg' : g' = g5 ∨ W.heap.size ≤ g') (hg : W.grownBy W2 (some g5)) : TI w W2 g' g6 a b v' v6 (ab ++ [x]) ba (n + 1) := by
  have h1 := t.l5
  have h2 := t.q6.lt
  have h3 := t.ne
  have h4 := arr_ltH t.b0
  exact ⟨arr_src t.a0 hg (by omega), arr_src t.b0 hg (by omega), hq, t.q6.same (hg.block _ h2 (fun e => h3 (Option.some.inj e).symm)), by omega, by omega, t.l6, by have := t.n5; simp; omega, Nat.le_succ_of_le t.n6, Below.grown t.bl hg t.bl.size (fun k e => by injection e with e; omega)⟩
theorem TI.app6 {w W W2 : World} {g5 g6 g' : Nat} {a b : HfL} {v5 v6 v' : Value} {ab ba : List SbL} {x : SbL} {n : Nat} (t : TI w W g5 g6 a b v5 v6 ab ba n) (hq : QRow W2 g' v' (ba ++ [x])) (hg' : g' = g6 ∨ W.heap.size ≤ g') (hg : W.grownBy W2 (some g6)) : TI w W2 g5 g' a b v5 v' ab (ba ++ [x]) (n + 1) := by
  have h1 := t.l6
  have h2 := t.q5.lt
  have h3 := t.ne
  have h4 := arr_ltH t.b0
  exact ⟨arr_src t.a0 hg (by omega), arr_src t.b0 hg (by omega), t.q5.same (hg.block _ h2 (fun e => h3 (Option.some.inj e))), hq, by omega, t.l5, by omega, Nat.le_succ_of_le t.n5, by have := t.n6; simp; omega, Below.grown t.bl hg t.bl.size (fun k e => by injection e with e; omega)⟩
theorem lw_same (a b : HfL) (w : World) (h : a.t = b.f ∧ a.o = b.i ∧ b.t = a.f ∧ b.o = a.i) : Calls Try.prog 22 #[hfL a, hfL b] w fun e w' => e = .returned (.bool true) ∧ Below w.heap.size w w' := by
  obtain ⟨an, ao, at_, ai, af⟩ := a
  obtain ⟨bn, bo, bt, bi, bf⟩ := b
  dsimp only at h
  obtain ⟨rfl, rfl, rfl, rfl⟩ := h
  go_enter Try.func22, Try.ntmps22
  go_wp2
  go_ret
  exact ⟨rfl, ((Below.refl _ _).alloc (Nat.le_refl _) _).alloc (by simp) _⟩
theorem two_say {a b : HfL} {ab ba : List SbL} (h : Two a b ab ba) (k : Int) (hk : 1 ≤ k ∧ k ≤ 4) :
    (∃ (h' : HfL) (x : SbL), Two h' b (ab ++ [x]) ba ∧ ∀ W, Calls Try.prog 13 #[hfL a, .int .i64 k] W fun e w' => (∃ p k', e = .returned (hoV h' p 1 k' 0) ∧ OwnC sbC w' W.heap.size 32 2 (.slice p 1 k') [x]) ∧ Below W.heap.size W w') ∨
    (∃ R : HoL, (R.c == 0) = false ∧ ∀ W, Calls Try.prog 13 #[hfL a, .int .i64 k] W fun e w' => (∃ p k', e = .returned (hoV R.h p R.s.length k' R.c)) ∧ Below W.heap.size W w') := by
  have hi := fun W => impl_say a k W
  by_cases hc : (sayR a k).c = 0
  · obtain ⟨x, hs, ht⟩ := h.say k hk hc
    refine .inl ⟨(sayR a k).h, x, ht, fun W => (hi W).mono ?_⟩
    rintro e w' ⟨⟨p, k', rfl, ho⟩, hb⟩
    rw [hs, hc]
    rw [hs] at ho
    exact ⟨⟨p, k', rfl, ho⟩, hb⟩
  · refine .inr ⟨sayR a k, by simpa using hc, fun W => (hi W).mono ?_⟩
    rintro e w' ⟨⟨p, k', rfl, ho⟩, hb⟩
    exact ⟨⟨p, k', rfl⟩, hb⟩
theorem two_hear {a b : HfL} {x : SbL} {ab ba : List SbL} (h : Two a b (x :: ab) ba) :
    ∃ h' : HfL, Two a h' ab ba ∧ ∀ W, Calls Try.prog 15 #[hfL b, sbL x] W fun e w' => (∃ p k', e = .returned (hoV h' p 0 k' 0)) ∧ Below W.heap.size W w' := by
  obtain ⟨h1, h2⟩ := h.hear
  refine ⟨hearH b x, h2, fun W => (impl_hear b x W).mono ?_⟩
  rintro e w' ⟨⟨p, k', rfl, ho⟩, hb⟩
  rw [h1]
  exact ⟨⟨p, k', rfl⟩, hb⟩
theorem QRow.form {w : World} {g : Nat} {v : Value} {q : List SbL} (h : QRow w g v q) : ∃ off cap, q.length ≤ cap ∧ cap ≤ maxLen ∧ v = .slice (some ⟨g, off, none⟩) q.length cap := by
  obtain ⟨off, cap, cur, h1, h2, h3, h4, h5⟩ := h
  exact ⟨off, cap, h3, h4, h1⟩
theorem QRow.cut {w : World} {g off cap : Nat} {x : SbL} {q : List SbL} (h : QRow w g (.slice (some ⟨g, off, none⟩) (q.length + 1) cap) (x :: q)) : QRow w g (.slice (if cap = 1 then some ⟨g, off, none⟩ else some ⟨g, off + 2, none⟩) q.length (cap - 1)) q := by
  by_cases e : cap = 1
  · subst e
    rw [if_pos rfl]
    have hq : q.length + 1 ≤ 1 := by
      obtain ⟨off', cap', cur, h1, h2, h3, h4⟩ := h
      injection h1 with _ _ h8
      subst h8
      exact h3
    obtain rfl : q = [] := List.eq_nil_of_length_eq_zero (by omega)
    exact q_empty h _ (Nat.le_refl _)
  · rw [if_neg e]
    exact h.tail
theorem TI.cut5 {w W : World} {g5 g6 : Nat} {a b : HfL} {v5 v6 v' : Value} {x : SbL} {q ba : List SbL} {n : Nat} (t : TI w W g5 g6 a b v5 v6 (x :: q) ba n) (hq : QRow W g5 v' q) : TI w W g5 g6 a b v' v6 q ba (n + 1) :=
  { t.up with q5 := hq, n5 := by have := t.n5; simp only [List.length_cons] at this; omega }
theorem TI.cut6 {w W : World} {g5 g6 : Nat} {a b : HfL} {v5 v6 v' : Value} {x : SbL} {q ab : List SbL} {n : Nat} (t : TI w W g5 g6 a b v5 v6 ab (x :: q) n) (hq : QRow W g6 v' q) : TI w W g5 g6 a b v5 v' ab q (n + 1) :=
  { t.up with q6 := hq, n6 := by have := t.n6; simp only [List.length_cons] at this; omega }
theorem say_hf0 (W : World) : Calls Try.prog 13 #[hfL hf0, .int .i64 1] W fun e w' => (∃ p k', e = .returned (hoV ⟨1, 1, 0, 0, 0⟩ p 1 k' 0)) ∧ Below W.heap.size W w' := by
  have e : sayR hf0 1 = ⟨⟨1, 1, 0, 0, 0⟩, [⟨1, 1⟩], 0⟩ := by
    unfold sayR
    rw [if_pos ⟨two_new.oka, by decide⟩]
    rfl
  have h := impl_say hf0 1 W
  rw [e] at h
  refine h.mono ?_
  rintro e w' ⟨⟨p, k', rfl, ho⟩, hb⟩
  exact ⟨⟨p, k', rfl⟩, hb⟩
set_option maxRecDepth 100000 in
set_option maxHeartbeats 4000000 in
theorem fntwo_law (w : World) (a0 : Option Addr) (len0 cap0 : Nat) (w0 : SrcRow w w.heap.size a0 len0) :
    Calls Try.prog 4 #[.slice a0 len0 cap0] w fun e w' => e = .returned (.bool true) ∧ Below w.heap.size w w' := by
  have HR := Lib.hid (fun W (h : Below w.heap.size w W) => (w0.lift h h.size : SrcRow W W.heap.size a0 len0))
  clear w0
  by_cases hbig0 : 1048576 < len0
  · go_enter Try.func4, Try.ntmps4
    go_wp2
    go_ret
    exact ⟨rfl, Below.refl _ _⟩
  have HT0 : Hid (TI w ((((w.alloc (.cells (hfC hf0).toArray 24)).alloc (.cells (hfC hf0).toArray 24)).alloc (.cells #[] 32)).alloc (.cells #[] 32)) (w.heap.size + 1 + 1) (w.heap.size + 1 + 1 + 1) hf0 hf0 (.slice (some ⟨w.heap.size + 1 + 1, 0, none⟩) 0 0) (.slice (some ⟨w.heap.size + 1 + 1 + 1, 0, none⟩) 0 0) [] [] 0) := Lib.hid (by
    have hb := bx2 w 24 24 (hfC hf0) (hfC hf0)
    obtain ⟨V, hV⟩ : ∃ V, ((w.alloc (.cells (hfC hf0).toArray 24)).alloc (.cells (hfC hf0).toArray 24)) = V := ⟨_, rfl⟩
    have hs : V.heap.size = w.heap.size + 1 + 1 := by rw [← hV, World.size_alloc, World.size_alloc]
    rw [hV] at hb ⊢
    have q1 := q_new V
    have q2 := q_new (V.alloc (.cells #[] 32))
    rw [World.size_alloc] at q2
    rw [hs] at q1 q2
    have b1 : Below V.heap.size V (V.alloc (.cells #[] 32)) := (Below.refl _ _).alloc (Nat.le_refl _) _
    have b2 : Below (V.alloc (.cells #[] 32)).heap.size (V.alloc (.cells #[] 32)) ((V.alloc (.cells #[] 32)).alloc (.cells #[] 32)) := (Below.refl _ _).alloc (Nat.le_refl _) _
    have hb2 := (hb.on b1).on b2
    exact ⟨hb2.2 0 (show 0 < 2 by decide), hb2.2 1 (show 1 < 2 by decide), q1.on b2, q2, by omega, by omega, by omega, Nat.le_refl _, Nat.le_refl _, hb2.1⟩)
  go_enter Try.func4, Try.ntmps4
  go_wp2
  go_loopw [5, 6, 7] (fun x5 x6 iq wr => ∃ (i g5 g6 : Nat) (a b : HfL) (ab ba : List SbL), i ≤ 60 ∧ iq = .int .i64 i ∧ TI w wr g5 g6 a b x5 x6 ab ba i ∧ Two a b ab ba) (fun _ _ i _ => 60 - (intOf i).toNat)
  case atStart => exact ⟨0, _, _, hf0, hf0, [], [], by omega, rfl, HT0.out, two_new⟩
  case round =>
    clear HT0
    obtain ⟨i, g5, g6, a, b, ab, ba, hi, rfl, ht, htwo⟩ := hrel
    have HT := Lib.hid ht
    have H2 := Lib.hid htwo
    clear ht htwo
    by_cases hlt : i < 60
    · obtain ⟨o5, k5, hk5, hm5, rfl⟩ := HT.out.q5.form
      obtain ⟨o6, k6, hk6, hm6, rfl⟩ := HT.out.q6.form
      go_wp2_with (first
        | (go_at_call 21; have _ := HT1; go_fit (lw_K a0 len0 cap0 (2 * i + 1) (2 * (i : Int) + 1) (by omega) _ (by omega) (HR.out _ HT1.out.bl) (by omega)); rintro e w1 ⟨⟨r2, rfl, h20, h21⟩, rfl⟩; have hr2 : r2 = 0 ∨ r2 = 1 ∨ r2 = 2 ∨ r2 = 3 := (by omega); rcases hr2 with rfl | rfl | rfl | rfl)
        | (go_at_call 21; go_fit (lw_K a0 len0 cap0 (2 * i) (2 * (i : Int)) (by omega) _ (by omega) (HR.out _ HT.out.bl) (by omega)); rintro e w1 ⟨⟨r1, rfl, h10, h11⟩, rfl⟩; have HT1 := Lib.hid (HT.out.on ((Below.refl _ _).alloc (Nat.le_refl _) (.cells #[.int .i64 0, .int .i64 0, .int .i64 0, .int .i64 0, .int .i64 0, .slice none 0 0, .int .i64 10] 29))); have HZ := Lib.hid (Arr.fresh wr 29 hoT); (obtain ⟨⟨c0, c1, c2, c3, c4⟩, _⟩ := hf_cells HT.out.a0); (obtain ⟨⟨d0, d1, d2, d3, d4⟩, _⟩ := hf_cells HT.out.b0); have hza := arr_ltH HT.out.a0; have hzb := arr_ltH HT.out.b0))
      · have hz5 := HT1.out.q5.lt
        have hz6 := HT1.out.q6.lt
        rw [World.size_alloc] at hz5 hz6
        have hz5' := HT.out.q5.lt
        have hz6' := HT.out.q6.lt
        rcases two_say H2.out (1 + r1) ⟨by omega, by omega⟩ with ⟨h', x, ht', i1⟩ | ⟨R, hRc, i1⟩
        · have HN := Lib.hid ht'
          clear ht'
          (go_fit (i1 _); rintro e w2 ⟨⟨p, k', rfl, hv⟩, hb2⟩; have HT2 := Lib.hid (HT1.out.on hb2); have HZ2 := Lib.hid (arr_belowH2 HZ.out hb2); have HV := Lib.hid hv; clear hv; clear hb2)
          go_wp2_with (first
            | (refine wpList_store_row rfl 29 _ _ rfl wr.heap.size _ rfl rfl 29 _ HZ2.out (by kernel_rfl) (by rfl) (by kernel_rfl) ?_; have HT3 := Lib.hid (HT2.out.far hz5' hz6' (hoC h' p 1 k' 0).toArray); have HO3 := Lib.hid (And.intro (setRow_heap _ _ _ (hoC h' p 1 k' 0).toArray _ _ HZ2.out) (HV.out.setRowH (z := wr.heap.size) (by simp) (hoC h' p 1 k' 0).toArray)); (generalize w2.setRow wr.heap.size _ = W3 at HT3 HO3 ⊢); obtain ⟨a0, a1, a2, a3, a4, a5, a6⟩ := ho_cellsT HO3.out.1)
            | (refine wpList_store_row rfl 24 _ _ rfl w.heap.size _ rfl rfl 24 _ HT3.out.a0 (by kernel_rfl) (by rfl) (by kernel_rfl) ?_; (show wpList _ _ _ _ _ (W3.setRow w.heap.size (hfC h').toArray)); have HT4 := Lib.hid (HT3.out.setA h'); have HO4 := Lib.hid (And.intro ((setRow_other W3 w.heap.size wr.heap.size (hfC h').toArray (by omega)).trans HO3.out.1) (HO3.out.2.setRowH (z := w.heap.size) (by simp only [World.size_alloc]; omega) (hfC h').toArray)); (generalize W3.setRow w.heap.size _ = W4 at HT4 HO4 ⊢); obtain ⟨b0, b1, b2, b3, b4, b5, b6⟩ := ho_cellsT HO4.out.1)
            | (at_builtin; refine wpList_app_q _ rfl _ _ rfl g5 _ ab x rfl HT4.out.q5 _ p k' rfl HO4.out.2 (by have := HT4.out.n5; omega) ?_; intro g' v' w' hq hg' hg; have HT5 := Lib.hid (HT4.out.app5 hq hg' hg)))
          exact ⟨⟨i + 1, g', g6, h', b, ab ++ [x], ba, by omega, by go_num, HT5.out, HN.out⟩, by simp [intOf]; omega⟩
        · (go_fit (i1 _); rintro e w2 ⟨⟨p, k', rfl⟩, hb2⟩; have HT2 := Lib.hid (HT1.out.on hb2); have HZ2 := Lib.hid (arr_belowH2 HZ.out hb2); clear hb2)
          go_wp2_with (refine wpList_store_row rfl 29 _ _ rfl wr.heap.size _ rfl rfl 29 _ HZ2.out (by kernel_rfl) (by rfl) (by kernel_rfl) ?_; have HT3 := Lib.hid (HT2.out.far hz5' hz6' (hoC R.h p R.s.length k' R.c).toArray); have HO3 := Lib.hid (setRow_heap _ _ _ (hoC R.h p R.s.length k' R.c).toArray _ _ HZ2.out); (generalize w2.setRow wr.heap.size _ = W3 at HT3 HO3 ⊢); obtain ⟨a0, a1, a2, a3, a4, a5, a6⟩ := ho_cellsT HO3.out)
          exact ⟨⟨i + 1, g5, g6, a, b, ab, ba, by omega, by go_num, HT3.out.up, H2.out⟩, by simp [intOf]; omega⟩
      · have hz5 := HT1.out.q5.lt
        have hz6 := HT1.out.q6.lt
        rw [World.size_alloc] at hz5 hz6
        have hz5' := HT.out.q5.lt
        have hz6' := HT.out.q6.lt
        rcases two_say H2.out.swap (1 + r1) ⟨by omega, by omega⟩ with ⟨h', x, ht', i1⟩ | ⟨R, hRc, i1⟩
        · have HN := Lib.hid ht'
          clear ht'
          (go_fit (i1 _); rintro e w2 ⟨⟨p, k', rfl, hv⟩, hb2⟩; have HT2 := Lib.hid (HT1.out.on hb2); have HZ2 := Lib.hid (arr_belowH2 HZ.out hb2); have HV := Lib.hid hv; clear hv; clear hb2)
          go_wp2_with (first
            | (refine wpList_store_row rfl 29 _ _ rfl wr.heap.size _ rfl rfl 29 _ HZ2.out (by kernel_rfl) (by rfl) (by kernel_rfl) ?_; have HT3 := Lib.hid (HT2.out.far hz5' hz6' (hoC h' p 1 k' 0).toArray); have HO3 := Lib.hid (And.intro (setRow_heap _ _ _ (hoC h' p 1 k' 0).toArray _ _ HZ2.out) (HV.out.setRowH (z := wr.heap.size) (by simp) (hoC h' p 1 k' 0).toArray)); (generalize w2.setRow wr.heap.size _ = W3 at HT3 HO3 ⊢); obtain ⟨a0, a1, a2, a3, a4, a5, a6⟩ := ho_cellsT HO3.out.1)
            | (refine wpList_store_row rfl 24 _ _ rfl (w.heap.size + 1) _ rfl rfl 24 _ HT3.out.b0 (by kernel_rfl) (by rfl) (by kernel_rfl) ?_; (show wpList _ _ _ _ _ (W3.setRow (w.heap.size + 1) (hfC h').toArray)); have HT4 := Lib.hid (HT3.out.setB h'); have HO4 := Lib.hid (And.intro ((setRow_other W3 (w.heap.size + 1) wr.heap.size (hfC h').toArray (by omega)).trans HO3.out.1) (HO3.out.2.setRowH (z := (w.heap.size + 1)) (by simp only [World.size_alloc]; omega) (hfC h').toArray)); (generalize W3.setRow (w.heap.size + 1) _ = W4 at HT4 HO4 ⊢); obtain ⟨b0, b1, b2, b3, b4, b5, b6⟩ := ho_cellsT HO4.out.1)
            | (at_builtin; refine wpList_app_q _ rfl _ _ rfl g6 _ ba x rfl HT4.out.q6 _ p k' rfl HO4.out.2 (by have := HT4.out.n6; omega) ?_; intro g' v' w' hq hg' hg; have HT5 := Lib.hid (HT4.out.app6 hq hg' hg)))
          exact ⟨⟨i + 1, g5, g', a, h', ab, ba ++ [x], by omega, by go_num, HT5.out, HN.out.swap⟩, by simp [intOf]; omega⟩
        · (go_fit (i1 _); rintro e w2 ⟨⟨p, k', rfl⟩, hb2⟩; have HT2 := Lib.hid (HT1.out.on hb2); have HZ2 := Lib.hid (arr_belowH2 HZ.out hb2); clear hb2)
          go_wp2_with (refine wpList_store_row rfl 29 _ _ rfl wr.heap.size _ rfl rfl 29 _ HZ2.out (by kernel_rfl) (by rfl) (by kernel_rfl) ?_; have HT3 := Lib.hid (HT2.out.far hz5' hz6' (hoC R.h p R.s.length k' R.c).toArray); have HO3 := Lib.hid (setRow_heap _ _ _ (hoC R.h p R.s.length k' R.c).toArray _ _ HZ2.out); (generalize w2.setRow wr.heap.size _ = W3 at HT3 HO3 ⊢); obtain ⟨a0, a1, a2, a3, a4, a5, a6⟩ := ho_cellsT HO3.out)
          exact ⟨⟨i + 1, g5, g6, a, b, ab, ba, by omega, by go_num, HT3.out.up, H2.out⟩, by simp [intOf]; omega⟩
      · cases ab with
        | nil =>
          have hl : ([] : List SbL).length = 0 := rfl
          omega
        | cons x q =>
          obtain ⟨h', ht', i1⟩ := two_hear H2.out
          have HN := Lib.hid ht'
          clear ht' H2 HT HZ c0 c1 c2 c3 c4 d0 d1 d2 d3 d4
          have hz9 := HT1.out.bl.size
          generalize wr.alloc (.cells #[.int .i64 0, .int .i64 0, .int .i64 0, .int .i64 0, .int .i64 0, .slice none 0 0, .int .i64 10] 29) = W1 at HT1 hz9 ⊢
          have hd0 := HT1.out.on (Below.refl _ _).drew
          clear HT1
          refine wp_region_held_drew (S := fun W => QRow W g5 (.slice (some ⟨g5, o5, none⟩) (q.length + 1) k5) (x :: q)) (by kernel_rfl) (show QRow W1.drew g5 (.slice (some ⟨g5, o5, none⟩) (q.length + 1) k5) (x :: q) from hd0.q5) (fun hHeld => ?_)
          generalize W1.drew = Wd at hHeld hd0 ⊢
          refine takeQ (i := 1) (k := 80) (v := .slice (some ⟨g5, o5, none⟩) (q.length + 1) k5) rfl (by rfl) (by kernel_rfl) (by kernel_rfl) (by kernel_rfl) (fun _ _ _ h => h) (by rfl) ?_ hHeld ?_
          · intro w1 hSw; go_simp
          (try simp only [Act.put, List.setIfInBounds_toArray, List.set_cons_zero, List.set_cons_succ])
          refine takeQ (i := 2) (k := 81) (v := .pointer (some ⟨g5, o5, none⟩)) rfl (by rfl) (by kernel_rfl) (by kernel_rfl) (by kernel_rfl) (fun _ _ _ h => h) (by rfl) ?_ hHeld ?_
          · intro w1 hSw; go_simp
          (try simp only [Act.put, List.setIfInBounds_toArray, List.set_cons_zero, List.set_cons_succ])
          refine takeQ (i := 3) (k := 82) (v := sbL x) rfl (by rfl) (by kernel_rfl) (by kernel_rfl) (by kernel_rfl) (fun _ _ _ h => h) (by rfl) ?_ hHeld ?_
          · intro w1 hSw; have m0 := hSw.cell (i := 0) (Nat.succ_pos _) (j := 0) (by decide)
            have m1 := hSw.cell (i := 0) (Nat.succ_pos _) (j := 1) (by decide)
            replace m0 : w1.cell? ⟨g5, o5, none⟩ = some (.int .i64 x.k) := m0
            replace m1 : w1.cell? ⟨g5, o5 + 1, none⟩ = some (.int .i64 x.n) := m1
            go_simp
          (try simp only [Act.put, List.setIfInBounds_toArray, List.set_cons_zero, List.set_cons_succ])
          obtain ⟨⟨c0, c1, c2, c3, c4⟩, _⟩ := hf_cells hd0.b0
          refine wpAnyH_ready (rs := [0]) (by kernel_rfl) (by simp) ?_
          refine AllReadyH.cons rfl (fun K hK => ?_) AllReadyH.nil
          rw [if_pos (by rfl)]
          go_simp
          refine hK.out _ _ (hHeld) (fun hHeld => ?_)
          clear hK K
          (try simp only [Act.put, List.setIfInBounds_toArray, List.set_cons_zero, List.set_cons_succ])
          clear c0 c1 c2 c3 c4
          refine wpAnyH_ready (rs := [4]) (by kernel_rfl) (by simp) ?_
          refine AllReadyH.cons rfl (fun K hK => ?_) AllReadyH.nil
          rw [if_pos (by rfl)]
          go_simp
          go_fit (i1 _)
          rintro e W6 ⟨⟨p9, k9, rfl⟩, hb6⟩
          replace hd0 := hd0.on hb6
          refine hK.out _ _ (hd0.q5) (fun hHeld => ?_)
          clear hK K
          (try simp only [Act.put, List.setIfInBounds_toArray, List.set_cons_zero, List.set_cons_succ])
          refine takeQ (i := 5) (k := 84) (v := hfL h') rfl (by rfl) (by kernel_rfl) (by kernel_rfl) (by kernel_rfl) (fun _ _ _ h => h) (by rfl) ?_ hHeld ?_
          · intro w1 hSw; first | kernel_rfl | (go_simp; rfl)
          (try simp only [Act.put, List.setIfInBounds_toArray, List.set_cons_zero, List.set_cons_succ])
          refine wpAnyH_ready (rs := [6]) (by kernel_rfl) (by simp) ?_
          refine AllReadyH.cons rfl (fun K hK => ?_) AllReadyH.nil
          rw [if_pos (by rfl)]
          refine wp_store_row 24 _ _ rfl (w.heap.size + 1) _ rfl rfl 24 _ hd0.b0 (by kernel_rfl) (by rfl) (by kernel_rfl) ?_
          replace hd0 := hd0.setB h'
          refine hK.out _ _ (hd0.q5) (fun hHeld => ?_)
          clear hK K
          (try simp only [Act.put, List.setIfInBounds_toArray, List.set_cons_zero, List.set_cons_succ])
          refine wpAnyH_done (by kernel_rfl) ?_ _
          go_wp2
          exact ⟨⟨i + 1, g5, g6, a, h', q, ba, by omega, by go_num, hd0.cut5 hHeld.cut, HN.out⟩, by simp [intOf]; omega⟩
      · exact ⟨⟨i + 1, g5, g6, a, b, ab, ba, by omega, by go_num, HT1.out.up, H2.out⟩, by simp [intOf]; omega⟩
      · cases ba with
        | nil =>
          have hl : ([] : List SbL).length = 0 := rfl
          omega
        | cons x q =>
          obtain ⟨h', ht', i1⟩ := two_hear H2.out.swap
          have HN := Lib.hid ht'
          clear ht' H2 HT HZ c0 c1 c2 c3 c4 d0 d1 d2 d3 d4
          have hz9 := HT1.out.bl.size
          generalize wr.alloc (.cells #[.int .i64 0, .int .i64 0, .int .i64 0, .int .i64 0, .int .i64 0, .slice none 0 0, .int .i64 10] 29) = W1 at HT1 hz9 ⊢
          have hd0 := HT1.out.on (Below.refl _ _).drew
          clear HT1
          refine wp_region_held_drew (S := fun W => QRow W g6 (.slice (some ⟨g6, o6, none⟩) (q.length + 1) k6) (x :: q)) (by kernel_rfl) (show QRow W1.drew g6 (.slice (some ⟨g6, o6, none⟩) (q.length + 1) k6) (x :: q) from hd0.q6) (fun hHeld => ?_)
          generalize W1.drew = Wd at hHeld hd0 ⊢
          refine takeQ (i := 1) (k := 39) (v := .slice (some ⟨g6, o6, none⟩) (q.length + 1) k6) rfl (by rfl) (by kernel_rfl) (by kernel_rfl) (by kernel_rfl) (fun _ _ _ h => h) (by rfl) ?_ hHeld ?_
          · intro w1 hSw; go_simp
          (try simp only [Act.put, List.setIfInBounds_toArray, List.set_cons_zero, List.set_cons_succ])
          refine takeQ (i := 2) (k := 40) (v := .pointer (some ⟨g6, o6, none⟩)) rfl (by rfl) (by kernel_rfl) (by kernel_rfl) (by kernel_rfl) (fun _ _ _ h => h) (by rfl) ?_ hHeld ?_
          · intro w1 hSw; go_simp
          (try simp only [Act.put, List.setIfInBounds_toArray, List.set_cons_zero, List.set_cons_succ])
          refine takeQ (i := 3) (k := 41) (v := sbL x) rfl (by rfl) (by kernel_rfl) (by kernel_rfl) (by kernel_rfl) (fun _ _ _ h => h) (by rfl) ?_ hHeld ?_
          · intro w1 hSw; have m0 := hSw.cell (i := 0) (Nat.succ_pos _) (j := 0) (by decide)
            have m1 := hSw.cell (i := 0) (Nat.succ_pos _) (j := 1) (by decide)
            replace m0 : w1.cell? ⟨g6, o6, none⟩ = some (.int .i64 x.k) := m0
            replace m1 : w1.cell? ⟨g6, o6 + 1, none⟩ = some (.int .i64 x.n) := m1
            go_simp
          (try simp only [Act.put, List.setIfInBounds_toArray, List.set_cons_zero, List.set_cons_succ])
          obtain ⟨⟨c0, c1, c2, c3, c4⟩, _⟩ := hf_cells hd0.a0
          refine wpAnyH_ready (rs := [0]) (by kernel_rfl) (by simp) ?_
          refine AllReadyH.cons rfl (fun K hK => ?_) AllReadyH.nil
          rw [if_pos (by rfl)]
          go_simp
          refine hK.out _ _ (hHeld) (fun hHeld => ?_)
          clear hK K
          (try simp only [Act.put, List.setIfInBounds_toArray, List.set_cons_zero, List.set_cons_succ])
          clear c0 c1 c2 c3 c4
          refine wpAnyH_ready (rs := [4]) (by kernel_rfl) (by simp) ?_
          refine AllReadyH.cons rfl (fun K hK => ?_) AllReadyH.nil
          rw [if_pos (by rfl)]
          go_simp
          go_fit (i1 _)
          rintro e W6 ⟨⟨p9, k9, rfl⟩, hb6⟩
          replace hd0 := hd0.on hb6
          refine hK.out _ _ (hd0.q6) (fun hHeld => ?_)
          clear hK K
          (try simp only [Act.put, List.setIfInBounds_toArray, List.set_cons_zero, List.set_cons_succ])
          refine takeQ (i := 5) (k := 43) (v := hfL h') rfl (by rfl) (by kernel_rfl) (by kernel_rfl) (by kernel_rfl) (fun _ _ _ h => h) (by rfl) ?_ hHeld ?_
          · intro w1 hSw; first | kernel_rfl | (go_simp; rfl)
          (try simp only [Act.put, List.setIfInBounds_toArray, List.set_cons_zero, List.set_cons_succ])
          refine wpAnyH_ready (rs := [6]) (by kernel_rfl) (by simp) ?_
          refine AllReadyH.cons rfl (fun K hK => ?_) AllReadyH.nil
          rw [if_pos (by rfl)]
          refine wp_store_row 24 _ _ rfl w.heap.size _ rfl rfl 24 _ hd0.a0 (by kernel_rfl) (by rfl) (by kernel_rfl) ?_
          replace hd0 := hd0.setA h'
          refine hK.out _ _ (hd0.q6) (fun hHeld => ?_)
          clear hK K
          (try simp only [Act.put, List.setIfInBounds_toArray, List.set_cons_zero, List.set_cons_succ])
          refine wpAnyH_done (by kernel_rfl) ?_ _
          go_wp2
          exact ⟨⟨i + 1, g5, g6, h', b, ab, q, by omega, by go_num, hd0.cut6 hHeld.cut, HN.out.swap⟩, by simp [intOf]; omega⟩
      · exact ⟨⟨i + 1, g5, g6, a, b, ab, ba, by omega, by go_num, HT1.out.up, H2.out⟩, by simp [intOf]; omega⟩
    · obtain ⟨o5, k5, hk5, hm5, rfl⟩ := HT.out.q5.form
      obtain ⟨o6, k6, hk6, hm6, rfl⟩ := HT.out.q6.form
      go_wp2_with fail
      go_loopw [10] (fun iq wr => ∃ (j : Nat) (b2 : HfL), j ≤ ab.length ∧ iq = .int .i64 j ∧ TI w wr g5 g6 a b2 (.slice (some ⟨g5, o5, none⟩) ab.length k5) (.slice (some ⟨g6, o6, none⟩) ba.length k6) ab ba i ∧ Two a b2 (ab.drop j) ba) (fun j _ => ab.length - (intOf j).toNat)
      case atStart => exact ⟨0, b, by omega, rfl, HT.out, H2.out⟩
      case round =>
        clear HT H2
        obtain ⟨j, b2, hj, rfl, ht3, hw3⟩ := hrel
        have HT3 := Lib.hid ht3
        have H3 := Lib.hid hw3
        have hlen5 := ht3.n5
        have hlen6 := ht3.n6
        clear ht3 hw3
        by_cases hlt5 : j < ab.length
        · obtain ⟨x, hx⟩ : ∃ x, ab[j] = x := ⟨_, rfl⟩
          have HX := Lib.hid hx
          have htw := H3.out
          rw [List.drop_eq_getElem_cons hlt5, hx] at htw
          obtain ⟨h', ht', i1⟩ := two_hear htw
          have HN := Lib.hid ht'
          clear ht' htw hx
          go_wp2_with fail
          have hd0 := HT3.out.on (Below.refl _ _).drew
          clear HT3
          refine wp_region_held_drew (S := fun W => QRow W g5 (.slice (some ⟨g5, o5, none⟩) ab.length k5) ab) (by kernel_rfl) hd0.q5 (fun hHeld => ?_)
          generalize wr.drew = Wd at hHeld hd0 ⊢
          refine takeQ (i := 1) (k := 94) (v := .slice (some ⟨g5, o5, none⟩) ab.length k5) rfl (by rfl) (by kernel_rfl) (by kernel_rfl) (by kernel_rfl) (fun _ _ _ h => h) (by rfl) ?_ hHeld ?_
          · intro w1 hSw; go_simp
          (try simp only [Act.put, List.setIfInBounds_toArray, List.set_cons_zero, List.set_cons_succ])
          refine takeQ (i := 2) (k := 95) (v := .int .i64 (j : Int)) rfl (by rfl) (by kernel_rfl) (by kernel_rfl) (by kernel_rfl) (fun _ _ _ h => h) (by rfl) ?_ hHeld ?_
          · intro w1 hSw; go_simp
          (try simp only [Act.put, List.setIfInBounds_toArray, List.set_cons_zero, List.set_cons_succ])
          refine takeQ (i := 3) (k := 96) (v := .pointer (some ⟨g5, o5 + j * 2, none⟩)) rfl (by rfl) (by kernel_rfl) (by kernel_rfl) (by kernel_rfl) (fun _ _ _ h => h) (by rfl) ?_ hHeld ?_
          · intro w1 hSw; go_simp
          (try simp only [Act.put, List.setIfInBounds_toArray, List.set_cons_zero, List.set_cons_succ])
          refine takeQ (i := 4) (k := 97) (v := sbL x) rfl (by rfl) (by kernel_rfl) (by kernel_rfl) (by kernel_rfl) (fun _ _ _ h => h) (by rfl) ?_ hHeld ?_
          · intro w1 hSw; have m0 := hSw.cell hlt5 (j := 0) (by decide)
            have m1 := hSw.cell hlt5 (j := 1) (by decide)
            rw [HX.out] at m0 m1
            replace m0 : w1.cell? ⟨g5, o5 + j * 2, none⟩ = some (.int .i64 x.k) := m0
            replace m1 : w1.cell? ⟨g5, o5 + j * 2 + 1, none⟩ = some (.int .i64 x.n) := m1
            go_simp
          (try simp only [Act.put, List.setIfInBounds_toArray, List.set_cons_zero, List.set_cons_succ])
          obtain ⟨⟨c0, c1, c2, c3, c4⟩, _⟩ := hf_cells hd0.b0
          refine wpAnyH_ready (rs := [0]) (by kernel_rfl) (by simp) ?_
          refine AllReadyH.cons rfl (fun K hK => ?_) AllReadyH.nil
          rw [if_pos (by rfl)]
          go_simp
          refine hK.out _ _ (hHeld) (fun hHeld => ?_)
          clear hK K
          (try simp only [Act.put, List.setIfInBounds_toArray, List.set_cons_zero, List.set_cons_succ])
          clear c0 c1 c2 c3 c4
          refine wpAnyH_ready (rs := [5]) (by kernel_rfl) (by simp) ?_
          refine AllReadyH.cons rfl (fun K hK => ?_) AllReadyH.nil
          rw [if_pos (by rfl)]
          go_simp
          go_fit (i1 _)
          rintro e W6 ⟨⟨p9, k9, rfl⟩, hb6⟩
          replace hd0 := hd0.on hb6
          refine hK.out _ _ (hd0.q5) (fun hHeld => ?_)
          clear hK K
          (try simp only [Act.put, List.setIfInBounds_toArray, List.set_cons_zero, List.set_cons_succ])
          refine takeQ (i := 6) (k := 99) (v := hfL h') rfl (by rfl) (by kernel_rfl) (by kernel_rfl) (by kernel_rfl) (fun _ _ _ h => h) (by rfl) ?_ hHeld ?_
          · intro w1 hSw; first | kernel_rfl | (go_simp; rfl)
          (try simp only [Act.put, List.setIfInBounds_toArray, List.set_cons_zero, List.set_cons_succ])
          refine wpAnyH_ready (rs := [7]) (by kernel_rfl) (by simp) ?_
          refine AllReadyH.cons rfl (fun K hK => ?_) AllReadyH.nil
          rw [if_pos (by rfl)]
          refine wp_store_row 24 _ _ rfl (w.heap.size + 1) _ rfl rfl 24 _ hd0.b0 (by kernel_rfl) (by rfl) (by kernel_rfl) ?_
          replace hd0 := hd0.setB h'
          refine hK.out _ _ (hd0.q5) (fun hHeld => ?_)
          clear hK K
          (try simp only [Act.put, List.setIfInBounds_toArray, List.set_cons_zero, List.set_cons_succ])
          refine wpAnyH_done (by kernel_rfl) ?_ _
          go_wp2
          exact ⟨⟨j + 1, h', by omega, by go_num, hd0, HN.out⟩, by simp [intOf]; omega⟩
        · obtain rfl : j = ab.length := by omega
          go_wp2_with fail
          have hw4 := H3.out
          rw [List.drop_length] at hw4
          have H4' := Lib.hid hw4
          clear hw4 H3
          go_loopw [11] (fun iq wr => ∃ (l : Nat) (a2 : HfL), l ≤ ba.length ∧ iq = .int .i64 l ∧ TI w wr g5 g6 a2 b2 (.slice (some ⟨g5, o5, none⟩) ab.length k5) (.slice (some ⟨g6, o6, none⟩) ba.length k6) ab ba i ∧ Two a2 b2 [] (ba.drop l)) (fun l _ => ba.length - (intOf l).toNat)
          case atStart => exact ⟨0, a, by omega, rfl, HT3.out, H4'.out⟩
          case round =>
            clear HT3 H4'
            obtain ⟨l, a2, hl, rfl, ht4, hw4⟩ := hrel
            have HT4 := Lib.hid ht4
            have H4 := Lib.hid hw4
            clear ht4 hw4
            by_cases hlt6 : l < ba.length
            · obtain ⟨x, hx⟩ : ∃ x, ba[l] = x := ⟨_, rfl⟩
              have HX := Lib.hid hx
              have htw := H4.out
              rw [List.drop_eq_getElem_cons hlt6, hx] at htw
              obtain ⟨h', ht', i1⟩ := two_hear htw.swap
              have HN := Lib.hid ht'
              clear ht' htw hx
              go_wp2_with fail
              have hd0 := HT4.out.on (Below.refl _ _).drew
              clear HT4
              refine wp_region_held_drew (S := fun W => QRow W g6 (.slice (some ⟨g6, o6, none⟩) ba.length k6) ba) (by kernel_rfl) hd0.q6 (fun hHeld => ?_)
              generalize wr.drew = Wd at hHeld hd0 ⊢
              refine takeQ (i := 1) (k := 107) (v := .slice (some ⟨g6, o6, none⟩) ba.length k6) rfl (by rfl) (by kernel_rfl) (by kernel_rfl) (by kernel_rfl) (fun _ _ _ h => h) (by rfl) ?_ hHeld ?_
              · intro w1 hSw; go_simp
              (try simp only [Act.put, List.setIfInBounds_toArray, List.set_cons_zero, List.set_cons_succ])
              refine takeQ (i := 2) (k := 108) (v := .int .i64 (l : Int)) rfl (by rfl) (by kernel_rfl) (by kernel_rfl) (by kernel_rfl) (fun _ _ _ h => h) (by rfl) ?_ hHeld ?_
              · intro w1 hSw; go_simp
              (try simp only [Act.put, List.setIfInBounds_toArray, List.set_cons_zero, List.set_cons_succ])
              refine takeQ (i := 3) (k := 109) (v := .pointer (some ⟨g6, o6 + l * 2, none⟩)) rfl (by rfl) (by kernel_rfl) (by kernel_rfl) (by kernel_rfl) (fun _ _ _ h => h) (by rfl) ?_ hHeld ?_
              · intro w1 hSw; go_simp
              (try simp only [Act.put, List.setIfInBounds_toArray, List.set_cons_zero, List.set_cons_succ])
              refine takeQ (i := 4) (k := 110) (v := sbL x) rfl (by rfl) (by kernel_rfl) (by kernel_rfl) (by kernel_rfl) (fun _ _ _ h => h) (by rfl) ?_ hHeld ?_
              · intro w1 hSw; have m0 := hSw.cell hlt6 (j := 0) (by decide)
                have m1 := hSw.cell hlt6 (j := 1) (by decide)
                rw [HX.out] at m0 m1
                replace m0 : w1.cell? ⟨g6, o6 + l * 2, none⟩ = some (.int .i64 x.k) := m0
                replace m1 : w1.cell? ⟨g6, o6 + l * 2 + 1, none⟩ = some (.int .i64 x.n) := m1
                go_simp
              (try simp only [Act.put, List.setIfInBounds_toArray, List.set_cons_zero, List.set_cons_succ])
              obtain ⟨⟨c0, c1, c2, c3, c4⟩, _⟩ := hf_cells hd0.a0
              refine wpAnyH_ready (rs := [0]) (by kernel_rfl) (by simp) ?_
              refine AllReadyH.cons rfl (fun K hK => ?_) AllReadyH.nil
              rw [if_pos (by rfl)]
              go_simp
              refine hK.out _ _ (hHeld) (fun hHeld => ?_)
              clear hK K
              (try simp only [Act.put, List.setIfInBounds_toArray, List.set_cons_zero, List.set_cons_succ])
              clear c0 c1 c2 c3 c4
              refine wpAnyH_ready (rs := [5]) (by kernel_rfl) (by simp) ?_
              refine AllReadyH.cons rfl (fun K hK => ?_) AllReadyH.nil
              rw [if_pos (by rfl)]
              go_simp
              go_fit (i1 _)
              rintro e W6 ⟨⟨p9, k9, rfl⟩, hb6⟩
              replace hd0 := hd0.on hb6
              refine hK.out _ _ (hd0.q6) (fun hHeld => ?_)
              clear hK K
              (try simp only [Act.put, List.setIfInBounds_toArray, List.set_cons_zero, List.set_cons_succ])
              refine takeQ (i := 6) (k := 112) (v := hfL h') rfl (by rfl) (by kernel_rfl) (by kernel_rfl) (by kernel_rfl) (fun _ _ _ h => h) (by rfl) ?_ hHeld ?_
              · intro w1 hSw; first | kernel_rfl | (go_simp; rfl)
              (try simp only [Act.put, List.setIfInBounds_toArray, List.set_cons_zero, List.set_cons_succ])
              refine wpAnyH_ready (rs := [7]) (by kernel_rfl) (by simp) ?_
              refine AllReadyH.cons rfl (fun K hK => ?_) AllReadyH.nil
              rw [if_pos (by rfl)]
              refine wp_store_row 24 _ _ rfl w.heap.size _ rfl rfl 24 _ hd0.a0 (by kernel_rfl) (by rfl) (by kernel_rfl) ?_
              replace hd0 := hd0.setA h'
              refine hK.out _ _ (hd0.q6) (fun hHeld => ?_)
              clear hK K
              (try simp only [Act.put, List.setIfInBounds_toArray, List.set_cons_zero, List.set_cons_succ])
              refine wpAnyH_done (by kernel_rfl) ?_ _
              go_wp2
              exact ⟨⟨l + 1, h', by omega, by go_num, hd0, HN.out.swap⟩, by simp [intOf]; omega⟩
            · obtain rfl : l = ba.length := by omega
              have hdn := H4.out
              rw [List.drop_length] at hdn
              have HDN := Lib.hid hdn.done
              clear hdn
              clear H4
              obtain ⟨⟨c0, c1, c2, c3, c4⟩, _⟩ := hf_cells HT4.out.a0
              go_wp2_with (first
                | (go_at_call 13; go_fit (say_hf0 _); rintro e w2 ⟨⟨p, k', rfl⟩, hb2⟩; have HT5 := Lib.hid (HT4.out.on hb2); have hza := arr_ltH HT5.out.a0; have hzb := arr_ltH HT5.out.b0; (obtain ⟨⟨c0, c1, c2, c3, c4⟩, _⟩ := hf_cells HT5.out.a0); (obtain ⟨⟨d0, d1, d2, d3, d4⟩, _⟩ := hf_cells HT5.out.b0))
                | (go_at_call 22; go_fit (lw_same a2 b2 _ HDN.out); rintro e w3 ⟨rfl, hb3⟩; (obtain ⟨e0, e1, e2, e3, e4, e5, e6⟩ := ho_cellsT (h := ⟨1, 1, 0, 0, 0⟩) (p := p) (m := 1) (k := k') (c := 0) (arr_belowH2 (Arr.fresh w2 29 (hoC ⟨1, 1, 0, 0, 0⟩ p 1 k' 0)) hb3)); have HB := Lib.hid ((HT5.out.bl.alloc HT5.out.bl.size (.cells (hoC ⟨1, 1, 0, 0, 0⟩ p 1 k' 0).toArray 29)).trans (hb3.mono (Nat.le_trans HT5.out.bl.size (by simp))))))
              go_ret
              exact ⟨rfl, HB.out⟩
end Go.Proofs.Ytgfpcmfcnphalaa
