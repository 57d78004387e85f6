/- Several parts in one text: SeDraw1, SeDraw2, SeDrawB, SeDrawP. -/
import Derived.Test.YtafdjjdmcnlddaaHND
import Derived.Test.YtafdjjdmcnlddaaHNA
namespace Go.Proofs.Ytafdjjdmcnlddaa
set_option linter.unusedSimpArgs false
set_option linter.unusedVariables false
open Go.RowKit Go.Joins

/-- Small sessions. -/
def SeW (xs : List SeL) : Prop := xs.length ≤ 5 ∧ ∀ x ∈ xs, x.r.size ≤ 100 ∧ x.s.size ≤ 100
theorem sew_ill (c : Int) : SeW (illS c).l := ⟨Nat.zero_le _, fun x hx => by cases hx⟩
theorem sew_bind {xs : List SeL} {r : ByteArray} (h : SeW xs) (hr : r.size ≤ 100) : SeW (bindR xs r).l := by
  unfold bindR
  split
  · exact sew_ill _
  · split
    · exact sew_ill _
    · split
      · exact sew_ill _
      · split
        · exact sew_ill _
        · rename_i h5
          have hl := h.1
          refine ⟨?_, fun x hx => ?_⟩
          · show (xs.take _ ++ _ :: xs.drop _).length ≤ 5
            rw [List.length_append, List.length_take, List.length_cons, List.length_drop]
            omega
          · rcases List.mem_append.1 hx with hx | hx
            · exact h.2 x (List.mem_of_mem_take hx)
            · rcases List.mem_cons.1 hx with rfl | hx
              · exact ⟨hr, Nat.zero_le _⟩
              · exact h.2 x (List.mem_of_mem_drop hx)
theorem sew_unbind {xs : List SeL} {r : ByteArray} (h : SeW xs) : SeW (unbindR xs r).l := by
  unfold unbindR
  split
  · exact sew_ill _
  · split
    · exact sew_ill _
    · split
      · exact sew_ill _
      · have hl := h.1
        refine ⟨?_, fun x hx => ?_⟩
        · show (xs.take _ ++ xs.drop _).length ≤ 5
          rw [List.length_append, List.length_take, List.length_drop]
          omega
        · rcases List.mem_append.1 hx with hx | hx
          · exact h.2 x (List.mem_of_mem_take hx)
          · exact h.2 x (List.mem_of_mem_drop hx)
theorem sew_with {xs : List SeL} {y : SeL} (h : SeW xs) (hr : y.r.size ≤ 100) (hs : y.s.size ≤ 100) : SeW (withR xs y).l := by
  unfold withR
  split
  · exact sew_ill _
  · split
    · exact sew_ill _
    · split
      · exact sew_ill _
      · split
        · exact sew_ill _
        · refine ⟨by rw [List.length_set]; exact h.1, fun x hx => ?_⟩
          rcases List.mem_or_eq_of_mem_set hx with hx | rfl
          · exact h.2 x hx
          · exact ⟨hr, hs⟩
theorem sew_pres {xs : List SeL} {r : ByteArray} {p : Int} {s : ByteArray} (h : SeW xs) (hr : r.size ≤ 100) (hs : s.size ≤ 100) : SeW (presR xs r p s).l := by
  unfold presR
  split
  · exact sew_ill _
  · exact sew_with h hr hs
theorem names_small : ∀ s ∈ [(⟨#[104, 111, 109, 101]⟩ : ByteArray), ⟨#[119, 111, 114, 107]⟩, ⟨#[120]⟩, ⟨#[89, 40, 49, 41]⟩, ⟨#[112, 104, 111, 110, 101]⟩, ⟨#[112, 97, 100]⟩], s.size ≤ 100 := by
  intro s hs
  simp at hs
  rcases hs with rfl | rfl | rfl | rfl | rfl | rfl <;> decide
set_option maxHeartbeats 1000000 in
theorem draw_sname (B g : Nat) (w : World) (hS : Src w B g) :
    Calls Try.prog 63 #[.pointer (some ⟨g, 0, none⟩)] w (Drew B g w (StrIn 100)) := by
  have HS := Lib.hid hS
  have hlt := hS.lt
  clear hS
  go_enter Try.func63, Try.ntmps63
  go_wp2_with fail
  refine (src_pick B g w.heap.size 6 100 _ (by omega) (by omega) (HS.out.alloc _) (by omega) (strRow_at w 9 100 _ [⟨#[104, 111, 109, 101]⟩, ⟨#[119, 111, 114, 107]⟩, ⟨#[120]⟩, ⟨#[89, 40, 49, 41]⟩, ⟨#[112, 104, 111, 110, 101]⟩, ⟨#[112, 97, 100]⟩] rfl names_small)).mono ?_
  rintro e w1 ⟨_, rfl, ⟨s, rfl, hs⟩, hS1, hg1⟩
  go_wp2
  go_ret
  exact ⟨_, rfl, ⟨s, rfl, hs⟩, hS1, grown_same (World.grownBy_alloc w _ (some g)) hg1⟩
end Go.Proofs.Ytafdjjdmcnlddaa

namespace Go.Proofs.Ytafdjjdmcnlddaa
set_option linter.unusedSimpArgs false
set_option linter.unusedVariables false
open Go.RowKit Go.Joins

theorem own_grown9 {α : Type} {enc : α → List Value} {W W2 : World} {g B e size : Nat} {v : Value} {xs : List α} (ho : OwnC enc W B e size v xs) (hg : W.grownBy W2 (some g)) (hB : g < B) : OwnC enc W2 B e size v xs := by
  refine ⟨ho.1, ?_⟩
  rcases ho.2 with h0 | ⟨j, c, cur, h1, h2, h3, h4⟩
  · exact .inl h0
  · exact .inr ⟨j, c, cur, h1, h2, (hg.block j (Array.getElem?_eq_some_iff.1 h3).1 (fun e => by have := Option.some.inj e; omega)).trans h3, h4⟩
theorem arr_grown9 {W W2 : World} {g b t : Nat} {cs : List Value} (h : Arr W b t cs) (hg : W.grownBy W2 (some g)) (hne : b ≠ g) : Arr W2 b t cs := (hg.block b (arr9_lt h) (fun e => hne (Option.some.inj e))).trans h
/-- The source, and sessions that lie in a row of the call's own. -/
def SdS (w W : World) (B g : Nat) (xs : List SeL) (p : Option Addr) (k : Nat) : Prop :=
  Src W B g ∧ w.grownBy W (some g) ∧ OwnC seC W w.heap.size 84 4 (.slice p xs.length k) xs
theorem SdS.on {w W W2 : World} {B g : Nat} {xs : List SeL} {p : Option Addr} {k : Nat} (h : SdS w W B g xs p k) (hb : Below W.heap.size W W2) : SdS w W2 B g xs p k := ⟨h.1.on hb, grown_on h.2.1 hb, h.2.2.on hb⟩
theorem SdS.src {w W W2 : World} {B g : Nat} {xs : List SeL} {p : Option Addr} {k : Nat} (h : SdS w W B g xs p k) (hS : Src W2 B g) (hg : W.grownBy W2 (some g)) (hlt : g < w.heap.size) : SdS w W2 B g xs p k :=
  ⟨hS, grown_same h.2.1 hg, own_grown9 h.2.2 hg hlt⟩
/-- .. and an answer in a box. -/
def SdY (w W : World) (B g : Nat) (xs : List SeL) (p : Option Addr) (k b : Nat) (R : SoL) (q : Option Addr) (l : Nat) : Prop :=
  SdS w W B g xs p k ∧ w.heap.size ≤ b ∧ Arr W b 27 [.slice q R.l.length l, .int .i64 R.c] ∧ OwnC seC W w.heap.size 84 4 (.slice q R.l.length l) R.l
theorem SdY.on {w W W2 : World} {B g b l : Nat} {xs : List SeL} {p q : Option Addr} {k : Nat} {R : SoL} (h : SdY w W B g xs p k b R q l) (hb : Below W.heap.size W W2) : SdY w W2 B g xs p k b R q l := ⟨h.1.on hb, h.2.1, arr9_on h.2.2.1 hb, h.2.2.2.on hb⟩
theorem SdY.src {w W W2 : World} {B g b l : Nat} {xs : List SeL} {p q : Option Addr} {k : Nat} {R : SoL} (h : SdY w W B g xs p k b R q l) (hS : Src W2 B g) (hg : W.grownBy W2 (some g)) (hlt : g < w.heap.size) : SdY w W2 B g xs p k b R q l :=
  ⟨h.1.src hS hg hlt, h.2.1, arr_grown9 h.2.2.1 hg (by have := h.2.1; omega), own_grown9 h.2.2.2 hg hlt⟩
theorem SdY.new {w W : World} {B g l : Nat} {xs : List SeL} {p q : Option Addr} {k : Nat} {R : SoL} (h : SdS w W B g xs p k) (ho : OwnC seC W w.heap.size 84 4 (.slice q R.l.length l) R.l) : SdY w (W.alloc (.cells #[.slice q R.l.length l, .int .i64 R.c] 27)) B g xs p k W.heap.size R q l :=
  ⟨h.on ((Below.refl _ _).alloc (Nat.le_refl _) _), h.2.1.size, Arr.fresh W _ [.slice q R.l.length l, .int .i64 R.c], ho.alloc _⟩
theorem shows_small : ∀ s ∈ [(⟨#[]⟩ : ByteArray), ⟨#[97, 119, 97, 121]⟩, ⟨#[100, 110, 100]⟩], s.size ≤ 100 := by
  intro s hs
  simp at hs
  rcases hs with rfl | rfl | rfl <;> decide
theorem own_grownN {α : Type} {enc : α → List Value} {W W2 : World} {b B e size : Nat} {v : Value} {xs : List α} (ho : OwnC enc W B e size v xs) (hg : W.grownBy W2 (some b)) (hne : ∀ j, v.ownBlock = some j → b ≠ j) : OwnC enc W2 B e size v xs := by
  refine ⟨ho.1, ?_⟩
  rcases ho.2 with h0 | ⟨j, c, cur, h1, h2, h3, h4⟩
  · exact .inl h0
  · exact .inr ⟨j, c, cur, h1, h2, (hg.block j (Array.getElem?_eq_some_iff.1 h3).1 (fun e => hne j (by rw [h1]; rfl) (Option.some.inj e).symm)).trans h3, h4⟩
theorem SdY.put {w W : World} {B g b l l2 : Nat} {xs : List SeL} {p q q2 : Option Addr} {k : Nat} {R R2 : SoL} (h : SdY w W B g xs p k b R q l) (hlt : g < w.heap.size) (ho : OwnC seC W w.heap.size 84 4 (.slice q2 R2.l.length l2) R2.l) :
    SdY w ((W.setCell ⟨b, 0, none⟩ (.slice q2 R2.l.length l2)).setCell ⟨b, 1, none⟩ (.int .i64 R2.c)) B g xs p k b R2 q2 l2 := by
  have n1 := own_neS h.1.2.2 h.2.2.1
  have n2 := own_neS ho h.2.2.1
  have hb := h.2.1
  have hB := h.1.1.1
  refine ⟨⟨(h.1.1.set b 0 _ (by omega) (by omega)).set b 1 _ (by omega) (by omega), grown_new (grown_new h.1.2.1 b 0 _ hb) b 1 _ hb, own_grownN (own_grownN h.1.2.2 (grown_setb W b 0 _) n1) (grown_setb _ b 1 _) n1⟩, hb, (h.2.2.1.put 0 _).put 1 _, own_grownN (own_grownN ho (grown_setb W b 0 _) n2) (grown_setb _ b 1 _) n2⟩
theorem sds_app {w W W2 : World} {B g : Nat} {xs ys : List SeL} {p : Option Addr} {k : Nat} {o : Obj} {v : Value} (h : SdS w W B g xs p k) (hlt : g < w.heap.size) (hv : OwnC seC W2 w.heap.size 84 4 v ys) (hg : (W.alloc o).grownBy W2 (Value.slice p xs.length k).ownBlock) :
    ∃ p4 k4, v = .slice p4 ys.length k4 ∧ SdS w W2 B g ys p4 k4 := by
  obtain ⟨p4, k4, e, -⟩ := hv.row seC_len
  have hb := own_base h.2.2
  have hB := h.1.1
  have hl := h.1.lt
  exact ⟨p4, k4, e, (h.1.alloc o).other hg (fun q hq => by have := hb q hq; omega) (by rw [World.size_alloc]; omega) (fun q hq => by have := hb q hq; omega), grown_over (grown_alloc h.2.1 o) hg hb, e ▸ hv⟩
theorem four_at {W : World} {b R : Nat} {x0 x1 x2 x3 : Int} (h : Arr W b 2 [.int .i64 x0, .int .i64 x1, .int .i64 x2, .int .i64 x3]) (h1 : R < 4) : ∃ n, W.cell? ⟨b, R, none⟩ = some (.int .i64 n) := by
  have e : R = 0 ∨ R = 1 ∨ R = 2 ∨ R = 3 := by omega
  rcases e with rfl | rfl | rfl | rfl
  · exact ⟨_, h.cell 0⟩
  · exact ⟨_, h.cell 1⟩
  · exact ⟨_, h.cell 2⟩
  · exact ⟨_, h.cell 3⟩
set_option maxRecDepth 100000 in
set_option maxHeartbeats 4000000 in
theorem draw_sess (B g : Nat) (w : World) (hS : Src w B g) :
    Calls Try.prog 60 #[.pointer (some ⟨g, 0, none⟩)] w fun e w' => ∃ xs p k, e = .returned (.slice p xs.length k) ∧ SdS w w' B g xs p k ∧ (xs.length ≤ 6 ∧ ∀ x ∈ xs, x.r.size ≤ 100 ∧ x.s.size ≤ 100) := by
  have hlt := hS.lt
  have hBg := hS.1
  have HS0 : Hid (SdS w (w.alloc (.cells #[] 84)) B g [] (some ⟨w.heap.size, 0, none⟩) 0) := Lib.hid ⟨hS.alloc _, World.grownBy_alloc w _ _, empty_row9 w⟩
  clear hS
  go_enter Try.func60, Try.ntmps60
  go_wp2_with fail
  refine (src_n B g 9 _ (by omega) HS0.out.1).mono ?_
  rintro e w1 ⟨_, rfl, ⟨z0, rfl, hz0, hz1⟩, hS1, hg1⟩
  have HS1 := Lib.hid (HS0.out.src hS1 hg1 hlt)
  clear hS1 hg1
  go_wp2_with fail
  go_loopw [3, 4] (fun lq kq wr => ∃ (xs : List SeL) (p : Option Addr) (k m : Nat) (z : Int), lq = .slice p m k ∧ m = xs.length ∧ kq = .int .i64 z ∧ 0 ≤ z ∧ z ≤ 9 ∧ SdS w wr B g xs p k ∧ SeW xs) (fun _ z _ => (intOf z).toNat)
  case atStart => exact ⟨[], _, _, 0, z0, rfl, rfl, rfl, hz0, by omega, HS1.out, Nat.zero_le _, fun x hx => by cases hx⟩
  case round =>
    obtain ⟨xs, p, k, m, z, rfl, hm, rfl, hz, hz9, hs, hw⟩ := hrel
    have HS := Lib.hid hs
    have HW := Lib.hid hw
    have HM := Lib.hid hm
    have i1 := fun (r : ByteArray) (hr : r.size ≤ 100) W hO => spec_bind xs r p k w.heap.size W (by have := HW.out.1; omega) (by omega) (fun x hx => by have := HW.out.2 x hx; omega) hO
    have i2 := fun (r : ByteArray) (hr : r.size ≤ 100) W hO => spec_unbind xs r p k w.heap.size W (by have := HW.out.1; omega) (by omega) (fun x hx => by have := HW.out.2 x hx; omega) hO
    have i3 := fun (r : ByteArray) (pr : Int) (s : ByteArray) (hr : r.size ≤ 100) (hs : s.size ≤ 100) W hO => spec_present xs r pr s p k w.heap.size W (by have := HW.out.1; omega) (by omega) (by omega) (fun x hx => by have := HW.out.2 x hx; omega) hO
    unfold SoIs at i1 i2 i3
    rw [← hm] at i1 i2 i3
    clear hs hw hm
    by_cases h0 : 0 < z
    · go_wp2_with fail
      refine (draw_sname B g wr HS.out.1).mono ?_
      rintro e w2 ⟨_, rfl, ⟨r, rfl, hr⟩, hS2, hg2⟩
      have HS2 := Lib.hid (HS.out.src hS2 hg2 hlt)
      have hww := Lib.hid HS2.out.2.1.size
      clear hS2 hg2 HS
      go_wp2_with fail
      go_fit (i1 r hr w2 (by rw [HM.out]; exact HS2.out.2.2))
      rintro e w3 ⟨⟨q, l, rfl, ho⟩, hb⟩
      have HY3 := Lib.hid (SdY.new (HS2.out.on hb) (ho.mono hww.out))
      have hRW := sew_bind HW.out hr
      clear ho hb HS2 hww
      obtain ⟨R, hR⟩ : ∃ R, bindR xs r = R := ⟨_, rfl⟩
      rw [hR] at HY3 hRW ⊢
      have HRW := Lib.hid hRW
      clear hR hRW
      go_wp2_with fail
      refine (src_n B g 4 _ (by omega) HY3.out.1.1).mono ?_
      rintro e w4 ⟨_, rfl, ⟨t, rfl, ht0, ht1⟩, hS4, hg4⟩
      have HY4 := Lib.hid (HY3.out.src hS4 hg4 hlt)
      clear hS4 hg4 HY3
      have ht4 : t = 0 ∨ t = 1 ∨ t = 2 ∨ t = 3 := by omega
      clear ht0 ht1
      rcases ht4 with rfl | rfl | rfl | rfl
      · go_wp2_with fail
        refine (draw_sname B g w4 HY4.out.1.1).mono ?_
        rintro e w5 ⟨_, rfl, ⟨r2, rfl, hr2⟩, hS5, hg5⟩
        have HY5 := Lib.hid (HY4.out.src hS5 hg5 hlt)
        have hww := Lib.hid HY5.out.1.2.1.size
        clear hS5 hg5 HY4
        go_wp2_with fail
        go_fit (i2 r2 hr2 w5 (by rw [HM.out]; exact HY5.out.1.2.2))
        rintro e w6 ⟨⟨q2, l2, rfl, ho⟩, hb⟩
        have HY6 := Lib.hid (HY5.out.on hb)
        have HO6 := Lib.hid (ho.mono hww.out)
        have hRW2 := sew_unbind (r := r2) HW.out
        clear ho hb HY5 hww
        obtain ⟨R2, hR2⟩ : ∃ R, unbindR xs r2 = R := ⟨_, rfl⟩
        rw [hR2] at HO6 hRW2 ⊢
        have HRW2 := Lib.hid hRW2
        have HY7 := Lib.hid (HY6.out.put hlt HO6.out)
        clear hR2 hRW2
        obtain ⟨⟨d0, d1⟩, e0, e1⟩ := arr9_two HY6.out.2.2.1
        obtain ⟨⟨c0, c1⟩, f0, f1⟩ := arr9_two HY7.out.2.2.1
        by_cases hc : R2.c = 0
        · have hyc := HY7.out
          (try rw [hc] at hyc)
          have HYC := Lib.hid hyc
          clear hyc
          go_wp2_with fail
          go_roundw
          case rel => exact ⟨R2.l, q2, l2, R2.l.length, z - 1, rfl, rfl, by go_num, by omega, by omega, ⟨HYC.out.1.1, HYC.out.1.2.1, HYC.out.2.2.2⟩, HRW2.out⟩
          case measure => simp [intOf]; omega
        · go_wp2_with fail
          go_roundw
          case rel => exact ⟨xs, _, k, m, z - 1, rfl, HM.out, by go_num, by omega, by omega, HY7.out.1, HW.out⟩
          case measure => simp [intOf]; omega
      · go_wp2_with fail
        refine (draw_sname B g w4 HY4.out.1.1).mono ?_
        rintro e w5 ⟨_, rfl, ⟨r2, rfl, hr2⟩, hS5, hg5⟩
        have HY5 := Lib.hid (HY4.out.src hS5 hg5 hlt)
        clear hS5 hg5 HY4
        by_cases hm0 : 0 < m
        · have hmi : (0 : Int) < (m : Int) := by omega
          go_wp2_with fail
          refine (src_one B g 4 w5 (by omega) HY5.out.1.1).mono ?_
          rintro e w6 ⟨_, rfl, ⟨b, rfl⟩, hS6, hg6⟩
          have HY5b := Lib.hid (HY5.out.src hS6 hg6 hlt)
          clear hS6 hg6 HY5
          cases b
          · go_wp2_with fail
            refine (src_n B g (m : Int) w6 (by have := HW.out.1; have := HM.out; omega) HY5b.out.1.1).mono ?_
            rintro e w7 ⟨_, rfl, ⟨ti, rfl, hti0, hti1⟩, hS7, hg7⟩
            have HY5c := Lib.hid (HY5b.out.src hS7 hg7 hlt)
            clear hS7 hg7 HY5b
            obtain ⟨j, rfl⟩ : ∃ j : Nat, ti = j := ⟨ti.toNat, by omega⟩
            have hjm : j < m := by omega
            have hj1 : j < xs.length := by rw [← HM.out]; exact hjm
            obtain ⟨gr, hgr, _, a0, -⟩ := row_se4 (row_own9 HY5c.out.1.2.2) hj1
            subst hgr
            have hrj := (HW.out.2 _ (List.getElem_mem hj1)).1
            obtain ⟨rj, hrj2⟩ : ∃ r, xs[j].r = r := ⟨_, rfl⟩
            rw [hrj2] at a0 hrj
            clear hrj2 hti0 hti1
            go_wp2_with fail
            refine (src_n B g 6 _ (by omega) HY5c.out.1.1).mono ?_
            rintro e w8 ⟨_, rfl, ⟨pz, rfl, hp0, hp1⟩, hS8, hg8⟩
            have hp5 : pz ≤ 5 := by omega
            have HY8 := Lib.hid (HY5c.out.src hS8 hg8 hlt)
            have hgw8 : g < w8.heap.size := by have := HY8.out.1.2.1.size; omega
            clear hS8 hg8 hp1 HY5c
            go_wp2_with fail
            refine (src_pick B g w8.heap.size 3 100 _ (by omega) (by omega) (HY8.out.1.1.alloc _) (by omega) (strRow_at w8 9 100 _ [⟨#[]⟩, ⟨#[97, 119, 97, 121]⟩, ⟨#[100, 110, 100]⟩] rfl shows_small)).mono ?_
            rintro e w9 ⟨_, rfl, ⟨sh, rfl, hsh⟩, hS9, hg9⟩
            have HY9 := Lib.hid ((HY8.out.on ((Below.refl _ _).alloc (Nat.le_refl _) _)).src hS9 hg9 hlt)
            have hww := Lib.hid HY9.out.1.2.1.size
            clear hS9 hg9 HY8
            go_wp2_with fail
            go_fit (i3 rj (pz - 2) sh hrj hsh w9 (by rw [HM.out]; exact HY9.out.1.2.2))
            rintro e w10 ⟨⟨q2, l2, rfl, ho⟩, hb⟩
            have HY6 := Lib.hid (HY9.out.on hb)
            have HO6 := Lib.hid (ho.mono hww.out)
            have hRW2 := sew_pres (p := pz - 2) HW.out hrj hsh
            clear ho hb HY9 hww
            obtain ⟨R2, hR2⟩ : ∃ R, presR xs rj (pz - 2) sh = R := ⟨_, rfl⟩
            rw [hR2] at HO6 hRW2 ⊢
            have HRW2 := Lib.hid hRW2
            have HY7 := Lib.hid (HY6.out.put hlt HO6.out)
            clear hR2 hRW2
            obtain ⟨⟨d0, d1⟩, e0, e1⟩ := arr9_two HY6.out.2.2.1
            obtain ⟨⟨c0, c1⟩, f0, f1⟩ := arr9_two HY7.out.2.2.1
            by_cases hc : R2.c = 0
            · have hyc := HY7.out
              (try rw [hc] at hyc)
              have HYC := Lib.hid hyc
              clear hyc
              go_wp2_with fail
              go_roundw
              case rel => exact ⟨R2.l, q2, l2, R2.l.length, z - 1, rfl, rfl, by go_num, by omega, by omega, ⟨HYC.out.1.1, HYC.out.1.2.1, HYC.out.2.2.2⟩, HRW2.out⟩
              case measure => simp [intOf]; omega
            · go_wp2_with fail
              go_roundw
              case rel => exact ⟨xs, _, k, m, z - 1, rfl, HM.out, by go_num, by omega, by omega, HY7.out.1, HW.out⟩
              case measure => simp [intOf]; omega
          · go_wp2_with fail
            refine (src_n B g 6 _ (by omega) HY5b.out.1.1).mono ?_
            rintro e w8 ⟨_, rfl, ⟨pz, rfl, hp0, hp1⟩, hS8, hg8⟩
            have hp5 : pz ≤ 5 := by omega
            have HY8 := Lib.hid (HY5b.out.src hS8 hg8 hlt)
            have hgw8 : g < w8.heap.size := by have := HY8.out.1.2.1.size; omega
            clear hS8 hg8 hp1 HY5b
            go_wp2_with fail
            refine (src_pick B g w8.heap.size 3 100 _ (by omega) (by omega) (HY8.out.1.1.alloc _) (by omega) (strRow_at w8 9 100 _ [⟨#[]⟩, ⟨#[97, 119, 97, 121]⟩, ⟨#[100, 110, 100]⟩] rfl shows_small)).mono ?_
            rintro e w9 ⟨_, rfl, ⟨sh, rfl, hsh⟩, hS9, hg9⟩
            have HY9 := Lib.hid ((HY8.out.on ((Below.refl _ _).alloc (Nat.le_refl _) _)).src hS9 hg9 hlt)
            have hww := Lib.hid HY9.out.1.2.1.size
            clear hS9 hg9 HY8
            go_wp2_with fail
            go_fit (i3 r2 (pz - 2) sh hr2 hsh w9 (by rw [HM.out]; exact HY9.out.1.2.2))
            rintro e w10 ⟨⟨q2, l2, rfl, ho⟩, hb⟩
            have HY6 := Lib.hid (HY9.out.on hb)
            have HO6 := Lib.hid (ho.mono hww.out)
            have hRW2 := sew_pres (p := pz - 2) HW.out hr2 hsh
            clear ho hb HY9 hww
            obtain ⟨R2, hR2⟩ : ∃ R, presR xs r2 (pz - 2) sh = R := ⟨_, rfl⟩
            rw [hR2] at HO6 hRW2 ⊢
            have HRW2 := Lib.hid hRW2
            have HY7 := Lib.hid (HY6.out.put hlt HO6.out)
            clear hR2 hRW2
            obtain ⟨⟨d0, d1⟩, e0, e1⟩ := arr9_two HY6.out.2.2.1
            obtain ⟨⟨c0, c1⟩, f0, f1⟩ := arr9_two HY7.out.2.2.1
            by_cases hc : R2.c = 0
            · have hyc := HY7.out
              (try rw [hc] at hyc)
              have HYC := Lib.hid hyc
              clear hyc
              go_wp2_with fail
              go_roundw
              case rel => exact ⟨R2.l, q2, l2, R2.l.length, z - 1, rfl, rfl, by go_num, by omega, by omega, ⟨HYC.out.1.1, HYC.out.1.2.1, HYC.out.2.2.2⟩, HRW2.out⟩
              case measure => simp [intOf]; omega
            · go_wp2_with fail
              go_roundw
              case rel => exact ⟨xs, _, k, m, z - 1, rfl, HM.out, by go_num, by omega, by omega, HY7.out.1, HW.out⟩
              case measure => simp [intOf]; omega
        · have hmi : ¬ (0 : Int) < (m : Int) := by omega
          go_wp2_with fail
          refine (src_n B g 6 _ (by omega) HY5.out.1.1).mono ?_
          rintro e w8 ⟨_, rfl, ⟨pz, rfl, hp0, hp1⟩, hS8, hg8⟩
          have hp5 : pz ≤ 5 := by omega
          have HY8 := Lib.hid (HY5.out.src hS8 hg8 hlt)
          have hgw8 : g < w8.heap.size := by have := HY8.out.1.2.1.size; omega
          clear hS8 hg8 hp1 HY5
          go_wp2_with fail
          refine (src_pick B g w8.heap.size 3 100 _ (by omega) (by omega) (HY8.out.1.1.alloc _) (by omega) (strRow_at w8 9 100 _ [⟨#[]⟩, ⟨#[97, 119, 97, 121]⟩, ⟨#[100, 110, 100]⟩] rfl shows_small)).mono ?_
          rintro e w9 ⟨_, rfl, ⟨sh, rfl, hsh⟩, hS9, hg9⟩
          have HY9 := Lib.hid ((HY8.out.on ((Below.refl _ _).alloc (Nat.le_refl _) _)).src hS9 hg9 hlt)
          have hww := Lib.hid HY9.out.1.2.1.size
          clear hS9 hg9 HY8
          go_wp2_with fail
          go_fit (i3 r2 (pz - 2) sh hr2 hsh w9 (by rw [HM.out]; exact HY9.out.1.2.2))
          rintro e w10 ⟨⟨q2, l2, rfl, ho⟩, hb⟩
          have HY6 := Lib.hid (HY9.out.on hb)
          have HO6 := Lib.hid (ho.mono hww.out)
          have hRW2 := sew_pres (p := pz - 2) HW.out hr2 hsh
          clear ho hb HY9 hww
          obtain ⟨R2, hR2⟩ : ∃ R, presR xs r2 (pz - 2) sh = R := ⟨_, rfl⟩
          rw [hR2] at HO6 hRW2 ⊢
          have HRW2 := Lib.hid hRW2
          have HY7 := Lib.hid (HY6.out.put hlt HO6.out)
          clear hR2 hRW2
          obtain ⟨⟨d0, d1⟩, e0, e1⟩ := arr9_two HY6.out.2.2.1
          obtain ⟨⟨c0, c1⟩, f0, f1⟩ := arr9_two HY7.out.2.2.1
          by_cases hc : R2.c = 0
          · have hyc := HY7.out
            (try rw [hc] at hyc)
            have HYC := Lib.hid hyc
            clear hyc
            go_wp2_with fail
            go_roundw
            case rel => exact ⟨R2.l, q2, l2, R2.l.length, z - 1, rfl, rfl, by go_num, by omega, by omega, ⟨HYC.out.1.1, HYC.out.1.2.1, HYC.out.2.2.2⟩, HRW2.out⟩
            case measure => simp [intOf]; omega
          · go_wp2_with fail
            go_roundw
            case rel => exact ⟨xs, _, k, m, z - 1, rfl, HM.out, by go_num, by omega, by omega, HY7.out.1, HW.out⟩
            case measure => simp [intOf]; omega
      · go_wp2_with fail
        refine (draw_sname B g w4 HY4.out.1.1).mono ?_
        rintro e w5 ⟨_, rfl, ⟨r2, rfl, hr2⟩, hS5, hg5⟩
        have HY5 := Lib.hid (HY4.out.src hS5 hg5 hlt)
        clear hS5 hg5 HY4
        by_cases hm0 : 0 < m
        · have hmi : (0 : Int) < (m : Int) := by omega
          go_wp2_with fail
          refine (src_one B g 4 w5 (by omega) HY5.out.1.1).mono ?_
          rintro e w6 ⟨_, rfl, ⟨b, rfl⟩, hS6, hg6⟩
          have HY5b := Lib.hid (HY5.out.src hS6 hg6 hlt)
          clear hS6 hg6 HY5
          cases b
          · go_wp2_with fail
            refine (src_n B g (m : Int) w6 (by have := HW.out.1; have := HM.out; omega) HY5b.out.1.1).mono ?_
            rintro e w7 ⟨_, rfl, ⟨ti, rfl, hti0, hti1⟩, hS7, hg7⟩
            have HY5c := Lib.hid (HY5b.out.src hS7 hg7 hlt)
            clear hS7 hg7 HY5b
            obtain ⟨j, rfl⟩ : ∃ j : Nat, ti = j := ⟨ti.toNat, by omega⟩
            have hjm : j < m := by omega
            have hj1 : j < xs.length := by rw [← HM.out]; exact hjm
            obtain ⟨gr, hgr, _, a0, -⟩ := row_se4 (row_own9 HY5c.out.1.2.2) hj1
            subst hgr
            have hrj := (HW.out.2 _ (List.getElem_mem hj1)).1
            obtain ⟨rj, hrj2⟩ : ∃ r, xs[j].r = r := ⟨_, rfl⟩
            rw [hrj2] at a0 hrj
            clear hrj2 hti0 hti1
            go_wp2_with fail
            refine (src_n B g 6 _ (by omega) HY5c.out.1.1).mono ?_
            rintro e w8 ⟨_, rfl, ⟨pz, rfl, hp0, hp1⟩, hS8, hg8⟩
            have hp5 : pz ≤ 5 := by omega
            have HY8 := Lib.hid (HY5c.out.src hS8 hg8 hlt)
            have hgw8 : g < w8.heap.size := by have := HY8.out.1.2.1.size; omega
            clear hS8 hg8 hp1 HY5c
            go_wp2_with fail
            refine (src_pick B g w8.heap.size 3 100 _ (by omega) (by omega) (HY8.out.1.1.alloc _) (by omega) (strRow_at w8 9 100 _ [⟨#[]⟩, ⟨#[97, 119, 97, 121]⟩, ⟨#[100, 110, 100]⟩] rfl shows_small)).mono ?_
            rintro e w9 ⟨_, rfl, ⟨sh, rfl, hsh⟩, hS9, hg9⟩
            have HY9 := Lib.hid ((HY8.out.on ((Below.refl _ _).alloc (Nat.le_refl _) _)).src hS9 hg9 hlt)
            have hww := Lib.hid HY9.out.1.2.1.size
            clear hS9 hg9 HY8
            go_wp2_with fail
            go_fit (i3 rj (pz - 2) sh hrj hsh w9 (by rw [HM.out]; exact HY9.out.1.2.2))
            rintro e w10 ⟨⟨q2, l2, rfl, ho⟩, hb⟩
            have HY6 := Lib.hid (HY9.out.on hb)
            have HO6 := Lib.hid (ho.mono hww.out)
            have hRW2 := sew_pres (p := pz - 2) HW.out hrj hsh
            clear ho hb HY9 hww
            obtain ⟨R2, hR2⟩ : ∃ R, presR xs rj (pz - 2) sh = R := ⟨_, rfl⟩
            rw [hR2] at HO6 hRW2 ⊢
            have HRW2 := Lib.hid hRW2
            have HY7 := Lib.hid (HY6.out.put hlt HO6.out)
            clear hR2 hRW2
            obtain ⟨⟨d0, d1⟩, e0, e1⟩ := arr9_two HY6.out.2.2.1
            obtain ⟨⟨c0, c1⟩, f0, f1⟩ := arr9_two HY7.out.2.2.1
            by_cases hc : R2.c = 0
            · have hyc := HY7.out
              (try rw [hc] at hyc)
              have HYC := Lib.hid hyc
              clear hyc
              go_wp2_with fail
              go_roundw
              case rel => exact ⟨R2.l, q2, l2, R2.l.length, z - 1, rfl, rfl, by go_num, by omega, by omega, ⟨HYC.out.1.1, HYC.out.1.2.1, HYC.out.2.2.2⟩, HRW2.out⟩
              case measure => simp [intOf]; omega
            · go_wp2_with fail
              go_roundw
              case rel => exact ⟨xs, _, k, m, z - 1, rfl, HM.out, by go_num, by omega, by omega, HY7.out.1, HW.out⟩
              case measure => simp [intOf]; omega
          · go_wp2_with fail
            refine (src_n B g 6 _ (by omega) HY5b.out.1.1).mono ?_
            rintro e w8 ⟨_, rfl, ⟨pz, rfl, hp0, hp1⟩, hS8, hg8⟩
            have hp5 : pz ≤ 5 := by omega
            have HY8 := Lib.hid (HY5b.out.src hS8 hg8 hlt)
            have hgw8 : g < w8.heap.size := by have := HY8.out.1.2.1.size; omega
            clear hS8 hg8 hp1 HY5b
            go_wp2_with fail
            refine (src_pick B g w8.heap.size 3 100 _ (by omega) (by omega) (HY8.out.1.1.alloc _) (by omega) (strRow_at w8 9 100 _ [⟨#[]⟩, ⟨#[97, 119, 97, 121]⟩, ⟨#[100, 110, 100]⟩] rfl shows_small)).mono ?_
            rintro e w9 ⟨_, rfl, ⟨sh, rfl, hsh⟩, hS9, hg9⟩
            have HY9 := Lib.hid ((HY8.out.on ((Below.refl _ _).alloc (Nat.le_refl _) _)).src hS9 hg9 hlt)
            have hww := Lib.hid HY9.out.1.2.1.size
            clear hS9 hg9 HY8
            go_wp2_with fail
            go_fit (i3 r2 (pz - 2) sh hr2 hsh w9 (by rw [HM.out]; exact HY9.out.1.2.2))
            rintro e w10 ⟨⟨q2, l2, rfl, ho⟩, hb⟩
            have HY6 := Lib.hid (HY9.out.on hb)
            have HO6 := Lib.hid (ho.mono hww.out)
            have hRW2 := sew_pres (p := pz - 2) HW.out hr2 hsh
            clear ho hb HY9 hww
            obtain ⟨R2, hR2⟩ : ∃ R, presR xs r2 (pz - 2) sh = R := ⟨_, rfl⟩
            rw [hR2] at HO6 hRW2 ⊢
            have HRW2 := Lib.hid hRW2
            have HY7 := Lib.hid (HY6.out.put hlt HO6.out)
            clear hR2 hRW2
            obtain ⟨⟨d0, d1⟩, e0, e1⟩ := arr9_two HY6.out.2.2.1
            obtain ⟨⟨c0, c1⟩, f0, f1⟩ := arr9_two HY7.out.2.2.1
            by_cases hc : R2.c = 0
            · have hyc := HY7.out
              (try rw [hc] at hyc)
              have HYC := Lib.hid hyc
              clear hyc
              go_wp2_with fail
              go_roundw
              case rel => exact ⟨R2.l, q2, l2, R2.l.length, z - 1, rfl, rfl, by go_num, by omega, by omega, ⟨HYC.out.1.1, HYC.out.1.2.1, HYC.out.2.2.2⟩, HRW2.out⟩
              case measure => simp [intOf]; omega
            · go_wp2_with fail
              go_roundw
              case rel => exact ⟨xs, _, k, m, z - 1, rfl, HM.out, by go_num, by omega, by omega, HY7.out.1, HW.out⟩
              case measure => simp [intOf]; omega
        · have hmi : ¬ (0 : Int) < (m : Int) := by omega
          go_wp2_with fail
          refine (src_n B g 6 _ (by omega) HY5.out.1.1).mono ?_
          rintro e w8 ⟨_, rfl, ⟨pz, rfl, hp0, hp1⟩, hS8, hg8⟩
          have hp5 : pz ≤ 5 := by omega
          have HY8 := Lib.hid (HY5.out.src hS8 hg8 hlt)
          have hgw8 : g < w8.heap.size := by have := HY8.out.1.2.1.size; omega
          clear hS8 hg8 hp1 HY5
          go_wp2_with fail
          refine (src_pick B g w8.heap.size 3 100 _ (by omega) (by omega) (HY8.out.1.1.alloc _) (by omega) (strRow_at w8 9 100 _ [⟨#[]⟩, ⟨#[97, 119, 97, 121]⟩, ⟨#[100, 110, 100]⟩] rfl shows_small)).mono ?_
          rintro e w9 ⟨_, rfl, ⟨sh, rfl, hsh⟩, hS9, hg9⟩
          have HY9 := Lib.hid ((HY8.out.on ((Below.refl _ _).alloc (Nat.le_refl _) _)).src hS9 hg9 hlt)
          have hww := Lib.hid HY9.out.1.2.1.size
          clear hS9 hg9 HY8
          go_wp2_with fail
          go_fit (i3 r2 (pz - 2) sh hr2 hsh w9 (by rw [HM.out]; exact HY9.out.1.2.2))
          rintro e w10 ⟨⟨q2, l2, rfl, ho⟩, hb⟩
          have HY6 := Lib.hid (HY9.out.on hb)
          have HO6 := Lib.hid (ho.mono hww.out)
          have hRW2 := sew_pres (p := pz - 2) HW.out hr2 hsh
          clear ho hb HY9 hww
          obtain ⟨R2, hR2⟩ : ∃ R, presR xs r2 (pz - 2) sh = R := ⟨_, rfl⟩
          rw [hR2] at HO6 hRW2 ⊢
          have HRW2 := Lib.hid hRW2
          have HY7 := Lib.hid (HY6.out.put hlt HO6.out)
          clear hR2 hRW2
          obtain ⟨⟨d0, d1⟩, e0, e1⟩ := arr9_two HY6.out.2.2.1
          obtain ⟨⟨c0, c1⟩, f0, f1⟩ := arr9_two HY7.out.2.2.1
          by_cases hc : R2.c = 0
          · have hyc := HY7.out
            (try rw [hc] at hyc)
            have HYC := Lib.hid hyc
            clear hyc
            go_wp2_with fail
            go_roundw
            case rel => exact ⟨R2.l, q2, l2, R2.l.length, z - 1, rfl, rfl, by go_num, by omega, by omega, ⟨HYC.out.1.1, HYC.out.1.2.1, HYC.out.2.2.2⟩, HRW2.out⟩
            case measure => simp [intOf]; omega
          · go_wp2_with fail
            go_roundw
            case rel => exact ⟨xs, _, k, m, z - 1, rfl, HM.out, by go_num, by omega, by omega, HY7.out.1, HW.out⟩
            case measure => simp [intOf]; omega
      · obtain ⟨⟨c0, c1⟩, f0, f1⟩ := arr9_two HY4.out.2.2.1
        by_cases hc : R.c = 0
        · go_wp2_with fail
          go_roundw
          case rel => exact ⟨R.l, q, l, R.l.length, z - 1, rfl, rfl, by go_num, by omega, by omega, ⟨HY4.out.1.1, HY4.out.1.2.1, HY4.out.2.2.2⟩, HRW.out⟩
          case measure => simp [intOf]; omega
        · go_wp2_with fail
          go_roundw
          case rel => exact ⟨xs, _, k, m, z - 1, rfl, HM.out, by go_num, by omega, by omega, HY4.out.1, HW.out⟩
          case measure => simp [intOf]; omega
    · obtain rfl : z = 0 := by omega
      go_wp2_with fail
      refine (src_one B g 20 wr (by omega) HS.out.1).mono ?_
      rintro e w2 ⟨_, rfl, ⟨b, rfl⟩, hS2, hg2⟩
      have HS2 := Lib.hid (HS.out.src hS2 hg2 hlt)
      clear hS2 hg2 HS
      cases b
      · go_wp2_with fail
        go_ret
        have hM := HM.out
        subst hM
        exact ⟨xs, p, k, rfl, HS2.out, by have := HW.out.1; omega, HW.out.2⟩
      · go_wp2_with fail
        refine (src_n B g 3 w2 (by omega) HS2.out.1).mono ?_
        rintro e w3 ⟨_, rfl, ⟨t, rfl, ht0, ht1⟩, hS3, hg3⟩
        have HS3 := Lib.hid (HS2.out.src hS3 hg3 hlt)
        have hM := HM.out
        subst hM
        have HL : Hid (xs.length ≤ 1000000) := Lib.hid (by have := HW.out.1; omega)
        clear hS3 hg3 HS2
        have ht3 : t = 0 ∨ t = 1 ∨ t = 2 := by omega
        clear ht0 ht1
        rcases ht3 with rfl | rfl | rfl
        · go_wp2_with (at_builtin; refine wpList_plain rfl fun K hK => ?_; refine wp_app_one9 _ _ rfl w.heap.size _ xs rfl (HS3.out.2.2.alloc _) w3.heap.size ⟨⟨#[97, 47, 98]⟩, false, 0, ⟨#[]⟩⟩ rfl (Arr.fresh w3 84 (seC ⟨⟨#[97, 47, 98]⟩, false, 0, ⟨#[]⟩⟩)) HL.out (by rw [World.size_alloc]; have := HS3.out.2.1.size; omega) ?_; intro v4 w4 hv4 hg4; have HS4 := Lib.hid (sds_app HS3.out hlt hv4 hg4); clear hv4 hg4; obtain ⟨p4, k4, e4, hs4⟩ := HS4.out; subst e4; have HS5 := Lib.hid hs4; clear hs4 HS4; refine hK _ _ ?_)
          go_ret
          exact ⟨_, p4, k4, by rw [List.length_append]; rfl, HS5.out, by have := HW.out.1; rw [List.length_append]; show _ + 1 ≤ 6; omega, fun x hx => by
            rcases List.mem_append.1 hx with hx | hx
            · exact HW.out.2 x hx
            · obtain rfl := List.mem_singleton.1 hx
              exact ⟨by decide, by decide⟩⟩
        · go_wp2_with fail
          -- R23
          refine region_join [77, 78, 79, 80, 81, 82, 83, 84, 85, 86, 87, 3] (fun vs W => ∃ (o : Bool) (n : Int) (ys : List SeL) (p4 : Option Addr) (k4 : Nat), xs ++ [(⟨⟨#[122, 122]⟩, o, n, ⟨#[]⟩⟩ : SeL)] = ys ∧ vs 3 = .slice p4 ys.length k4 ∧ SdS w W B g ys p4 k4) ?_ ?_
          · refine wp_region_held_drew (S := fun _ => True) (by kernel_rfl) trivial (fun hHeld => ?_)
            have HS4 := Lib.hid (HS3.out.on (Below.refl _ _).drew)
            generalize World.drew _ = wd at HS4 hHeld ⊢
            refine takeQ (i := 0) (k := 77) (v := .slice p xs.length k) rfl (by rfl) (by kernel_rfl) (by kernel_rfl) (by kernel_rfl) (fun _ _ _ h => h) (by rfl) ?_ hHeld ?_
            · intro w1 hSw; go_simp
            (try simp only [Act.put, List.setIfInBounds_toArray, List.set_cons_zero, List.set_cons_succ])
            refine takeQ (i := 2) (k := 79) (v := .pointer (some ⟨g, 0, none⟩)) rfl (by rfl) (by kernel_rfl) (by kernel_rfl) (by kernel_rfl) (fun _ _ _ h => h) (by rfl) ?_ hHeld ?_
            · intro w1 hSw; go_simp
            (try simp only [Act.put, List.setIfInBounds_toArray, List.set_cons_zero, List.set_cons_succ])
            refine takeQ (i := 6) (k := 83) (v := .pointer (some ⟨g, 0, none⟩)) rfl (by rfl) (by kernel_rfl) (by kernel_rfl) (by kernel_rfl) (fun _ _ _ h => h) (by rfl) ?_ hHeld ?_
            · intro w1 hSw; go_simp
            (try simp only [Act.put, List.setIfInBounds_toArray, List.set_cons_zero, List.set_cons_succ])
            refine wpAnyH_ready (rs := [1, 3]) (by kernel_rfl) (by simp) ?_
            refine AllReadyH.cons rfl (fun K hK => ?_) (AllReadyH.cons rfl (fun K hK => ?_) AllReadyH.nil)
            · skip
              rw [if_pos (by rfl)]
              go_simp
              have HSa1 := Lib.hid (HS4.out.on ((Below.refl _ _).alloc (Nat.le_refl _) (.cells #[.int .i64 (-129), .int .i64 (-128), .int .i64 127, .int .i64 128] 2)))
              have HAa2 := Lib.hid (Arr.fresh wd 2 [.int .i64 (-129), .int .i64 (-128), .int .i64 127, .int .i64 128])
              refine hK.out _ _ trivial (fun hHeld => ?_)
              clear hK K
              (try simp only [Act.put, List.setIfInBounds_toArray, List.set_cons_zero, List.set_cons_succ])
              have hbbI3 : w.heap.size ≤ wd.heap.size := HS4.out.2.1.size
              generalize wd.heap.size = bI3 at HAa2 hbbI3 ⊢
              generalize wd.alloc (.cells #[.int .i64 (-129), .int .i64 (-128), .int .i64 127, .int .i64 128] 2) = wI4 at HSa1 HAa2 ⊢
              refine wpAnyH_ready (rs := [3]) (by kernel_rfl) (by simp) ?_
              refine AllReadyH.cons rfl (fun K hK => ?_) AllReadyH.nil
              rw [if_pos (by rfl)]
              go_simp
              go_fit (src_n B g 4 _ (by omega) HSa1.out.1)
              rintro e wI5 ⟨_, rfl, ⟨r2, rfl, h20, h21⟩, hSz, hgz⟩
              have HSa6 := Lib.hid (HSa1.out.src hSz hgz hlt)
              have HAa7 := Lib.hid (arr_grown9 HAa2.out hgz (by omega))
              clear hSz hgz
              obtain ⟨j2, rfl⟩ : ∃ j2 : Nat, r2 = j2 := ⟨r2.toNat, by omega⟩
              have hj2 : j2 < 4 := by omega
              clear h20 h21
              refine hK.out _ _ trivial (fun hHeld => ?_)
              clear hK K
              (try simp only [Act.put, List.setIfInBounds_toArray, List.set_cons_zero, List.set_cons_succ])
              refine takeQ (i := 4) (k := 81) (v := .pointer (some ⟨bI3, j2, none⟩)) rfl (by rfl) (by kernel_rfl) (by kernel_rfl) (by kernel_rfl) (fun _ _ _ h => h) (by rfl) ?_ hHeld ?_
              · intro w1 hSw; go_simp; (try (intro h9; exact absurd h9 (by omega)))
              (try simp only [Act.put, List.setIfInBounds_toArray, List.set_cons_zero, List.set_cons_succ])
              refine wpAnyH_ready (rs := [5, 7]) (by kernel_rfl) (by simp) ?_
              refine AllReadyH.cons rfl (fun K hK => ?_) (AllReadyH.cons rfl (fun K hK => ?_) AllReadyH.nil)
              · skip
                rw [if_pos (by rfl)]
                go_simp
                obtain ⟨nI8, hn4⟩ := four_at HAa7.out hj2
                go_simp
                clear hn4
                refine hK.out _ _ trivial (fun hHeld => ?_)
                clear hK K
                (try simp only [Act.put, List.setIfInBounds_toArray, List.set_cons_zero, List.set_cons_succ])
                refine wpAnyH_ready (rs := [7]) (by kernel_rfl) (by simp) ?_
                refine AllReadyH.cons rfl (fun K hK => ?_) AllReadyH.nil
                rw [if_pos (by rfl)]
                go_simp
                go_fit (src_one B g 2 _ (by omega) HSa6.out.1)
                rintro e wI9 ⟨_, rfl, ⟨bo11, rfl⟩, hSz, hgz⟩
                have HSa10 := Lib.hid (HSa6.out.src hSz hgz hlt)
                have HAa12 := Lib.hid (arr_grown9 HAa7.out hgz (by omega))
                clear hSz hgz
                refine hK.out _ _ trivial (fun hHeld => ?_)
                clear hK K
                (try simp only [Act.put, List.setIfInBounds_toArray, List.set_cons_zero, List.set_cons_succ])
                refine takeQ (i := 8) (k := 85) (v := .agg #[.string ⟨#[122, 122]⟩, .bool bo11, .int .i64 nI8, .string ⟨#[]⟩]) rfl (by rfl) (by kernel_rfl) (by kernel_rfl) (by kernel_rfl) (fun _ _ _ h => h) (by rfl) ?_ hHeld ?_
                · intro w1 hSw; go_simp
                (try simp only [Act.put, List.setIfInBounds_toArray, List.set_cons_zero, List.set_cons_succ])
                refine wpAnyH_ready (rs := [9]) (by kernel_rfl) (by simp) ?_
                refine AllReadyH.cons rfl (fun K hK => ?_) AllReadyH.nil
                rw [if_pos (by rfl)]
                go_simp
                refine hK.out _ _ trivial (fun hHeld => ?_)
                clear hK K
                (try simp only [Act.put, List.setIfInBounds_toArray, List.set_cons_zero, List.set_cons_succ])
                refine wpAnyH_ready (rs := [10]) (by kernel_rfl) (by simp) ?_
                refine AllReadyH.cons rfl (fun K hK => ?_) AllReadyH.nil
                rw [if_pos (by rfl)]
                refine wp_app_one9 _ _ rfl w.heap.size _ xs rfl (HSa10.out.2.2.alloc _) wI9.heap.size ⟨⟨#[122, 122]⟩, bo11, nI8, ⟨#[]⟩⟩ rfl (Arr.fresh wI9 84 (seC ⟨⟨#[122, 122]⟩, bo11, nI8, ⟨#[]⟩⟩)) HL.out (by rw [World.size_alloc]; have := HSa10.out.2.1.size; omega) ?_
                intro v4 w4 hv4 hg4
                have HS4 := Lib.hid (sds_app HSa10.out hlt hv4 hg4)
                clear hv4 hg4
                refine hK.out _ _ trivial (fun hHeld => ?_)
                clear hK K
                (try simp only [Act.put, List.setIfInBounds_toArray, List.set_cons_zero, List.set_cons_succ])
                obtain ⟨p4, k4, e4, hs4⟩ := HS4.out
                subst e4
                obtain ⟨ys, hys⟩ : ∃ ys, xs ++ [(⟨⟨#[122, 122]⟩, bo11, nI8, ⟨#[]⟩⟩ : SeL)] = ys := ⟨_, rfl⟩
                rw [hys] at hs4 ⊢
                have HYS := Lib.hid hys
                clear hys
                refine takeQ (i := 11) (k := 3) (v := .slice p4 ys.length k4) rfl (by rfl) (by kernel_rfl) (by kernel_rfl) (by kernel_rfl) (fun _ _ _ h => h) (by rfl) ?_ hHeld ?_
                · intro w1 hSw; go_simp
                (try simp only [Act.put, List.setIfInBounds_toArray, List.set_cons_zero, List.set_cons_succ])
                refine wpAnyH_done (by kernel_rfl) ?_ _
                exact ⟨⟨bo11, nI8, ys, p4, k4, HYS.out, rfl, hs4⟩, by simp only [putAll, Act.put, List.setIfInBounds_toArray, List.set_cons_zero, List.set_cons_succ]; rfl⟩
              · skip
                rw [if_pos (by rfl)]
                go_simp
                go_fit (src_one B g 2 _ (by omega) HSa6.out.1)
                rintro e wI13 ⟨_, rfl, ⟨bo15, rfl⟩, hSz, hgz⟩
                have HSa14 := Lib.hid (HSa6.out.src hSz hgz hlt)
                have HAa16 := Lib.hid (arr_grown9 HAa7.out hgz (by omega))
                clear hSz hgz
                refine hK.out _ _ trivial (fun hHeld => ?_)
                clear hK K
                (try simp only [Act.put, List.setIfInBounds_toArray, List.set_cons_zero, List.set_cons_succ])
                refine wpAnyH_ready (rs := [5]) (by kernel_rfl) (by simp) ?_
                refine AllReadyH.cons rfl (fun K hK => ?_) AllReadyH.nil
                rw [if_pos (by rfl)]
                go_simp
                obtain ⟨nI17, hn4⟩ := four_at HAa16.out hj2
                go_simp
                clear hn4
                refine hK.out _ _ trivial (fun hHeld => ?_)
                clear hK K
                (try simp only [Act.put, List.setIfInBounds_toArray, List.set_cons_zero, List.set_cons_succ])
                refine takeQ (i := 8) (k := 85) (v := .agg #[.string ⟨#[122, 122]⟩, .bool bo15, .int .i64 nI17, .string ⟨#[]⟩]) rfl (by rfl) (by kernel_rfl) (by kernel_rfl) (by kernel_rfl) (fun _ _ _ h => h) (by rfl) ?_ hHeld ?_
                · intro w1 hSw; go_simp
                (try simp only [Act.put, List.setIfInBounds_toArray, List.set_cons_zero, List.set_cons_succ])
                refine wpAnyH_ready (rs := [9]) (by kernel_rfl) (by simp) ?_
                refine AllReadyH.cons rfl (fun K hK => ?_) AllReadyH.nil
                rw [if_pos (by rfl)]
                go_simp
                refine hK.out _ _ trivial (fun hHeld => ?_)
                clear hK K
                (try simp only [Act.put, List.setIfInBounds_toArray, List.set_cons_zero, List.set_cons_succ])
                refine wpAnyH_ready (rs := [10]) (by kernel_rfl) (by simp) ?_
                refine AllReadyH.cons rfl (fun K hK => ?_) AllReadyH.nil
                rw [if_pos (by rfl)]
                refine wp_app_one9 _ _ rfl w.heap.size _ xs rfl (HSa14.out.2.2.alloc _) wI13.heap.size ⟨⟨#[122, 122]⟩, bo15, nI17, ⟨#[]⟩⟩ rfl (Arr.fresh wI13 84 (seC ⟨⟨#[122, 122]⟩, bo15, nI17, ⟨#[]⟩⟩)) HL.out (by rw [World.size_alloc]; have := HSa14.out.2.1.size; omega) ?_
                intro v4 w4 hv4 hg4
                have HS4 := Lib.hid (sds_app HSa14.out hlt hv4 hg4)
                clear hv4 hg4
                refine hK.out _ _ trivial (fun hHeld => ?_)
                clear hK K
                (try simp only [Act.put, List.setIfInBounds_toArray, List.set_cons_zero, List.set_cons_succ])
                obtain ⟨p4, k4, e4, hs4⟩ := HS4.out
                subst e4
                obtain ⟨ys, hys⟩ : ∃ ys, xs ++ [(⟨⟨#[122, 122]⟩, bo15, nI17, ⟨#[]⟩⟩ : SeL)] = ys := ⟨_, rfl⟩
                rw [hys] at hs4 ⊢
                have HYS := Lib.hid hys
                clear hys
                refine takeQ (i := 11) (k := 3) (v := .slice p4 ys.length k4) rfl (by rfl) (by kernel_rfl) (by kernel_rfl) (by kernel_rfl) (fun _ _ _ h => h) (by rfl) ?_ hHeld ?_
                · intro w1 hSw; go_simp
                (try simp only [Act.put, List.setIfInBounds_toArray, List.set_cons_zero, List.set_cons_succ])
                refine wpAnyH_done (by kernel_rfl) ?_ _
                exact ⟨⟨bo15, nI17, ys, p4, k4, HYS.out, rfl, hs4⟩, by simp only [putAll, Act.put, List.setIfInBounds_toArray, List.set_cons_zero, List.set_cons_succ]; rfl⟩
            · skip
              rw [if_pos (by rfl)]
              go_simp
              go_fit (src_n B g 4 _ (by omega) HS4.out.1)
              rintro e wI18 ⟨_, rfl, ⟨r2, rfl, h20, h21⟩, hSz, hgz⟩
              have HSa19 := Lib.hid (HS4.out.src hSz hgz hlt)
              clear hSz hgz
              obtain ⟨j2, rfl⟩ : ∃ j2 : Nat, r2 = j2 := ⟨r2.toNat, by omega⟩
              have hj2 : j2 < 4 := by omega
              clear h20 h21
              refine hK.out _ _ trivial (fun hHeld => ?_)
              clear hK K
              (try simp only [Act.put, List.setIfInBounds_toArray, List.set_cons_zero, List.set_cons_succ])
              refine wpAnyH_ready (rs := [1, 7]) (by kernel_rfl) (by simp) ?_
              refine AllReadyH.cons rfl (fun K hK => ?_) (AllReadyH.cons rfl (fun K hK => ?_) AllReadyH.nil)
              · skip
                rw [if_pos (by rfl)]
                go_simp
                have HSa20 := Lib.hid (HSa19.out.on ((Below.refl _ _).alloc (Nat.le_refl _) (.cells #[.int .i64 (-129), .int .i64 (-128), .int .i64 127, .int .i64 128] 2)))
                have HAa21 := Lib.hid (Arr.fresh wI18 2 [.int .i64 (-129), .int .i64 (-128), .int .i64 127, .int .i64 128])
                refine hK.out _ _ trivial (fun hHeld => ?_)
                clear hK K
                (try simp only [Act.put, List.setIfInBounds_toArray, List.set_cons_zero, List.set_cons_succ])
                have hbbI22 : w.heap.size ≤ wI18.heap.size := HSa19.out.2.1.size
                generalize wI18.heap.size = bI22 at HAa21 hbbI22 ⊢
                generalize wI18.alloc (.cells #[.int .i64 (-129), .int .i64 (-128), .int .i64 127, .int .i64 128] 2) = wI23 at HSa20 HAa21 ⊢
                refine takeQ (i := 4) (k := 81) (v := .pointer (some ⟨bI22, j2, none⟩)) rfl (by rfl) (by kernel_rfl) (by kernel_rfl) (by kernel_rfl) (fun _ _ _ h => h) (by rfl) ?_ hHeld ?_
                · intro w1 hSw; go_simp; (try (intro h9; exact absurd h9 (by omega)))
                (try simp only [Act.put, List.setIfInBounds_toArray, List.set_cons_zero, List.set_cons_succ])
                refine wpAnyH_ready (rs := [5, 7]) (by kernel_rfl) (by simp) ?_
                refine AllReadyH.cons rfl (fun K hK => ?_) (AllReadyH.cons rfl (fun K hK => ?_) AllReadyH.nil)
                · skip
                  rw [if_pos (by rfl)]
                  go_simp
                  obtain ⟨nI24, hn4⟩ := four_at HAa21.out hj2
                  go_simp
                  clear hn4
                  refine hK.out _ _ trivial (fun hHeld => ?_)
                  clear hK K
                  (try simp only [Act.put, List.setIfInBounds_toArray, List.set_cons_zero, List.set_cons_succ])
                  refine wpAnyH_ready (rs := [7]) (by kernel_rfl) (by simp) ?_
                  refine AllReadyH.cons rfl (fun K hK => ?_) AllReadyH.nil
                  rw [if_pos (by rfl)]
                  go_simp
                  go_fit (src_one B g 2 _ (by omega) HSa20.out.1)
                  rintro e wI25 ⟨_, rfl, ⟨bo27, rfl⟩, hSz, hgz⟩
                  have HSa26 := Lib.hid (HSa20.out.src hSz hgz hlt)
                  have HAa28 := Lib.hid (arr_grown9 HAa21.out hgz (by omega))
                  clear hSz hgz
                  refine hK.out _ _ trivial (fun hHeld => ?_)
                  clear hK K
                  (try simp only [Act.put, List.setIfInBounds_toArray, List.set_cons_zero, List.set_cons_succ])
                  refine takeQ (i := 8) (k := 85) (v := .agg #[.string ⟨#[122, 122]⟩, .bool bo27, .int .i64 nI24, .string ⟨#[]⟩]) rfl (by rfl) (by kernel_rfl) (by kernel_rfl) (by kernel_rfl) (fun _ _ _ h => h) (by rfl) ?_ hHeld ?_
                  · intro w1 hSw; go_simp
                  (try simp only [Act.put, List.setIfInBounds_toArray, List.set_cons_zero, List.set_cons_succ])
                  refine wpAnyH_ready (rs := [9]) (by kernel_rfl) (by simp) ?_
                  refine AllReadyH.cons rfl (fun K hK => ?_) AllReadyH.nil
                  rw [if_pos (by rfl)]
                  go_simp
                  refine hK.out _ _ trivial (fun hHeld => ?_)
                  clear hK K
                  (try simp only [Act.put, List.setIfInBounds_toArray, List.set_cons_zero, List.set_cons_succ])
                  refine wpAnyH_ready (rs := [10]) (by kernel_rfl) (by simp) ?_
                  refine AllReadyH.cons rfl (fun K hK => ?_) AllReadyH.nil
                  rw [if_pos (by rfl)]
                  refine wp_app_one9 _ _ rfl w.heap.size _ xs rfl (HSa26.out.2.2.alloc _) wI25.heap.size ⟨⟨#[122, 122]⟩, bo27, nI24, ⟨#[]⟩⟩ rfl (Arr.fresh wI25 84 (seC ⟨⟨#[122, 122]⟩, bo27, nI24, ⟨#[]⟩⟩)) HL.out (by rw [World.size_alloc]; have := HSa26.out.2.1.size; omega) ?_
                  intro v4 w4 hv4 hg4
                  have HS4 := Lib.hid (sds_app HSa26.out hlt hv4 hg4)
                  clear hv4 hg4
                  refine hK.out _ _ trivial (fun hHeld => ?_)
                  clear hK K
                  (try simp only [Act.put, List.setIfInBounds_toArray, List.set_cons_zero, List.set_cons_succ])
                  obtain ⟨p4, k4, e4, hs4⟩ := HS4.out
                  subst e4
                  obtain ⟨ys, hys⟩ : ∃ ys, xs ++ [(⟨⟨#[122, 122]⟩, bo27, nI24, ⟨#[]⟩⟩ : SeL)] = ys := ⟨_, rfl⟩
                  rw [hys] at hs4 ⊢
                  have HYS := Lib.hid hys
                  clear hys
                  refine takeQ (i := 11) (k := 3) (v := .slice p4 ys.length k4) rfl (by rfl) (by kernel_rfl) (by kernel_rfl) (by kernel_rfl) (fun _ _ _ h => h) (by rfl) ?_ hHeld ?_
                  · intro w1 hSw; go_simp
                  (try simp only [Act.put, List.setIfInBounds_toArray, List.set_cons_zero, List.set_cons_succ])
                  refine wpAnyH_done (by kernel_rfl) ?_ _
                  exact ⟨⟨bo27, nI24, ys, p4, k4, HYS.out, rfl, hs4⟩, by simp only [putAll, Act.put, List.setIfInBounds_toArray, List.set_cons_zero, List.set_cons_succ]; rfl⟩
                · skip
                  rw [if_pos (by rfl)]
                  go_simp
                  go_fit (src_one B g 2 _ (by omega) HSa20.out.1)
                  rintro e wI29 ⟨_, rfl, ⟨bo31, rfl⟩, hSz, hgz⟩
                  have HSa30 := Lib.hid (HSa20.out.src hSz hgz hlt)
                  have HAa32 := Lib.hid (arr_grown9 HAa21.out hgz (by omega))
                  clear hSz hgz
                  refine hK.out _ _ trivial (fun hHeld => ?_)
                  clear hK K
                  (try simp only [Act.put, List.setIfInBounds_toArray, List.set_cons_zero, List.set_cons_succ])
                  refine wpAnyH_ready (rs := [5]) (by kernel_rfl) (by simp) ?_
                  refine AllReadyH.cons rfl (fun K hK => ?_) AllReadyH.nil
                  rw [if_pos (by rfl)]
                  go_simp
                  obtain ⟨nI33, hn4⟩ := four_at HAa32.out hj2
                  go_simp
                  clear hn4
                  refine hK.out _ _ trivial (fun hHeld => ?_)
                  clear hK K
                  (try simp only [Act.put, List.setIfInBounds_toArray, List.set_cons_zero, List.set_cons_succ])
                  refine takeQ (i := 8) (k := 85) (v := .agg #[.string ⟨#[122, 122]⟩, .bool bo31, .int .i64 nI33, .string ⟨#[]⟩]) rfl (by rfl) (by kernel_rfl) (by kernel_rfl) (by kernel_rfl) (fun _ _ _ h => h) (by rfl) ?_ hHeld ?_
                  · intro w1 hSw; go_simp
                  (try simp only [Act.put, List.setIfInBounds_toArray, List.set_cons_zero, List.set_cons_succ])
                  refine wpAnyH_ready (rs := [9]) (by kernel_rfl) (by simp) ?_
                  refine AllReadyH.cons rfl (fun K hK => ?_) AllReadyH.nil
                  rw [if_pos (by rfl)]
                  go_simp
                  refine hK.out _ _ trivial (fun hHeld => ?_)
                  clear hK K
                  (try simp only [Act.put, List.setIfInBounds_toArray, List.set_cons_zero, List.set_cons_succ])
                  refine wpAnyH_ready (rs := [10]) (by kernel_rfl) (by simp) ?_
                  refine AllReadyH.cons rfl (fun K hK => ?_) AllReadyH.nil
                  rw [if_pos (by rfl)]
                  refine wp_app_one9 _ _ rfl w.heap.size _ xs rfl (HSa30.out.2.2.alloc _) wI29.heap.size ⟨⟨#[122, 122]⟩, bo31, nI33, ⟨#[]⟩⟩ rfl (Arr.fresh wI29 84 (seC ⟨⟨#[122, 122]⟩, bo31, nI33, ⟨#[]⟩⟩)) HL.out (by rw [World.size_alloc]; have := HSa30.out.2.1.size; omega) ?_
                  intro v4 w4 hv4 hg4
                  have HS4 := Lib.hid (sds_app HSa30.out hlt hv4 hg4)
                  clear hv4 hg4
                  refine hK.out _ _ trivial (fun hHeld => ?_)
                  clear hK K
                  (try simp only [Act.put, List.setIfInBounds_toArray, List.set_cons_zero, List.set_cons_succ])
                  obtain ⟨p4, k4, e4, hs4⟩ := HS4.out
                  subst e4
                  obtain ⟨ys, hys⟩ : ∃ ys, xs ++ [(⟨⟨#[122, 122]⟩, bo31, nI33, ⟨#[]⟩⟩ : SeL)] = ys := ⟨_, rfl⟩
                  rw [hys] at hs4 ⊢
                  have HYS := Lib.hid hys
                  clear hys
                  refine takeQ (i := 11) (k := 3) (v := .slice p4 ys.length k4) rfl (by rfl) (by kernel_rfl) (by kernel_rfl) (by kernel_rfl) (fun _ _ _ h => h) (by rfl) ?_ hHeld ?_
                  · intro w1 hSw; go_simp
                  (try simp only [Act.put, List.setIfInBounds_toArray, List.set_cons_zero, List.set_cons_succ])
                  refine wpAnyH_done (by kernel_rfl) ?_ _
                  exact ⟨⟨bo31, nI33, ys, p4, k4, HYS.out, rfl, hs4⟩, by simp only [putAll, Act.put, List.setIfInBounds_toArray, List.set_cons_zero, List.set_cons_succ]; rfl⟩
              · skip
                rw [if_pos (by rfl)]
                go_simp
                go_fit (src_one B g 2 _ (by omega) HSa19.out.1)
                rintro e wI34 ⟨_, rfl, ⟨bo36, rfl⟩, hSz, hgz⟩
                have HSa35 := Lib.hid (HSa19.out.src hSz hgz hlt)
                clear hSz hgz
                refine hK.out _ _ trivial (fun hHeld => ?_)
                clear hK K
                (try simp only [Act.put, List.setIfInBounds_toArray, List.set_cons_zero, List.set_cons_succ])
                refine wpAnyH_ready (rs := [1]) (by kernel_rfl) (by simp) ?_
                refine AllReadyH.cons rfl (fun K hK => ?_) AllReadyH.nil
                rw [if_pos (by rfl)]
                go_simp
                have HSa37 := Lib.hid (HSa35.out.on ((Below.refl _ _).alloc (Nat.le_refl _) (.cells #[.int .i64 (-129), .int .i64 (-128), .int .i64 127, .int .i64 128] 2)))
                have HAa38 := Lib.hid (Arr.fresh wI34 2 [.int .i64 (-129), .int .i64 (-128), .int .i64 127, .int .i64 128])
                refine hK.out _ _ trivial (fun hHeld => ?_)
                clear hK K
                (try simp only [Act.put, List.setIfInBounds_toArray, List.set_cons_zero, List.set_cons_succ])
                have hbbI39 : w.heap.size ≤ wI34.heap.size := HSa35.out.2.1.size
                generalize wI34.heap.size = bI39 at HAa38 hbbI39 ⊢
                generalize wI34.alloc (.cells #[.int .i64 (-129), .int .i64 (-128), .int .i64 127, .int .i64 128] 2) = wI40 at HSa37 HAa38 ⊢
                refine takeQ (i := 4) (k := 81) (v := .pointer (some ⟨bI39, j2, none⟩)) rfl (by rfl) (by kernel_rfl) (by kernel_rfl) (by kernel_rfl) (fun _ _ _ h => h) (by rfl) ?_ hHeld ?_
                · intro w1 hSw; go_simp; (try (intro h9; exact absurd h9 (by omega)))
                (try simp only [Act.put, List.setIfInBounds_toArray, List.set_cons_zero, List.set_cons_succ])
                refine wpAnyH_ready (rs := [5]) (by kernel_rfl) (by simp) ?_
                refine AllReadyH.cons rfl (fun K hK => ?_) AllReadyH.nil
                rw [if_pos (by rfl)]
                go_simp
                obtain ⟨nI41, hn4⟩ := four_at HAa38.out hj2
                go_simp
                clear hn4
                refine hK.out _ _ trivial (fun hHeld => ?_)
                clear hK K
                (try simp only [Act.put, List.setIfInBounds_toArray, List.set_cons_zero, List.set_cons_succ])
                refine takeQ (i := 8) (k := 85) (v := .agg #[.string ⟨#[122, 122]⟩, .bool bo36, .int .i64 nI41, .string ⟨#[]⟩]) rfl (by rfl) (by kernel_rfl) (by kernel_rfl) (by kernel_rfl) (fun _ _ _ h => h) (by rfl) ?_ hHeld ?_
                · intro w1 hSw; go_simp
                (try simp only [Act.put, List.setIfInBounds_toArray, List.set_cons_zero, List.set_cons_succ])
                refine wpAnyH_ready (rs := [9]) (by kernel_rfl) (by simp) ?_
                refine AllReadyH.cons rfl (fun K hK => ?_) AllReadyH.nil
                rw [if_pos (by rfl)]
                go_simp
                refine hK.out _ _ trivial (fun hHeld => ?_)
                clear hK K
                (try simp only [Act.put, List.setIfInBounds_toArray, List.set_cons_zero, List.set_cons_succ])
                refine wpAnyH_ready (rs := [10]) (by kernel_rfl) (by simp) ?_
                refine AllReadyH.cons rfl (fun K hK => ?_) AllReadyH.nil
                rw [if_pos (by rfl)]
                refine wp_app_one9 _ _ rfl w.heap.size _ xs rfl (HSa37.out.2.2.alloc _) wI40.heap.size ⟨⟨#[122, 122]⟩, bo36, nI41, ⟨#[]⟩⟩ rfl (Arr.fresh wI40 84 (seC ⟨⟨#[122, 122]⟩, bo36, nI41, ⟨#[]⟩⟩)) HL.out (by rw [World.size_alloc]; have := HSa37.out.2.1.size; omega) ?_
                intro v4 w4 hv4 hg4
                have HS4 := Lib.hid (sds_app HSa37.out hlt hv4 hg4)
                clear hv4 hg4
                refine hK.out _ _ trivial (fun hHeld => ?_)
                clear hK K
                (try simp only [Act.put, List.setIfInBounds_toArray, List.set_cons_zero, List.set_cons_succ])
                obtain ⟨p4, k4, e4, hs4⟩ := HS4.out
                subst e4
                obtain ⟨ys, hys⟩ : ∃ ys, xs ++ [(⟨⟨#[122, 122]⟩, bo36, nI41, ⟨#[]⟩⟩ : SeL)] = ys := ⟨_, rfl⟩
                rw [hys] at hs4 ⊢
                have HYS := Lib.hid hys
                clear hys
                refine takeQ (i := 11) (k := 3) (v := .slice p4 ys.length k4) rfl (by rfl) (by kernel_rfl) (by kernel_rfl) (by kernel_rfl) (fun _ _ _ h => h) (by rfl) ?_ hHeld ?_
                · intro w1 hSw; go_simp
                (try simp only [Act.put, List.setIfInBounds_toArray, List.set_cons_zero, List.set_cons_succ])
                refine wpAnyH_done (by kernel_rfl) ?_ _
                exact ⟨⟨bo36, nI41, ys, p4, k4, HYS.out, rfl, hs4⟩, by simp only [putAll, Act.put, List.setIfInBounds_toArray, List.set_cons_zero, List.set_cons_succ]; rfl⟩
          · intro vs W hR
            obtain ⟨o, n, ys, p4, k4, hys, e4, hs4⟩ := hR
            have HYS := Lib.hid hys
            have HS5 := Lib.hid hs4
            simp only [putAll, Act.put, List.foldl, List.setIfInBounds_toArray, List.set_cons_zero, List.set_cons_succ, e4]
            clear e4 hs4 hys
            go_wp2_with fail
            go_ret
            obtain rfl := HYS.out
            exact ⟨_, p4, k4, rfl, HS5.out, by have := HW.out.1; rw [List.length_append]; show _ + 1 ≤ 6; omega, fun x hx => by
              rcases List.mem_append.1 hx with hx | hx
              · exact HW.out.2 x hx
              · obtain rfl := List.mem_singleton.1 hx
                exact ⟨by show (2 : Nat) ≤ 100; omega, by show (0 : Nat) ≤ 100; omega⟩⟩
          -- R23
        · go_wp2_with (at_builtin; refine wpList_plain rfl fun K hK => ?_; refine wp_app_one9 _ _ rfl w.heap.size _ xs rfl (HS3.out.2.2.alloc _) w3.heap.size ⟨⟨#[122, 122]⟩, true, 0, ⟨#[110, 111]⟩⟩ rfl (Arr.fresh w3 84 (seC ⟨⟨#[122, 122]⟩, true, 0, ⟨#[110, 111]⟩⟩)) HL.out (by rw [World.size_alloc]; have := HS3.out.2.1.size; omega) ?_; intro v4 w4 hv4 hg4; have HS4 := Lib.hid (sds_app HS3.out hlt hv4 hg4); clear hv4 hg4; obtain ⟨p4, k4, e4, hs4⟩ := HS4.out; subst e4; have HS5 := Lib.hid hs4; clear hs4 HS4; refine hK _ _ ?_)
          go_ret
          exact ⟨_, p4, k4, by rw [List.length_append]; rfl, HS5.out, by have := HW.out.1; rw [List.length_append]; show _ + 1 ≤ 6; omega, fun x hx => by
            rcases List.mem_append.1 hx with hx | hx
            · exact HW.out.2 x hx
            · obtain rfl := List.mem_singleton.1 hx
              exact ⟨by decide, by decide⟩⟩
end Go.Proofs.Ytafdjjdmcnlddaa

namespace Go.Proofs.Ytafdjjdmcnlddaa
set_option linter.unusedSimpArgs false
set_option linter.unusedVariables false
open Go.RowKit Go.Joins

/-- Drawn sessions. -/
def SeD (B : Nat) (e : Ending) (W : World) : Prop := ∃ xs p k, e = .returned (.slice p xs.length k) ∧ OwnC seC W B 84 4 (.slice p xs.length k) xs ∧ xs.length ≤ 6 ∧ ∀ x ∈ xs, x.r.size ≤ 100 ∧ x.s.size ≤ 100
end Go.Proofs.Ytafdjjdmcnlddaa

namespace Go.Proofs.Ytafdjjdmcnlddaa
set_option linter.unusedSimpArgs false
set_option linter.unusedVariables false
open Go.RowKit Go.Joins

theorem bnd_small : ∀ s ∈ [(⟨#[]⟩ : ByteArray), ⟨#[97, 47, 98]⟩, ⟨#[110, 101, 119]⟩], s.size ≤ 100 := by
  intro s hs
  simp at hs
  rcases hs with rfl | rfl | rfl <;> decide
theorem prs_small : ∀ s ∈ [(⟨#[]⟩ : ByteArray), ⟨#[120, 97]⟩, ⟨#[99, 104, 97, 116]⟩], s.size ≤ 100 := by
  intro s hs
  simp at hs
  rcases hs with rfl | rfl | rfl <;> decide
theorem two_at {W : World} {b t M : Nat} {s0 s1 : ByteArray} (h : Arr W b t [.string s0, .string s1]) (h0 : s0.size ≤ M) (h1 : s1.size ≤ M) : StrRow W b 2 M := fun j hj => by
  have e : j = 0 ∨ j = 1 := by omega
  rcases e with rfl | rfl
  · exact ⟨_, h.cell 0, h0⟩
  · exact ⟨_, h.cell 1, h1⟩
/-- Drawn sessions and a name. -/
def SnD (B : Nat) (e : Ending) (W : World) : Prop := ∃ xs p k j, e = .returned (.tuple #[.slice p xs.length k, .string j]) ∧ OwnC seC W B 84 4 (.slice p xs.length k) xs ∧ xs.length ≤ 6 ∧ (∀ x ∈ xs, x.r.size ≤ 100 ∧ x.s.size ≤ 100) ∧ j.size ≤ 100
/-- Drawn sessions, a name, a priority, a show. -/
def SpD (B : Nat) (e : Ending) (W : World) : Prop := ∃ xs p k j z s, e = .returned (.tuple #[.slice p xs.length k, .string j, .int .i64 z, .string s]) ∧ OwnC seC W B 84 4 (.slice p xs.length k) xs ∧ xs.length ≤ 6 ∧ (∀ x ∈ xs, x.r.size ≤ 100 ∧ x.s.size ≤ 100) ∧ j.size ≤ 100 ∧ s.size ≤ 100
set_option maxRecDepth 100000 in
set_option maxHeartbeats 1000000 in
theorem draw_bnd (a : Option Addr) (len cap : Nat) (w : World) (hlen : len ≤ 1048576) (hrow : SrcRow w w.heap.size a len) :
    Calls Try.prog 11 #[.slice a len cap] w fun e w' => SnD w.heap.size e w' ∧ Below w.heap.size w w' := by
  have HR := Lib.hid hrow
  clear hrow
  go_enter Try.func11, Try.ntmps11
  go_wp2_with fail
  refine (src_source a len cap _ hlen HR.out).mono ?_
  rintro e w1 ⟨rfl, hS1, hb1⟩
  have HS1 := Lib.hid hS1
  have HB1 := Lib.hid hb1
  have hlt := hS1.lt
  clear hS1 hb1
  go_wp2_with fail
  refine (draw_sess w.heap.size w.heap.size w1 HS1.out).mono ?_
  rintro e w2 ⟨xs, p, k, rfl, hs, hl, hw⟩
  have HS2 := Lib.hid hs
  have HW := Lib.hid (And.intro hl hw)
  clear hs hl hw
  obtain ⟨n, hxn⟩ : ∃ n, xs.length = n := ⟨_, rfl⟩
  have HN := Lib.hid hxn
  rw [hxn]
  clear hxn
  go_wp2_with fail
  refine (src_one w.heap.size w.heap.size 8 w2 (by omega) HS2.out.1).mono ?_
  rintro e w3 ⟨_, rfl, ⟨b, rfl⟩, hS3, hg3⟩
  have HS3 := Lib.hid (HS2.out.src hS3 hg3 hlt)
  clear hS3 hg3 HS2
  cases b
  · go_wp2_with fail
    refine (draw_sname w.heap.size w.heap.size w3 HS3.out.1).mono ?_
    rintro e w4 ⟨_, rfl, ⟨r, rfl, hr⟩, hS4, hg4⟩
    have HS4 := Lib.hid (HS3.out.src hS4 hg4 hlt)
    clear hS4 hg4 HS3
    have HB4 := Lib.hid (below_grown HB1.out HB1.out.size HS4.out.2.1 (Nat.le_refl _))
    go_wp2_with fail
    exact bodyPost_ret (v := .tuple #[.slice p n k, .string r]) (by simp [results, Try.results11, go_sem]) rfl ⟨⟨xs, p, k, r, by rw [HN.out], HS4.out.2.2.mono HB1.out.size, HW.out.1, HW.out.2, hr⟩, HB4.out⟩
  · go_wp2_with fail
    have hgw : w.heap.size < w3.heap.size := by have := HS3.out.2.1.size; omega
    refine (src_pick w.heap.size w.heap.size w3.heap.size 3 100 _ (by omega) (by omega) (HS3.out.1.alloc _) (by omega) (strRow_at w3 9 100 _ [⟨#[]⟩, ⟨#[97, 47, 98]⟩, ⟨#[110, 101, 119]⟩] rfl bnd_small)).mono ?_
    rintro e w4 ⟨_, rfl, ⟨r, rfl, hr⟩, hS4, hg4⟩
    have HS4 := Lib.hid ((HS3.out.on ((Below.refl _ _).alloc (Nat.le_refl _) _)).src hS4 hg4 hlt)
    clear hS4 hg4 HS3
    have HB4 := Lib.hid (below_grown HB1.out HB1.out.size HS4.out.2.1 (Nat.le_refl _))
    go_wp2_with fail
    exact bodyPost_ret (v := .tuple #[.slice p n k, .string r]) (by simp [results, Try.results11, go_sem]) rfl ⟨⟨xs, p, k, r, by rw [HN.out], HS4.out.2.2.mono HB1.out.size, HW.out.1, HW.out.2, hr⟩, HB4.out⟩
theorem draw_unb (a : Option Addr) (len cap : Nat) (w : World) (hlen : len ≤ 1048576) (hrow : SrcRow w w.heap.size a len) :
    Calls Try.prog 13 #[.slice a len cap] w fun e w' => SnD w.heap.size e w' ∧ Below w.heap.size w w' := by
  have i1 := draw_bnd a len cap w hlen hrow
  unfold SnD at i1
  clear hlen hrow
  go_enter Try.func13, Try.ntmps13
  go_wp2_with (go_at_call 11; go_fit i1; rintro e w1 ⟨⟨xs, p, k, j, rfl, h⟩, hb⟩)
  exact bodyPost_ret (v := .tuple #[.slice p xs.length k, .string j]) (by simp [results, Try.results13, go_sem]) rfl ⟨⟨xs, p, k, j, rfl, h⟩, hb⟩
theorem draw_abs (a : Option Addr) (len cap : Nat) (w : World) (hlen : len ≤ 1048576) (hrow : SrcRow w w.heap.size a len) :
    Calls Try.prog 16 #[.slice a len cap] w fun e w' => SnD w.heap.size e w' ∧ Below w.heap.size w w' := by
  have i1 := draw_bnd a len cap w hlen hrow
  unfold SnD at i1
  clear hlen hrow
  go_enter Try.func16, Try.ntmps16
  go_wp2_with (go_at_call 11; go_fit i1; rintro e w1 ⟨⟨xs, p, k, j, rfl, h⟩, hb⟩)
  exact bodyPost_ret (v := .tuple #[.slice p xs.length k, .string j]) (by simp [results, Try.results16, go_sem]) rfl ⟨⟨xs, p, k, j, rfl, h⟩, hb⟩
set_option maxRecDepth 100000 in
set_option maxHeartbeats 1000000 in
theorem draw_seen (a : Option Addr) (len cap : Nat) (w : World) (hlen : len ≤ 1048576) (hrow : SrcRow w w.heap.size a len) :
    Calls Try.prog 27 #[.slice a len cap] w fun e w' => SeD w.heap.size e w' ∧ Below w.heap.size w w' := by
  have HR := Lib.hid hrow
  clear hrow
  go_enter Try.func27, Try.ntmps27
  go_wp2_with fail
  refine (src_source a len cap _ hlen HR.out).mono ?_
  rintro e w1 ⟨rfl, hS1, hb1⟩
  have HS1 := Lib.hid hS1
  have HB1 := Lib.hid hb1
  clear hS1 hb1
  go_wp2_with fail
  refine (draw_sess w.heap.size w.heap.size w1 HS1.out).mono ?_
  rintro e w2 ⟨xs, p, k, rfl, hs, hl, hw⟩
  have HB2 := Lib.hid (below_grown HB1.out HB1.out.size hs.2.1 (Nat.le_refl _))
  have HO2 := Lib.hid (hs.2.2.mono HB1.out.size)
  clear hs
  go_wp2_with fail
  go_ret
  exact ⟨⟨xs, p, k, rfl, HO2.out, hl, hw⟩, HB2.out⟩
set_option maxRecDepth 100000 in
set_option maxHeartbeats 4000000 in
theorem draw_pres (a : Option Addr) (len cap : Nat) (w : World) (hlen : len ≤ 1048576) (hrow : SrcRow w w.heap.size a len) :
    Calls Try.prog 14 #[.slice a len cap] w fun e w' => SpD w.heap.size e w' ∧ Below w.heap.size w w' := by
  have HR := Lib.hid hrow
  clear hrow
  go_enter Try.func14, Try.ntmps14
  go_wp2_with fail
  refine (src_source a len cap _ hlen HR.out).mono ?_
  rintro e w1 ⟨rfl, hS1, hb1⟩
  have HS1 := Lib.hid hS1
  have HB1 := Lib.hid hb1
  have hlt := hS1.lt
  clear hS1 hb1
  go_wp2_with fail
  refine (draw_sess w.heap.size w.heap.size w1 HS1.out).mono ?_
  rintro e w2 ⟨xs, p, k, rfl, hs, hl, hw⟩
  have HS2 := Lib.hid hs
  have HW := Lib.hid (And.intro hl hw)
  clear hs hl hw
  obtain ⟨n, hxn⟩ : ∃ n, xs.length = n := ⟨_, rfl⟩
  have HN := Lib.hid hxn
  rw [hxn]
  clear hxn
  go_wp2_with fail
  refine (draw_sname w.heap.size w.heap.size w2 HS2.out.1).mono ?_
  rintro e w3 ⟨_, rfl, ⟨r, rfl, hr⟩, hS3, hg3⟩
  have HS3 := Lib.hid (HS2.out.src hS3 hg3 hlt)
  clear hS3 hg3 HS2
  go_wp2_with fail
  refine (src_one w.heap.size w.heap.size 8 w3 (by omega) HS3.out.1).mono ?_
  rintro e w4 ⟨_, rfl, ⟨b, rfl⟩, hS4, hg4⟩
  have HS4 := Lib.hid (HS3.out.src hS4 hg4 hlt)
  clear hS4 hg4 HS3
  cases b
  · go_wp2_with fail
    refine (src_n w.heap.size w.heap.size 9 w4 (by omega) HS4.out.1).mono ?_
    rintro e w5 ⟨_, rfl, ⟨z, rfl, hz0, hz1⟩, hS5, hg5⟩
    have HS5 := Lib.hid (HS4.out.src hS5 hg5 hlt)
    clear hS5 hg5 HS4
    go_wp2_with fail
    have hgw : w.heap.size < w5.heap.size := by have := HS5.out.2.1.size; omega
    refine (src_pick w.heap.size w.heap.size w5.heap.size 3 100 _ (by omega) (by omega) (HS5.out.1.alloc _) (by omega) (strRow_at w5 9 100 _ [⟨#[]⟩, ⟨#[120, 97]⟩, ⟨#[99, 104, 97, 116]⟩] rfl prs_small)).mono ?_
    rintro e w6 ⟨_, rfl, ⟨s, rfl, hs⟩, hS6, hg6⟩
    have HS6 := Lib.hid ((HS5.out.on ((Below.refl _ _).alloc (Nat.le_refl _) _)).src hS6 hg6 hlt)
    clear hS6 hg6 HS5
    have HB6 := Lib.hid (below_grown HB1.out HB1.out.size HS6.out.2.1 (Nat.le_refl _))
    go_wp2_with fail
    exact bodyPost_ret (v := .tuple #[.slice p n k, .string r, .int .i64 (z - 3), .string s]) (by simp [results, Try.results14, go_sem]) rfl ⟨⟨xs, p, k, r, z - 3, s, by rw [HN.out], HS6.out.2.2.mono HB1.out.size, HW.out.1, HW.out.2, hr, hs⟩, HB6.out⟩
  · go_wp2_with fail
    refine region_join [17, 18, 19, 20, 21, 22, 23, 24, 25, 26, 2, 3, 4, 5] (fun vs W => ∃ (z : Int) (s : ByteArray), vs 2 = .slice p n k ∧ vs 3 = .string r ∧ vs 4 = .int .i64 z ∧ vs 5 = .string s ∧ s.size ≤ 100 ∧ SdS w1 W w.heap.size w.heap.size xs p k) ?_ ?_
    · refine wp_region_held_drew (S := fun _ => True) (by kernel_rfl) trivial (fun hHeld => ?_)
      have HS5 := Lib.hid (HS4.out.on (Below.refl _ _).drew)
      clear HS4
      generalize World.drew _ = wd at HS5 hHeld ⊢
      refine takeQ (i := 0) (k := 17) (v := .slice p n k) rfl (by rfl) (by kernel_rfl) (by kernel_rfl) (by kernel_rfl) (fun _ _ _ h => h) (by rfl) ?_ hHeld ?_
      · intro w1 hSw; go_simp
      (try simp only [Act.put, List.setIfInBounds_toArray, List.set_cons_zero, List.set_cons_succ])
      refine takeQ (i := 1) (k := 18) (v := .string r) rfl (by rfl) (by kernel_rfl) (by kernel_rfl) (by kernel_rfl) (fun _ _ _ h => h) (by rfl) ?_ hHeld ?_
      · intro w1 hSw; go_simp
      (try simp only [Act.put, List.setIfInBounds_toArray, List.set_cons_zero, List.set_cons_succ])
      refine takeQ (i := 3) (k := 20) (v := .pointer (some ⟨w.heap.size, 0, none⟩)) rfl (by rfl) (by kernel_rfl) (by kernel_rfl) (by kernel_rfl) (fun _ _ _ h => h) (by rfl) ?_ hHeld ?_
      · intro w1 hSw; go_simp
      (try simp only [Act.put, List.setIfInBounds_toArray, List.set_cons_zero, List.set_cons_succ])
      refine takeQ (i := 7) (k := 24) (v := .pointer (some ⟨w.heap.size, 0, none⟩)) rfl (by rfl) (by kernel_rfl) (by kernel_rfl) (by kernel_rfl) (fun _ _ _ h => h) (by rfl) ?_ hHeld ?_
      · intro w1 hSw; go_simp
      (try simp only [Act.put, List.setIfInBounds_toArray, List.set_cons_zero, List.set_cons_succ])
      refine wpAnyH_ready (rs := [2, 4, 8]) (by kernel_rfl) (by simp) ?_
      refine AllReadyH.cons rfl (fun K hK => ?_) (AllReadyH.cons rfl (fun K hK => ?_) (AllReadyH.cons rfl (fun K hK => ?_) AllReadyH.nil))
      · skip
        rw [if_pos (by rfl)]
        go_simp
        have HSa1 := Lib.hid (HS5.out.on ((Below.refl _ _).alloc (Nat.le_refl _) (.cells #[.int .i64 (-129), .int .i64 (-128), .int .i64 127, .int .i64 128] 2)))
        have HAa2 := Lib.hid (Arr.fresh wd 2 [.int .i64 (-129), .int .i64 (-128), .int .i64 127, .int .i64 128])
        refine hK.out _ _ trivial (fun hHeld => ?_)
        clear hK K
        (try simp only [Act.put, List.setIfInBounds_toArray, List.set_cons_zero, List.set_cons_succ])
        have hbbI3 : w1.heap.size ≤ wd.heap.size := HS5.out.2.1.size
        generalize wd.heap.size = bI3 at HAa2 hbbI3 ⊢
        generalize wd.alloc (.cells #[.int .i64 (-129), .int .i64 (-128), .int .i64 127, .int .i64 128] 2) = wI4 at HSa1 HAa2 ⊢
        refine wpAnyH_ready (rs := [4, 8]) (by kernel_rfl) (by simp) ?_
        refine AllReadyH.cons rfl (fun K hK => ?_) (AllReadyH.cons rfl (fun K hK => ?_) AllReadyH.nil)
        · skip
          rw [if_pos (by rfl)]
          go_simp
          go_fit (src_n w.heap.size w.heap.size 4 _ (by omega) HSa1.out.1)
          rintro e wI5 ⟨_, rfl, ⟨r2, rfl, h20, h21⟩, hSz, hgz⟩
          have HSa6 := Lib.hid (HSa1.out.src hSz hgz hlt)
          have HAa7 := Lib.hid (arr_grown9 HAa2.out hgz (by omega))
          clear hSz hgz
          obtain ⟨j2, rfl⟩ : ∃ j2 : Nat, r2 = j2 := ⟨r2.toNat, by omega⟩
          have hj2 : j2 < 4 := by omega
          clear h20 h21
          refine hK.out _ _ trivial (fun hHeld => ?_)
          clear hK K
          (try simp only [Act.put, List.setIfInBounds_toArray, List.set_cons_zero, List.set_cons_succ])
          refine takeQ (i := 5) (k := 22) (v := .pointer (some ⟨bI3, j2, none⟩)) rfl (by rfl) (by kernel_rfl) (by kernel_rfl) (by kernel_rfl) (fun _ _ _ h => h) (by rfl) ?_ hHeld ?_
          · intro w1 hSw; go_simp; (try (intro h9; exact absurd h9 (by omega)))
          (try simp only [Act.put, List.setIfInBounds_toArray, List.set_cons_zero, List.set_cons_succ])
          refine wpAnyH_ready (rs := [6, 8]) (by kernel_rfl) (by simp) ?_
          refine AllReadyH.cons rfl (fun K hK => ?_) (AllReadyH.cons rfl (fun K hK => ?_) AllReadyH.nil)
          · skip
            rw [if_pos (by rfl)]
            go_simp
            obtain ⟨nI8, hn4⟩ := four_at HAa7.out hj2
            go_simp
            clear hn4
            refine hK.out _ _ trivial (fun hHeld => ?_)
            clear hK K
            (try simp only [Act.put, List.setIfInBounds_toArray, List.set_cons_zero, List.set_cons_succ])
            refine wpAnyH_ready (rs := [8]) (by kernel_rfl) (by simp) ?_
            refine AllReadyH.cons rfl (fun K hK => ?_) AllReadyH.nil
            rw [if_pos (by rfl)]
            go_simp
            have HSa9 := Lib.hid (HSa6.out.on ((Below.refl _ _).alloc (Nat.le_refl _) (.cells #[.string ⟨#[]⟩, .string ⟨#[110, 111]⟩] 9)))
            have HAa10 := Lib.hid (Arr.fresh wI5 9 [.string ⟨#[]⟩, .string ⟨#[110, 111]⟩])
            have HAa11 := Lib.hid ((HAa7.out).alloc (.cells #[.string ⟨#[]⟩, .string ⟨#[110, 111]⟩] 9))
            refine hK.out _ _ trivial (fun hHeld => ?_)
            clear hK K
            (try simp only [Act.put, List.setIfInBounds_toArray, List.set_cons_zero, List.set_cons_succ])
            have hbbI12 : w1.heap.size ≤ wI5.heap.size := HSa6.out.2.1.size
            generalize wI5.heap.size = bI12 at HAa10 hbbI12 ⊢
            generalize wI5.alloc (.cells #[.string ⟨#[]⟩, .string ⟨#[110, 111]⟩] 9) = wI13 at HSa9 HAa10 HAa11 ⊢
            refine wpAnyH_ready (rs := [9]) (by kernel_rfl) (by simp) ?_
            refine AllReadyH.cons rfl (fun K hK => ?_) AllReadyH.nil
            rw [if_pos (by rfl)]
            go_simp
            go_fit (src_pick w.heap.size w.heap.size bI12 2 100 _ (by omega) (by omega) HSa9.out.1 (by omega) (two_at HAa10.out (by decide) (by decide)))
            rintro e wI14 ⟨_, rfl, ⟨sI16, rfl, hsI16⟩, hSz, hgz⟩
            have HSa15 := Lib.hid (HSa9.out.src hSz hgz hlt)
            have HAa17 := Lib.hid (arr_grown9 HAa11.out hgz (by omega))
            have HAa18 := Lib.hid (arr_grown9 HAa10.out hgz (by omega))
            clear hSz hgz
            refine hK.out _ _ trivial (fun hHeld => ?_)
            clear hK K
            (try simp only [Act.put, List.setIfInBounds_toArray, List.set_cons_zero, List.set_cons_succ])
            refine takeQ (i := 10) (k := 2) (v := .slice p n k) rfl (by rfl) (by kernel_rfl) (by kernel_rfl) (by kernel_rfl) (fun _ _ _ h => h) (by rfl) ?_ hHeld ?_
            · intro w1 hSw; go_simp
            (try simp only [Act.put, List.setIfInBounds_toArray, List.set_cons_zero, List.set_cons_succ])
            refine takeQ (i := 11) (k := 3) (v := .string r) rfl (by rfl) (by kernel_rfl) (by kernel_rfl) (by kernel_rfl) (fun _ _ _ h => h) (by rfl) ?_ hHeld ?_
            · intro w1 hSw; go_simp
            (try simp only [Act.put, List.setIfInBounds_toArray, List.set_cons_zero, List.set_cons_succ])
            refine takeQ (i := 12) (k := 4) (v := .int .i64 nI8) rfl (by rfl) (by kernel_rfl) (by kernel_rfl) (by kernel_rfl) (fun _ _ _ h => h) (by rfl) ?_ hHeld ?_
            · intro w1 hSw; go_simp
            (try simp only [Act.put, List.setIfInBounds_toArray, List.set_cons_zero, List.set_cons_succ])
            refine takeQ (i := 13) (k := 5) (v := .string sI16) rfl (by rfl) (by kernel_rfl) (by kernel_rfl) (by kernel_rfl) (fun _ _ _ h => h) (by rfl) ?_ hHeld ?_
            · intro w1 hSw; go_simp
            (try simp only [Act.put, List.setIfInBounds_toArray, List.set_cons_zero, List.set_cons_succ])
            refine wpAnyH_done (by kernel_rfl) ?_ _
            exact ⟨⟨nI8, sI16, rfl, rfl, rfl, rfl, hsI16, HSa15.out⟩, by simp only [putAll, Act.put, List.setIfInBounds_toArray, List.set_cons_zero, List.set_cons_succ]; rfl⟩
          · skip
            rw [if_pos (by rfl)]
            go_simp
            have HSa19 := Lib.hid (HSa6.out.on ((Below.refl _ _).alloc (Nat.le_refl _) (.cells #[.string ⟨#[]⟩, .string ⟨#[110, 111]⟩] 9)))
            have HAa20 := Lib.hid (Arr.fresh wI5 9 [.string ⟨#[]⟩, .string ⟨#[110, 111]⟩])
            have HAa21 := Lib.hid ((HAa7.out).alloc (.cells #[.string ⟨#[]⟩, .string ⟨#[110, 111]⟩] 9))
            refine hK.out _ _ trivial (fun hHeld => ?_)
            clear hK K
            (try simp only [Act.put, List.setIfInBounds_toArray, List.set_cons_zero, List.set_cons_succ])
            have hbbI22 : w1.heap.size ≤ wI5.heap.size := HSa6.out.2.1.size
            generalize wI5.heap.size = bI22 at HAa20 hbbI22 ⊢
            generalize wI5.alloc (.cells #[.string ⟨#[]⟩, .string ⟨#[110, 111]⟩] 9) = wI23 at HSa19 HAa20 HAa21 ⊢
            refine wpAnyH_ready (rs := [6, 9]) (by kernel_rfl) (by simp) ?_
            refine AllReadyH.cons rfl (fun K hK => ?_) (AllReadyH.cons rfl (fun K hK => ?_) AllReadyH.nil)
            · skip
              rw [if_pos (by rfl)]
              go_simp
              obtain ⟨nI24, hn4⟩ := four_at HAa21.out hj2
              go_simp
              clear hn4
              refine hK.out _ _ trivial (fun hHeld => ?_)
              clear hK K
              (try simp only [Act.put, List.setIfInBounds_toArray, List.set_cons_zero, List.set_cons_succ])
              refine wpAnyH_ready (rs := [9]) (by kernel_rfl) (by simp) ?_
              refine AllReadyH.cons rfl (fun K hK => ?_) AllReadyH.nil
              rw [if_pos (by rfl)]
              go_simp
              go_fit (src_pick w.heap.size w.heap.size bI22 2 100 _ (by omega) (by omega) HSa19.out.1 (by omega) (two_at HAa20.out (by decide) (by decide)))
              rintro e wI25 ⟨_, rfl, ⟨sI27, rfl, hsI27⟩, hSz, hgz⟩
              have HSa26 := Lib.hid (HSa19.out.src hSz hgz hlt)
              have HAa28 := Lib.hid (arr_grown9 HAa21.out hgz (by omega))
              have HAa29 := Lib.hid (arr_grown9 HAa20.out hgz (by omega))
              clear hSz hgz
              refine hK.out _ _ trivial (fun hHeld => ?_)
              clear hK K
              (try simp only [Act.put, List.setIfInBounds_toArray, List.set_cons_zero, List.set_cons_succ])
              refine takeQ (i := 10) (k := 2) (v := .slice p n k) rfl (by rfl) (by kernel_rfl) (by kernel_rfl) (by kernel_rfl) (fun _ _ _ h => h) (by rfl) ?_ hHeld ?_
              · intro w1 hSw; go_simp
              (try simp only [Act.put, List.setIfInBounds_toArray, List.set_cons_zero, List.set_cons_succ])
              refine takeQ (i := 11) (k := 3) (v := .string r) rfl (by rfl) (by kernel_rfl) (by kernel_rfl) (by kernel_rfl) (fun _ _ _ h => h) (by rfl) ?_ hHeld ?_
              · intro w1 hSw; go_simp
              (try simp only [Act.put, List.setIfInBounds_toArray, List.set_cons_zero, List.set_cons_succ])
              refine takeQ (i := 12) (k := 4) (v := .int .i64 nI24) rfl (by rfl) (by kernel_rfl) (by kernel_rfl) (by kernel_rfl) (fun _ _ _ h => h) (by rfl) ?_ hHeld ?_
              · intro w1 hSw; go_simp
              (try simp only [Act.put, List.setIfInBounds_toArray, List.set_cons_zero, List.set_cons_succ])
              refine takeQ (i := 13) (k := 5) (v := .string sI27) rfl (by rfl) (by kernel_rfl) (by kernel_rfl) (by kernel_rfl) (fun _ _ _ h => h) (by rfl) ?_ hHeld ?_
              · intro w1 hSw; go_simp
              (try simp only [Act.put, List.setIfInBounds_toArray, List.set_cons_zero, List.set_cons_succ])
              refine wpAnyH_done (by kernel_rfl) ?_ _
              exact ⟨⟨nI24, sI27, rfl, rfl, rfl, rfl, hsI27, HSa26.out⟩, by simp only [putAll, Act.put, List.setIfInBounds_toArray, List.set_cons_zero, List.set_cons_succ]; rfl⟩
            · skip
              rw [if_pos (by rfl)]
              go_simp
              go_fit (src_pick w.heap.size w.heap.size bI22 2 100 _ (by omega) (by omega) HSa19.out.1 (by omega) (two_at HAa20.out (by decide) (by decide)))
              rintro e wI30 ⟨_, rfl, ⟨sI32, rfl, hsI32⟩, hSz, hgz⟩
              have HSa31 := Lib.hid (HSa19.out.src hSz hgz hlt)
              have HAa33 := Lib.hid (arr_grown9 HAa21.out hgz (by omega))
              have HAa34 := Lib.hid (arr_grown9 HAa20.out hgz (by omega))
              clear hSz hgz
              refine hK.out _ _ trivial (fun hHeld => ?_)
              clear hK K
              (try simp only [Act.put, List.setIfInBounds_toArray, List.set_cons_zero, List.set_cons_succ])
              refine takeQ (i := 10) (k := 2) (v := .slice p n k) rfl (by rfl) (by kernel_rfl) (by kernel_rfl) (by kernel_rfl) (fun _ _ _ h => h) (by rfl) ?_ hHeld ?_
              · intro w1 hSw; go_simp
              (try simp only [Act.put, List.setIfInBounds_toArray, List.set_cons_zero, List.set_cons_succ])
              refine takeQ (i := 11) (k := 3) (v := .string r) rfl (by rfl) (by kernel_rfl) (by kernel_rfl) (by kernel_rfl) (fun _ _ _ h => h) (by rfl) ?_ hHeld ?_
              · intro w1 hSw; go_simp
              (try simp only [Act.put, List.setIfInBounds_toArray, List.set_cons_zero, List.set_cons_succ])
              refine wpAnyH_ready (rs := [6]) (by kernel_rfl) (by simp) ?_
              refine AllReadyH.cons rfl (fun K hK => ?_) AllReadyH.nil
              rw [if_pos (by rfl)]
              go_simp
              obtain ⟨nI35, hn4⟩ := four_at HAa33.out hj2
              go_simp
              clear hn4
              refine hK.out _ _ trivial (fun hHeld => ?_)
              clear hK K
              (try simp only [Act.put, List.setIfInBounds_toArray, List.set_cons_zero, List.set_cons_succ])
              refine takeQ (i := 12) (k := 4) (v := .int .i64 nI35) rfl (by rfl) (by kernel_rfl) (by kernel_rfl) (by kernel_rfl) (fun _ _ _ h => h) (by rfl) ?_ hHeld ?_
              · intro w1 hSw; go_simp
              (try simp only [Act.put, List.setIfInBounds_toArray, List.set_cons_zero, List.set_cons_succ])
              refine takeQ (i := 13) (k := 5) (v := .string sI32) rfl (by rfl) (by kernel_rfl) (by kernel_rfl) (by kernel_rfl) (fun _ _ _ h => h) (by rfl) ?_ hHeld ?_
              · intro w1 hSw; go_simp
              (try simp only [Act.put, List.setIfInBounds_toArray, List.set_cons_zero, List.set_cons_succ])
              refine wpAnyH_done (by kernel_rfl) ?_ _
              exact ⟨⟨nI35, sI32, rfl, rfl, rfl, rfl, hsI32, HSa31.out⟩, by simp only [putAll, Act.put, List.setIfInBounds_toArray, List.set_cons_zero, List.set_cons_succ]; rfl⟩
        · skip
          rw [if_pos (by rfl)]
          go_simp
          have HSa36 := Lib.hid (HSa1.out.on ((Below.refl _ _).alloc (Nat.le_refl _) (.cells #[.string ⟨#[]⟩, .string ⟨#[110, 111]⟩] 9)))
          have HAa37 := Lib.hid (Arr.fresh wI4 9 [.string ⟨#[]⟩, .string ⟨#[110, 111]⟩])
          have HAa38 := Lib.hid ((HAa2.out).alloc (.cells #[.string ⟨#[]⟩, .string ⟨#[110, 111]⟩] 9))
          refine hK.out _ _ trivial (fun hHeld => ?_)
          clear hK K
          (try simp only [Act.put, List.setIfInBounds_toArray, List.set_cons_zero, List.set_cons_succ])
          have hbbI39 : w1.heap.size ≤ wI4.heap.size := HSa1.out.2.1.size
          generalize wI4.heap.size = bI39 at HAa37 hbbI39 ⊢
          generalize wI4.alloc (.cells #[.string ⟨#[]⟩, .string ⟨#[110, 111]⟩] 9) = wI40 at HSa36 HAa37 HAa38 ⊢
          refine wpAnyH_ready (rs := [4]) (by kernel_rfl) (by simp) ?_
          refine AllReadyH.cons rfl (fun K hK => ?_) AllReadyH.nil
          rw [if_pos (by rfl)]
          go_simp
          go_fit (src_n w.heap.size w.heap.size 4 _ (by omega) HSa36.out.1)
          rintro e wI41 ⟨_, rfl, ⟨r2, rfl, h20, h21⟩, hSz, hgz⟩
          have HSa42 := Lib.hid (HSa36.out.src hSz hgz hlt)
          have HAa43 := Lib.hid (arr_grown9 HAa38.out hgz (by omega))
          have HAa44 := Lib.hid (arr_grown9 HAa37.out hgz (by omega))
          clear hSz hgz
          obtain ⟨j2, rfl⟩ : ∃ j2 : Nat, r2 = j2 := ⟨r2.toNat, by omega⟩
          have hj2 : j2 < 4 := by omega
          clear h20 h21
          refine hK.out _ _ trivial (fun hHeld => ?_)
          clear hK K
          (try simp only [Act.put, List.setIfInBounds_toArray, List.set_cons_zero, List.set_cons_succ])
          refine takeQ (i := 5) (k := 22) (v := .pointer (some ⟨bI3, j2, none⟩)) rfl (by rfl) (by kernel_rfl) (by kernel_rfl) (by kernel_rfl) (fun _ _ _ h => h) (by rfl) ?_ hHeld ?_
          · intro w1 hSw; go_simp; (try (intro h9; exact absurd h9 (by omega)))
          (try simp only [Act.put, List.setIfInBounds_toArray, List.set_cons_zero, List.set_cons_succ])
          refine wpAnyH_ready (rs := [6, 9]) (by kernel_rfl) (by simp) ?_
          refine AllReadyH.cons rfl (fun K hK => ?_) (AllReadyH.cons rfl (fun K hK => ?_) AllReadyH.nil)
          · skip
            rw [if_pos (by rfl)]
            go_simp
            obtain ⟨nI45, hn4⟩ := four_at HAa43.out hj2
            go_simp
            clear hn4
            refine hK.out _ _ trivial (fun hHeld => ?_)
            clear hK K
            (try simp only [Act.put, List.setIfInBounds_toArray, List.set_cons_zero, List.set_cons_succ])
            refine wpAnyH_ready (rs := [9]) (by kernel_rfl) (by simp) ?_
            refine AllReadyH.cons rfl (fun K hK => ?_) AllReadyH.nil
            rw [if_pos (by rfl)]
            go_simp
            go_fit (src_pick w.heap.size w.heap.size bI39 2 100 _ (by omega) (by omega) HSa42.out.1 (by omega) (two_at HAa44.out (by decide) (by decide)))
            rintro e wI46 ⟨_, rfl, ⟨sI48, rfl, hsI48⟩, hSz, hgz⟩
            have HSa47 := Lib.hid (HSa42.out.src hSz hgz hlt)
            have HAa49 := Lib.hid (arr_grown9 HAa43.out hgz (by omega))
            have HAa50 := Lib.hid (arr_grown9 HAa44.out hgz (by omega))
            clear hSz hgz
            refine hK.out _ _ trivial (fun hHeld => ?_)
            clear hK K
            (try simp only [Act.put, List.setIfInBounds_toArray, List.set_cons_zero, List.set_cons_succ])
            refine takeQ (i := 10) (k := 2) (v := .slice p n k) rfl (by rfl) (by kernel_rfl) (by kernel_rfl) (by kernel_rfl) (fun _ _ _ h => h) (by rfl) ?_ hHeld ?_
            · intro w1 hSw; go_simp
            (try simp only [Act.put, List.setIfInBounds_toArray, List.set_cons_zero, List.set_cons_succ])
            refine takeQ (i := 11) (k := 3) (v := .string r) rfl (by rfl) (by kernel_rfl) (by kernel_rfl) (by kernel_rfl) (fun _ _ _ h => h) (by rfl) ?_ hHeld ?_
            · intro w1 hSw; go_simp
            (try simp only [Act.put, List.setIfInBounds_toArray, List.set_cons_zero, List.set_cons_succ])
            refine takeQ (i := 12) (k := 4) (v := .int .i64 nI45) rfl (by rfl) (by kernel_rfl) (by kernel_rfl) (by kernel_rfl) (fun _ _ _ h => h) (by rfl) ?_ hHeld ?_
            · intro w1 hSw; go_simp
            (try simp only [Act.put, List.setIfInBounds_toArray, List.set_cons_zero, List.set_cons_succ])
            refine takeQ (i := 13) (k := 5) (v := .string sI48) rfl (by rfl) (by kernel_rfl) (by kernel_rfl) (by kernel_rfl) (fun _ _ _ h => h) (by rfl) ?_ hHeld ?_
            · intro w1 hSw; go_simp
            (try simp only [Act.put, List.setIfInBounds_toArray, List.set_cons_zero, List.set_cons_succ])
            refine wpAnyH_done (by kernel_rfl) ?_ _
            exact ⟨⟨nI45, sI48, rfl, rfl, rfl, rfl, hsI48, HSa47.out⟩, by simp only [putAll, Act.put, List.setIfInBounds_toArray, List.set_cons_zero, List.set_cons_succ]; rfl⟩
          · skip
            rw [if_pos (by rfl)]
            go_simp
            go_fit (src_pick w.heap.size w.heap.size bI39 2 100 _ (by omega) (by omega) HSa42.out.1 (by omega) (two_at HAa44.out (by decide) (by decide)))
            rintro e wI51 ⟨_, rfl, ⟨sI53, rfl, hsI53⟩, hSz, hgz⟩
            have HSa52 := Lib.hid (HSa42.out.src hSz hgz hlt)
            have HAa54 := Lib.hid (arr_grown9 HAa43.out hgz (by omega))
            have HAa55 := Lib.hid (arr_grown9 HAa44.out hgz (by omega))
            clear hSz hgz
            refine hK.out _ _ trivial (fun hHeld => ?_)
            clear hK K
            (try simp only [Act.put, List.setIfInBounds_toArray, List.set_cons_zero, List.set_cons_succ])
            refine takeQ (i := 10) (k := 2) (v := .slice p n k) rfl (by rfl) (by kernel_rfl) (by kernel_rfl) (by kernel_rfl) (fun _ _ _ h => h) (by rfl) ?_ hHeld ?_
            · intro w1 hSw; go_simp
            (try simp only [Act.put, List.setIfInBounds_toArray, List.set_cons_zero, List.set_cons_succ])
            refine takeQ (i := 11) (k := 3) (v := .string r) rfl (by rfl) (by kernel_rfl) (by kernel_rfl) (by kernel_rfl) (fun _ _ _ h => h) (by rfl) ?_ hHeld ?_
            · intro w1 hSw; go_simp
            (try simp only [Act.put, List.setIfInBounds_toArray, List.set_cons_zero, List.set_cons_succ])
            refine wpAnyH_ready (rs := [6]) (by kernel_rfl) (by simp) ?_
            refine AllReadyH.cons rfl (fun K hK => ?_) AllReadyH.nil
            rw [if_pos (by rfl)]
            go_simp
            obtain ⟨nI56, hn4⟩ := four_at HAa54.out hj2
            go_simp
            clear hn4
            refine hK.out _ _ trivial (fun hHeld => ?_)
            clear hK K
            (try simp only [Act.put, List.setIfInBounds_toArray, List.set_cons_zero, List.set_cons_succ])
            refine takeQ (i := 12) (k := 4) (v := .int .i64 nI56) rfl (by rfl) (by kernel_rfl) (by kernel_rfl) (by kernel_rfl) (fun _ _ _ h => h) (by rfl) ?_ hHeld ?_
            · intro w1 hSw; go_simp
            (try simp only [Act.put, List.setIfInBounds_toArray, List.set_cons_zero, List.set_cons_succ])
            refine takeQ (i := 13) (k := 5) (v := .string sI53) rfl (by rfl) (by kernel_rfl) (by kernel_rfl) (by kernel_rfl) (fun _ _ _ h => h) (by rfl) ?_ hHeld ?_
            · intro w1 hSw; go_simp
            (try simp only [Act.put, List.setIfInBounds_toArray, List.set_cons_zero, List.set_cons_succ])
            refine wpAnyH_done (by kernel_rfl) ?_ _
            exact ⟨⟨nI56, sI53, rfl, rfl, rfl, rfl, hsI53, HSa52.out⟩, by simp only [putAll, Act.put, List.setIfInBounds_toArray, List.set_cons_zero, List.set_cons_succ]; rfl⟩
      · skip
        rw [if_pos (by rfl)]
        go_simp
        go_fit (src_n w.heap.size w.heap.size 4 _ (by omega) HS5.out.1)
        rintro e wI57 ⟨_, rfl, ⟨r2, rfl, h20, h21⟩, hSz, hgz⟩
        have HSa58 := Lib.hid (HS5.out.src hSz hgz hlt)
        clear hSz hgz
        obtain ⟨j2, rfl⟩ : ∃ j2 : Nat, r2 = j2 := ⟨r2.toNat, by omega⟩
        have hj2 : j2 < 4 := by omega
        clear h20 h21
        refine hK.out _ _ trivial (fun hHeld => ?_)
        clear hK K
        (try simp only [Act.put, List.setIfInBounds_toArray, List.set_cons_zero, List.set_cons_succ])
        refine wpAnyH_ready (rs := [2, 8]) (by kernel_rfl) (by simp) ?_
        refine AllReadyH.cons rfl (fun K hK => ?_) (AllReadyH.cons rfl (fun K hK => ?_) AllReadyH.nil)
        · skip
          rw [if_pos (by rfl)]
          go_simp
          have HSa59 := Lib.hid (HSa58.out.on ((Below.refl _ _).alloc (Nat.le_refl _) (.cells #[.int .i64 (-129), .int .i64 (-128), .int .i64 127, .int .i64 128] 2)))
          have HAa60 := Lib.hid (Arr.fresh wI57 2 [.int .i64 (-129), .int .i64 (-128), .int .i64 127, .int .i64 128])
          refine hK.out _ _ trivial (fun hHeld => ?_)
          clear hK K
          (try simp only [Act.put, List.setIfInBounds_toArray, List.set_cons_zero, List.set_cons_succ])
          have hbbI61 : w1.heap.size ≤ wI57.heap.size := HSa58.out.2.1.size
          generalize wI57.heap.size = bI61 at HAa60 hbbI61 ⊢
          generalize wI57.alloc (.cells #[.int .i64 (-129), .int .i64 (-128), .int .i64 127, .int .i64 128] 2) = wI62 at HSa59 HAa60 ⊢
          refine takeQ (i := 5) (k := 22) (v := .pointer (some ⟨bI61, j2, none⟩)) rfl (by rfl) (by kernel_rfl) (by kernel_rfl) (by kernel_rfl) (fun _ _ _ h => h) (by rfl) ?_ hHeld ?_
          · intro w1 hSw; go_simp; (try (intro h9; exact absurd h9 (by omega)))
          (try simp only [Act.put, List.setIfInBounds_toArray, List.set_cons_zero, List.set_cons_succ])
          refine wpAnyH_ready (rs := [6, 8]) (by kernel_rfl) (by simp) ?_
          refine AllReadyH.cons rfl (fun K hK => ?_) (AllReadyH.cons rfl (fun K hK => ?_) AllReadyH.nil)
          · skip
            rw [if_pos (by rfl)]
            go_simp
            obtain ⟨nI63, hn4⟩ := four_at HAa60.out hj2
            go_simp
            clear hn4
            refine hK.out _ _ trivial (fun hHeld => ?_)
            clear hK K
            (try simp only [Act.put, List.setIfInBounds_toArray, List.set_cons_zero, List.set_cons_succ])
            refine wpAnyH_ready (rs := [8]) (by kernel_rfl) (by simp) ?_
            refine AllReadyH.cons rfl (fun K hK => ?_) AllReadyH.nil
            rw [if_pos (by rfl)]
            go_simp
            have HSa64 := Lib.hid (HSa59.out.on ((Below.refl _ _).alloc (Nat.le_refl _) (.cells #[.string ⟨#[]⟩, .string ⟨#[110, 111]⟩] 9)))
            have HAa65 := Lib.hid (Arr.fresh wI62 9 [.string ⟨#[]⟩, .string ⟨#[110, 111]⟩])
            have HAa66 := Lib.hid ((HAa60.out).alloc (.cells #[.string ⟨#[]⟩, .string ⟨#[110, 111]⟩] 9))
            refine hK.out _ _ trivial (fun hHeld => ?_)
            clear hK K
            (try simp only [Act.put, List.setIfInBounds_toArray, List.set_cons_zero, List.set_cons_succ])
            have hbbI67 : w1.heap.size ≤ wI62.heap.size := HSa59.out.2.1.size
            generalize wI62.heap.size = bI67 at HAa65 hbbI67 ⊢
            generalize wI62.alloc (.cells #[.string ⟨#[]⟩, .string ⟨#[110, 111]⟩] 9) = wI68 at HSa64 HAa65 HAa66 ⊢
            refine wpAnyH_ready (rs := [9]) (by kernel_rfl) (by simp) ?_
            refine AllReadyH.cons rfl (fun K hK => ?_) AllReadyH.nil
            rw [if_pos (by rfl)]
            go_simp
            go_fit (src_pick w.heap.size w.heap.size bI67 2 100 _ (by omega) (by omega) HSa64.out.1 (by omega) (two_at HAa65.out (by decide) (by decide)))
            rintro e wI69 ⟨_, rfl, ⟨sI71, rfl, hsI71⟩, hSz, hgz⟩
            have HSa70 := Lib.hid (HSa64.out.src hSz hgz hlt)
            have HAa72 := Lib.hid (arr_grown9 HAa66.out hgz (by omega))
            have HAa73 := Lib.hid (arr_grown9 HAa65.out hgz (by omega))
            clear hSz hgz
            refine hK.out _ _ trivial (fun hHeld => ?_)
            clear hK K
            (try simp only [Act.put, List.setIfInBounds_toArray, List.set_cons_zero, List.set_cons_succ])
            refine takeQ (i := 10) (k := 2) (v := .slice p n k) rfl (by rfl) (by kernel_rfl) (by kernel_rfl) (by kernel_rfl) (fun _ _ _ h => h) (by rfl) ?_ hHeld ?_
            · intro w1 hSw; go_simp
            (try simp only [Act.put, List.setIfInBounds_toArray, List.set_cons_zero, List.set_cons_succ])
            refine takeQ (i := 11) (k := 3) (v := .string r) rfl (by rfl) (by kernel_rfl) (by kernel_rfl) (by kernel_rfl) (fun _ _ _ h => h) (by rfl) ?_ hHeld ?_
            · intro w1 hSw; go_simp
            (try simp only [Act.put, List.setIfInBounds_toArray, List.set_cons_zero, List.set_cons_succ])
            refine takeQ (i := 12) (k := 4) (v := .int .i64 nI63) rfl (by rfl) (by kernel_rfl) (by kernel_rfl) (by kernel_rfl) (fun _ _ _ h => h) (by rfl) ?_ hHeld ?_
            · intro w1 hSw; go_simp
            (try simp only [Act.put, List.setIfInBounds_toArray, List.set_cons_zero, List.set_cons_succ])
            refine takeQ (i := 13) (k := 5) (v := .string sI71) rfl (by rfl) (by kernel_rfl) (by kernel_rfl) (by kernel_rfl) (fun _ _ _ h => h) (by rfl) ?_ hHeld ?_
            · intro w1 hSw; go_simp
            (try simp only [Act.put, List.setIfInBounds_toArray, List.set_cons_zero, List.set_cons_succ])
            refine wpAnyH_done (by kernel_rfl) ?_ _
            exact ⟨⟨nI63, sI71, rfl, rfl, rfl, rfl, hsI71, HSa70.out⟩, by simp only [putAll, Act.put, List.setIfInBounds_toArray, List.set_cons_zero, List.set_cons_succ]; rfl⟩
          · skip
            rw [if_pos (by rfl)]
            go_simp
            have HSa74 := Lib.hid (HSa59.out.on ((Below.refl _ _).alloc (Nat.le_refl _) (.cells #[.string ⟨#[]⟩, .string ⟨#[110, 111]⟩] 9)))
            have HAa75 := Lib.hid (Arr.fresh wI62 9 [.string ⟨#[]⟩, .string ⟨#[110, 111]⟩])
            have HAa76 := Lib.hid ((HAa60.out).alloc (.cells #[.string ⟨#[]⟩, .string ⟨#[110, 111]⟩] 9))
            refine hK.out _ _ trivial (fun hHeld => ?_)
            clear hK K
            (try simp only [Act.put, List.setIfInBounds_toArray, List.set_cons_zero, List.set_cons_succ])
            have hbbI77 : w1.heap.size ≤ wI62.heap.size := HSa59.out.2.1.size
            generalize wI62.heap.size = bI77 at HAa75 hbbI77 ⊢
            generalize wI62.alloc (.cells #[.string ⟨#[]⟩, .string ⟨#[110, 111]⟩] 9) = wI78 at HSa74 HAa75 HAa76 ⊢
            refine wpAnyH_ready (rs := [6, 9]) (by kernel_rfl) (by simp) ?_
            refine AllReadyH.cons rfl (fun K hK => ?_) (AllReadyH.cons rfl (fun K hK => ?_) AllReadyH.nil)
            · skip
              rw [if_pos (by rfl)]
              go_simp
              obtain ⟨nI79, hn4⟩ := four_at HAa76.out hj2
              go_simp
              clear hn4
              refine hK.out _ _ trivial (fun hHeld => ?_)
              clear hK K
              (try simp only [Act.put, List.setIfInBounds_toArray, List.set_cons_zero, List.set_cons_succ])
              refine wpAnyH_ready (rs := [9]) (by kernel_rfl) (by simp) ?_
              refine AllReadyH.cons rfl (fun K hK => ?_) AllReadyH.nil
              rw [if_pos (by rfl)]
              go_simp
              go_fit (src_pick w.heap.size w.heap.size bI77 2 100 _ (by omega) (by omega) HSa74.out.1 (by omega) (two_at HAa75.out (by decide) (by decide)))
              rintro e wI80 ⟨_, rfl, ⟨sI82, rfl, hsI82⟩, hSz, hgz⟩
              have HSa81 := Lib.hid (HSa74.out.src hSz hgz hlt)
              have HAa83 := Lib.hid (arr_grown9 HAa76.out hgz (by omega))
              have HAa84 := Lib.hid (arr_grown9 HAa75.out hgz (by omega))
              clear hSz hgz
              refine hK.out _ _ trivial (fun hHeld => ?_)
              clear hK K
              (try simp only [Act.put, List.setIfInBounds_toArray, List.set_cons_zero, List.set_cons_succ])
              refine takeQ (i := 10) (k := 2) (v := .slice p n k) rfl (by rfl) (by kernel_rfl) (by kernel_rfl) (by kernel_rfl) (fun _ _ _ h => h) (by rfl) ?_ hHeld ?_
              · intro w1 hSw; go_simp
              (try simp only [Act.put, List.setIfInBounds_toArray, List.set_cons_zero, List.set_cons_succ])
              refine takeQ (i := 11) (k := 3) (v := .string r) rfl (by rfl) (by kernel_rfl) (by kernel_rfl) (by kernel_rfl) (fun _ _ _ h => h) (by rfl) ?_ hHeld ?_
              · intro w1 hSw; go_simp
              (try simp only [Act.put, List.setIfInBounds_toArray, List.set_cons_zero, List.set_cons_succ])
              refine takeQ (i := 12) (k := 4) (v := .int .i64 nI79) rfl (by rfl) (by kernel_rfl) (by kernel_rfl) (by kernel_rfl) (fun _ _ _ h => h) (by rfl) ?_ hHeld ?_
              · intro w1 hSw; go_simp
              (try simp only [Act.put, List.setIfInBounds_toArray, List.set_cons_zero, List.set_cons_succ])
              refine takeQ (i := 13) (k := 5) (v := .string sI82) rfl (by rfl) (by kernel_rfl) (by kernel_rfl) (by kernel_rfl) (fun _ _ _ h => h) (by rfl) ?_ hHeld ?_
              · intro w1 hSw; go_simp
              (try simp only [Act.put, List.setIfInBounds_toArray, List.set_cons_zero, List.set_cons_succ])
              refine wpAnyH_done (by kernel_rfl) ?_ _
              exact ⟨⟨nI79, sI82, rfl, rfl, rfl, rfl, hsI82, HSa81.out⟩, by simp only [putAll, Act.put, List.setIfInBounds_toArray, List.set_cons_zero, List.set_cons_succ]; rfl⟩
            · skip
              rw [if_pos (by rfl)]
              go_simp
              go_fit (src_pick w.heap.size w.heap.size bI77 2 100 _ (by omega) (by omega) HSa74.out.1 (by omega) (two_at HAa75.out (by decide) (by decide)))
              rintro e wI85 ⟨_, rfl, ⟨sI87, rfl, hsI87⟩, hSz, hgz⟩
              have HSa86 := Lib.hid (HSa74.out.src hSz hgz hlt)
              have HAa88 := Lib.hid (arr_grown9 HAa76.out hgz (by omega))
              have HAa89 := Lib.hid (arr_grown9 HAa75.out hgz (by omega))
              clear hSz hgz
              refine hK.out _ _ trivial (fun hHeld => ?_)
              clear hK K
              (try simp only [Act.put, List.setIfInBounds_toArray, List.set_cons_zero, List.set_cons_succ])
              refine takeQ (i := 10) (k := 2) (v := .slice p n k) rfl (by rfl) (by kernel_rfl) (by kernel_rfl) (by kernel_rfl) (fun _ _ _ h => h) (by rfl) ?_ hHeld ?_
              · intro w1 hSw; go_simp
              (try simp only [Act.put, List.setIfInBounds_toArray, List.set_cons_zero, List.set_cons_succ])
              refine takeQ (i := 11) (k := 3) (v := .string r) rfl (by rfl) (by kernel_rfl) (by kernel_rfl) (by kernel_rfl) (fun _ _ _ h => h) (by rfl) ?_ hHeld ?_
              · intro w1 hSw; go_simp
              (try simp only [Act.put, List.setIfInBounds_toArray, List.set_cons_zero, List.set_cons_succ])
              refine wpAnyH_ready (rs := [6]) (by kernel_rfl) (by simp) ?_
              refine AllReadyH.cons rfl (fun K hK => ?_) AllReadyH.nil
              rw [if_pos (by rfl)]
              go_simp
              obtain ⟨nI90, hn4⟩ := four_at HAa88.out hj2
              go_simp
              clear hn4
              refine hK.out _ _ trivial (fun hHeld => ?_)
              clear hK K
              (try simp only [Act.put, List.setIfInBounds_toArray, List.set_cons_zero, List.set_cons_succ])
              refine takeQ (i := 12) (k := 4) (v := .int .i64 nI90) rfl (by rfl) (by kernel_rfl) (by kernel_rfl) (by kernel_rfl) (fun _ _ _ h => h) (by rfl) ?_ hHeld ?_
              · intro w1 hSw; go_simp
              (try simp only [Act.put, List.setIfInBounds_toArray, List.set_cons_zero, List.set_cons_succ])
              refine takeQ (i := 13) (k := 5) (v := .string sI87) rfl (by rfl) (by kernel_rfl) (by kernel_rfl) (by kernel_rfl) (fun _ _ _ h => h) (by rfl) ?_ hHeld ?_
              · intro w1 hSw; go_simp
              (try simp only [Act.put, List.setIfInBounds_toArray, List.set_cons_zero, List.set_cons_succ])
              refine wpAnyH_done (by kernel_rfl) ?_ _
              exact ⟨⟨nI90, sI87, rfl, rfl, rfl, rfl, hsI87, HSa86.out⟩, by simp only [putAll, Act.put, List.setIfInBounds_toArray, List.set_cons_zero, List.set_cons_succ]; rfl⟩
        · skip
          rw [if_pos (by rfl)]
          go_simp
          have HSa91 := Lib.hid (HSa58.out.on ((Below.refl _ _).alloc (Nat.le_refl _) (.cells #[.string ⟨#[]⟩, .string ⟨#[110, 111]⟩] 9)))
          have HAa92 := Lib.hid (Arr.fresh wI57 9 [.string ⟨#[]⟩, .string ⟨#[110, 111]⟩])
          refine hK.out _ _ trivial (fun hHeld => ?_)
          clear hK K
          (try simp only [Act.put, List.setIfInBounds_toArray, List.set_cons_zero, List.set_cons_succ])
          have hbbI93 : w1.heap.size ≤ wI57.heap.size := HSa58.out.2.1.size
          generalize wI57.heap.size = bI93 at HAa92 hbbI93 ⊢
          generalize wI57.alloc (.cells #[.string ⟨#[]⟩, .string ⟨#[110, 111]⟩] 9) = wI94 at HSa91 HAa92 ⊢
          refine wpAnyH_ready (rs := [2, 9]) (by kernel_rfl) (by simp) ?_
          refine AllReadyH.cons rfl (fun K hK => ?_) (AllReadyH.cons rfl (fun K hK => ?_) AllReadyH.nil)
          · skip
            rw [if_pos (by rfl)]
            go_simp
            have HSa95 := Lib.hid (HSa91.out.on ((Below.refl _ _).alloc (Nat.le_refl _) (.cells #[.int .i64 (-129), .int .i64 (-128), .int .i64 127, .int .i64 128] 2)))
            have HAa96 := Lib.hid (Arr.fresh wI94 2 [.int .i64 (-129), .int .i64 (-128), .int .i64 127, .int .i64 128])
            have HAa97 := Lib.hid ((HAa92.out).alloc (.cells #[.int .i64 (-129), .int .i64 (-128), .int .i64 127, .int .i64 128] 2))
            refine hK.out _ _ trivial (fun hHeld => ?_)
            clear hK K
            (try simp only [Act.put, List.setIfInBounds_toArray, List.set_cons_zero, List.set_cons_succ])
            have hbbI98 : w1.heap.size ≤ wI94.heap.size := HSa91.out.2.1.size
            generalize wI94.heap.size = bI98 at HAa96 hbbI98 ⊢
            generalize wI94.alloc (.cells #[.int .i64 (-129), .int .i64 (-128), .int .i64 127, .int .i64 128] 2) = wI99 at HSa95 HAa96 HAa97 ⊢
            refine takeQ (i := 5) (k := 22) (v := .pointer (some ⟨bI98, j2, none⟩)) rfl (by rfl) (by kernel_rfl) (by kernel_rfl) (by kernel_rfl) (fun _ _ _ h => h) (by rfl) ?_ hHeld ?_
            · intro w1 hSw; go_simp; (try (intro h9; exact absurd h9 (by omega)))
            (try simp only [Act.put, List.setIfInBounds_toArray, List.set_cons_zero, List.set_cons_succ])
            refine wpAnyH_ready (rs := [6, 9]) (by kernel_rfl) (by simp) ?_
            refine AllReadyH.cons rfl (fun K hK => ?_) (AllReadyH.cons rfl (fun K hK => ?_) AllReadyH.nil)
            · skip
              rw [if_pos (by rfl)]
              go_simp
              obtain ⟨nI100, hn4⟩ := four_at HAa96.out hj2
              go_simp
              clear hn4
              refine hK.out _ _ trivial (fun hHeld => ?_)
              clear hK K
              (try simp only [Act.put, List.setIfInBounds_toArray, List.set_cons_zero, List.set_cons_succ])
              refine wpAnyH_ready (rs := [9]) (by kernel_rfl) (by simp) ?_
              refine AllReadyH.cons rfl (fun K hK => ?_) AllReadyH.nil
              rw [if_pos (by rfl)]
              go_simp
              go_fit (src_pick w.heap.size w.heap.size bI93 2 100 _ (by omega) (by omega) HSa95.out.1 (by omega) (two_at HAa97.out (by decide) (by decide)))
              rintro e wI101 ⟨_, rfl, ⟨sI103, rfl, hsI103⟩, hSz, hgz⟩
              have HSa102 := Lib.hid (HSa95.out.src hSz hgz hlt)
              have HAa104 := Lib.hid (arr_grown9 HAa96.out hgz (by omega))
              have HAa105 := Lib.hid (arr_grown9 HAa97.out hgz (by omega))
              clear hSz hgz
              refine hK.out _ _ trivial (fun hHeld => ?_)
              clear hK K
              (try simp only [Act.put, List.setIfInBounds_toArray, List.set_cons_zero, List.set_cons_succ])
              refine takeQ (i := 10) (k := 2) (v := .slice p n k) rfl (by rfl) (by kernel_rfl) (by kernel_rfl) (by kernel_rfl) (fun _ _ _ h => h) (by rfl) ?_ hHeld ?_
              · intro w1 hSw; go_simp
              (try simp only [Act.put, List.setIfInBounds_toArray, List.set_cons_zero, List.set_cons_succ])
              refine takeQ (i := 11) (k := 3) (v := .string r) rfl (by rfl) (by kernel_rfl) (by kernel_rfl) (by kernel_rfl) (fun _ _ _ h => h) (by rfl) ?_ hHeld ?_
              · intro w1 hSw; go_simp
              (try simp only [Act.put, List.setIfInBounds_toArray, List.set_cons_zero, List.set_cons_succ])
              refine takeQ (i := 12) (k := 4) (v := .int .i64 nI100) rfl (by rfl) (by kernel_rfl) (by kernel_rfl) (by kernel_rfl) (fun _ _ _ h => h) (by rfl) ?_ hHeld ?_
              · intro w1 hSw; go_simp
              (try simp only [Act.put, List.setIfInBounds_toArray, List.set_cons_zero, List.set_cons_succ])
              refine takeQ (i := 13) (k := 5) (v := .string sI103) rfl (by rfl) (by kernel_rfl) (by kernel_rfl) (by kernel_rfl) (fun _ _ _ h => h) (by rfl) ?_ hHeld ?_
              · intro w1 hSw; go_simp
              (try simp only [Act.put, List.setIfInBounds_toArray, List.set_cons_zero, List.set_cons_succ])
              refine wpAnyH_done (by kernel_rfl) ?_ _
              exact ⟨⟨nI100, sI103, rfl, rfl, rfl, rfl, hsI103, HSa102.out⟩, by simp only [putAll, Act.put, List.setIfInBounds_toArray, List.set_cons_zero, List.set_cons_succ]; rfl⟩
            · skip
              rw [if_pos (by rfl)]
              go_simp
              go_fit (src_pick w.heap.size w.heap.size bI93 2 100 _ (by omega) (by omega) HSa95.out.1 (by omega) (two_at HAa97.out (by decide) (by decide)))
              rintro e wI106 ⟨_, rfl, ⟨sI108, rfl, hsI108⟩, hSz, hgz⟩
              have HSa107 := Lib.hid (HSa95.out.src hSz hgz hlt)
              have HAa109 := Lib.hid (arr_grown9 HAa96.out hgz (by omega))
              have HAa110 := Lib.hid (arr_grown9 HAa97.out hgz (by omega))
              clear hSz hgz
              refine hK.out _ _ trivial (fun hHeld => ?_)
              clear hK K
              (try simp only [Act.put, List.setIfInBounds_toArray, List.set_cons_zero, List.set_cons_succ])
              refine takeQ (i := 10) (k := 2) (v := .slice p n k) rfl (by rfl) (by kernel_rfl) (by kernel_rfl) (by kernel_rfl) (fun _ _ _ h => h) (by rfl) ?_ hHeld ?_
              · intro w1 hSw; go_simp
              (try simp only [Act.put, List.setIfInBounds_toArray, List.set_cons_zero, List.set_cons_succ])
              refine takeQ (i := 11) (k := 3) (v := .string r) rfl (by rfl) (by kernel_rfl) (by kernel_rfl) (by kernel_rfl) (fun _ _ _ h => h) (by rfl) ?_ hHeld ?_
              · intro w1 hSw; go_simp
              (try simp only [Act.put, List.setIfInBounds_toArray, List.set_cons_zero, List.set_cons_succ])
              refine wpAnyH_ready (rs := [6]) (by kernel_rfl) (by simp) ?_
              refine AllReadyH.cons rfl (fun K hK => ?_) AllReadyH.nil
              rw [if_pos (by rfl)]
              go_simp
              obtain ⟨nI111, hn4⟩ := four_at HAa109.out hj2
              go_simp
              clear hn4
              refine hK.out _ _ trivial (fun hHeld => ?_)
              clear hK K
              (try simp only [Act.put, List.setIfInBounds_toArray, List.set_cons_zero, List.set_cons_succ])
              refine takeQ (i := 12) (k := 4) (v := .int .i64 nI111) rfl (by rfl) (by kernel_rfl) (by kernel_rfl) (by kernel_rfl) (fun _ _ _ h => h) (by rfl) ?_ hHeld ?_
              · intro w1 hSw; go_simp
              (try simp only [Act.put, List.setIfInBounds_toArray, List.set_cons_zero, List.set_cons_succ])
              refine takeQ (i := 13) (k := 5) (v := .string sI108) rfl (by rfl) (by kernel_rfl) (by kernel_rfl) (by kernel_rfl) (fun _ _ _ h => h) (by rfl) ?_ hHeld ?_
              · intro w1 hSw; go_simp
              (try simp only [Act.put, List.setIfInBounds_toArray, List.set_cons_zero, List.set_cons_succ])
              refine wpAnyH_done (by kernel_rfl) ?_ _
              exact ⟨⟨nI111, sI108, rfl, rfl, rfl, rfl, hsI108, HSa107.out⟩, by simp only [putAll, Act.put, List.setIfInBounds_toArray, List.set_cons_zero, List.set_cons_succ]; rfl⟩
          · skip
            rw [if_pos (by rfl)]
            go_simp
            go_fit (src_pick w.heap.size w.heap.size bI93 2 100 _ (by omega) (by omega) HSa91.out.1 (by omega) (two_at HAa92.out (by decide) (by decide)))
            rintro e wI112 ⟨_, rfl, ⟨sI114, rfl, hsI114⟩, hSz, hgz⟩
            have HSa113 := Lib.hid (HSa91.out.src hSz hgz hlt)
            have HAa115 := Lib.hid (arr_grown9 HAa92.out hgz (by omega))
            clear hSz hgz
            refine hK.out _ _ trivial (fun hHeld => ?_)
            clear hK K
            (try simp only [Act.put, List.setIfInBounds_toArray, List.set_cons_zero, List.set_cons_succ])
            refine takeQ (i := 10) (k := 2) (v := .slice p n k) rfl (by rfl) (by kernel_rfl) (by kernel_rfl) (by kernel_rfl) (fun _ _ _ h => h) (by rfl) ?_ hHeld ?_
            · intro w1 hSw; go_simp
            (try simp only [Act.put, List.setIfInBounds_toArray, List.set_cons_zero, List.set_cons_succ])
            refine takeQ (i := 11) (k := 3) (v := .string r) rfl (by rfl) (by kernel_rfl) (by kernel_rfl) (by kernel_rfl) (fun _ _ _ h => h) (by rfl) ?_ hHeld ?_
            · intro w1 hSw; go_simp
            (try simp only [Act.put, List.setIfInBounds_toArray, List.set_cons_zero, List.set_cons_succ])
            refine wpAnyH_ready (rs := [2]) (by kernel_rfl) (by simp) ?_
            refine AllReadyH.cons rfl (fun K hK => ?_) AllReadyH.nil
            rw [if_pos (by rfl)]
            go_simp
            have HSa116 := Lib.hid (HSa113.out.on ((Below.refl _ _).alloc (Nat.le_refl _) (.cells #[.int .i64 (-129), .int .i64 (-128), .int .i64 127, .int .i64 128] 2)))
            have HAa117 := Lib.hid (Arr.fresh wI112 2 [.int .i64 (-129), .int .i64 (-128), .int .i64 127, .int .i64 128])
            have HAa118 := Lib.hid ((HAa115.out).alloc (.cells #[.int .i64 (-129), .int .i64 (-128), .int .i64 127, .int .i64 128] 2))
            refine hK.out _ _ trivial (fun hHeld => ?_)
            clear hK K
            (try simp only [Act.put, List.setIfInBounds_toArray, List.set_cons_zero, List.set_cons_succ])
            have hbbI119 : w1.heap.size ≤ wI112.heap.size := HSa113.out.2.1.size
            generalize wI112.heap.size = bI119 at HAa117 hbbI119 ⊢
            generalize wI112.alloc (.cells #[.int .i64 (-129), .int .i64 (-128), .int .i64 127, .int .i64 128] 2) = wI120 at HSa116 HAa117 HAa118 ⊢
            refine takeQ (i := 5) (k := 22) (v := .pointer (some ⟨bI119, j2, none⟩)) rfl (by rfl) (by kernel_rfl) (by kernel_rfl) (by kernel_rfl) (fun _ _ _ h => h) (by rfl) ?_ hHeld ?_
            · intro w1 hSw; go_simp; (try (intro h9; exact absurd h9 (by omega)))
            (try simp only [Act.put, List.setIfInBounds_toArray, List.set_cons_zero, List.set_cons_succ])
            refine wpAnyH_ready (rs := [6]) (by kernel_rfl) (by simp) ?_
            refine AllReadyH.cons rfl (fun K hK => ?_) AllReadyH.nil
            rw [if_pos (by rfl)]
            go_simp
            obtain ⟨nI121, hn4⟩ := four_at HAa117.out hj2
            go_simp
            clear hn4
            refine hK.out _ _ trivial (fun hHeld => ?_)
            clear hK K
            (try simp only [Act.put, List.setIfInBounds_toArray, List.set_cons_zero, List.set_cons_succ])
            refine takeQ (i := 12) (k := 4) (v := .int .i64 nI121) rfl (by rfl) (by kernel_rfl) (by kernel_rfl) (by kernel_rfl) (fun _ _ _ h => h) (by rfl) ?_ hHeld ?_
            · intro w1 hSw; go_simp
            (try simp only [Act.put, List.setIfInBounds_toArray, List.set_cons_zero, List.set_cons_succ])
            refine takeQ (i := 13) (k := 5) (v := .string sI114) rfl (by rfl) (by kernel_rfl) (by kernel_rfl) (by kernel_rfl) (fun _ _ _ h => h) (by rfl) ?_ hHeld ?_
            · intro w1 hSw; go_simp
            (try simp only [Act.put, List.setIfInBounds_toArray, List.set_cons_zero, List.set_cons_succ])
            refine wpAnyH_done (by kernel_rfl) ?_ _
            exact ⟨⟨nI121, sI114, rfl, rfl, rfl, rfl, hsI114, HSa116.out⟩, by simp only [putAll, Act.put, List.setIfInBounds_toArray, List.set_cons_zero, List.set_cons_succ]; rfl⟩
      · skip
        rw [if_pos (by rfl)]
        go_simp
        have HSa122 := Lib.hid (HS5.out.on ((Below.refl _ _).alloc (Nat.le_refl _) (.cells #[.string ⟨#[]⟩, .string ⟨#[110, 111]⟩] 9)))
        have HAa123 := Lib.hid (Arr.fresh wd 9 [.string ⟨#[]⟩, .string ⟨#[110, 111]⟩])
        refine hK.out _ _ trivial (fun hHeld => ?_)
        clear hK K
        (try simp only [Act.put, List.setIfInBounds_toArray, List.set_cons_zero, List.set_cons_succ])
        have hbbI124 : w1.heap.size ≤ wd.heap.size := HS5.out.2.1.size
        generalize wd.heap.size = bI124 at HAa123 hbbI124 ⊢
        generalize wd.alloc (.cells #[.string ⟨#[]⟩, .string ⟨#[110, 111]⟩] 9) = wI125 at HSa122 HAa123 ⊢
        refine wpAnyH_ready (rs := [2, 4]) (by kernel_rfl) (by simp) ?_
        refine AllReadyH.cons rfl (fun K hK => ?_) (AllReadyH.cons rfl (fun K hK => ?_) AllReadyH.nil)
        · skip
          rw [if_pos (by rfl)]
          go_simp
          have HSa126 := Lib.hid (HSa122.out.on ((Below.refl _ _).alloc (Nat.le_refl _) (.cells #[.int .i64 (-129), .int .i64 (-128), .int .i64 127, .int .i64 128] 2)))
          have HAa127 := Lib.hid (Arr.fresh wI125 2 [.int .i64 (-129), .int .i64 (-128), .int .i64 127, .int .i64 128])
          have HAa128 := Lib.hid ((HAa123.out).alloc (.cells #[.int .i64 (-129), .int .i64 (-128), .int .i64 127, .int .i64 128] 2))
          refine hK.out _ _ trivial (fun hHeld => ?_)
          clear hK K
          (try simp only [Act.put, List.setIfInBounds_toArray, List.set_cons_zero, List.set_cons_succ])
          have hbbI129 : w1.heap.size ≤ wI125.heap.size := HSa122.out.2.1.size
          generalize wI125.heap.size = bI129 at HAa127 hbbI129 ⊢
          generalize wI125.alloc (.cells #[.int .i64 (-129), .int .i64 (-128), .int .i64 127, .int .i64 128] 2) = wI130 at HSa126 HAa127 HAa128 ⊢
          refine wpAnyH_ready (rs := [4]) (by kernel_rfl) (by simp) ?_
          refine AllReadyH.cons rfl (fun K hK => ?_) AllReadyH.nil
          rw [if_pos (by rfl)]
          go_simp
          go_fit (src_n w.heap.size w.heap.size 4 _ (by omega) HSa126.out.1)
          rintro e wI131 ⟨_, rfl, ⟨r2, rfl, h20, h21⟩, hSz, hgz⟩
          have HSa132 := Lib.hid (HSa126.out.src hSz hgz hlt)
          have HAa133 := Lib.hid (arr_grown9 HAa127.out hgz (by omega))
          have HAa134 := Lib.hid (arr_grown9 HAa128.out hgz (by omega))
          clear hSz hgz
          obtain ⟨j2, rfl⟩ : ∃ j2 : Nat, r2 = j2 := ⟨r2.toNat, by omega⟩
          have hj2 : j2 < 4 := by omega
          clear h20 h21
          refine hK.out _ _ trivial (fun hHeld => ?_)
          clear hK K
          (try simp only [Act.put, List.setIfInBounds_toArray, List.set_cons_zero, List.set_cons_succ])
          refine takeQ (i := 5) (k := 22) (v := .pointer (some ⟨bI129, j2, none⟩)) rfl (by rfl) (by kernel_rfl) (by kernel_rfl) (by kernel_rfl) (fun _ _ _ h => h) (by rfl) ?_ hHeld ?_
          · intro w1 hSw; go_simp; (try (intro h9; exact absurd h9 (by omega)))
          (try simp only [Act.put, List.setIfInBounds_toArray, List.set_cons_zero, List.set_cons_succ])
          refine wpAnyH_ready (rs := [6, 9]) (by kernel_rfl) (by simp) ?_
          refine AllReadyH.cons rfl (fun K hK => ?_) (AllReadyH.cons rfl (fun K hK => ?_) AllReadyH.nil)
          · skip
            rw [if_pos (by rfl)]
            go_simp
            obtain ⟨nI135, hn4⟩ := four_at HAa133.out hj2
            go_simp
            clear hn4
            refine hK.out _ _ trivial (fun hHeld => ?_)
            clear hK K
            (try simp only [Act.put, List.setIfInBounds_toArray, List.set_cons_zero, List.set_cons_succ])
            refine wpAnyH_ready (rs := [9]) (by kernel_rfl) (by simp) ?_
            refine AllReadyH.cons rfl (fun K hK => ?_) AllReadyH.nil
            rw [if_pos (by rfl)]
            go_simp
            go_fit (src_pick w.heap.size w.heap.size bI124 2 100 _ (by omega) (by omega) HSa132.out.1 (by omega) (two_at HAa134.out (by decide) (by decide)))
            rintro e wI136 ⟨_, rfl, ⟨sI138, rfl, hsI138⟩, hSz, hgz⟩
            have HSa137 := Lib.hid (HSa132.out.src hSz hgz hlt)
            have HAa139 := Lib.hid (arr_grown9 HAa133.out hgz (by omega))
            have HAa140 := Lib.hid (arr_grown9 HAa134.out hgz (by omega))
            clear hSz hgz
            refine hK.out _ _ trivial (fun hHeld => ?_)
            clear hK K
            (try simp only [Act.put, List.setIfInBounds_toArray, List.set_cons_zero, List.set_cons_succ])
            refine takeQ (i := 10) (k := 2) (v := .slice p n k) rfl (by rfl) (by kernel_rfl) (by kernel_rfl) (by kernel_rfl) (fun _ _ _ h => h) (by rfl) ?_ hHeld ?_
            · intro w1 hSw; go_simp
            (try simp only [Act.put, List.setIfInBounds_toArray, List.set_cons_zero, List.set_cons_succ])
            refine takeQ (i := 11) (k := 3) (v := .string r) rfl (by rfl) (by kernel_rfl) (by kernel_rfl) (by kernel_rfl) (fun _ _ _ h => h) (by rfl) ?_ hHeld ?_
            · intro w1 hSw; go_simp
            (try simp only [Act.put, List.setIfInBounds_toArray, List.set_cons_zero, List.set_cons_succ])
            refine takeQ (i := 12) (k := 4) (v := .int .i64 nI135) rfl (by rfl) (by kernel_rfl) (by kernel_rfl) (by kernel_rfl) (fun _ _ _ h => h) (by rfl) ?_ hHeld ?_
            · intro w1 hSw; go_simp
            (try simp only [Act.put, List.setIfInBounds_toArray, List.set_cons_zero, List.set_cons_succ])
            refine takeQ (i := 13) (k := 5) (v := .string sI138) rfl (by rfl) (by kernel_rfl) (by kernel_rfl) (by kernel_rfl) (fun _ _ _ h => h) (by rfl) ?_ hHeld ?_
            · intro w1 hSw; go_simp
            (try simp only [Act.put, List.setIfInBounds_toArray, List.set_cons_zero, List.set_cons_succ])
            refine wpAnyH_done (by kernel_rfl) ?_ _
            exact ⟨⟨nI135, sI138, rfl, rfl, rfl, rfl, hsI138, HSa137.out⟩, by simp only [putAll, Act.put, List.setIfInBounds_toArray, List.set_cons_zero, List.set_cons_succ]; rfl⟩
          · skip
            rw [if_pos (by rfl)]
            go_simp
            go_fit (src_pick w.heap.size w.heap.size bI124 2 100 _ (by omega) (by omega) HSa132.out.1 (by omega) (two_at HAa134.out (by decide) (by decide)))
            rintro e wI141 ⟨_, rfl, ⟨sI143, rfl, hsI143⟩, hSz, hgz⟩
            have HSa142 := Lib.hid (HSa132.out.src hSz hgz hlt)
            have HAa144 := Lib.hid (arr_grown9 HAa133.out hgz (by omega))
            have HAa145 := Lib.hid (arr_grown9 HAa134.out hgz (by omega))
            clear hSz hgz
            refine hK.out _ _ trivial (fun hHeld => ?_)
            clear hK K
            (try simp only [Act.put, List.setIfInBounds_toArray, List.set_cons_zero, List.set_cons_succ])
            refine takeQ (i := 10) (k := 2) (v := .slice p n k) rfl (by rfl) (by kernel_rfl) (by kernel_rfl) (by kernel_rfl) (fun _ _ _ h => h) (by rfl) ?_ hHeld ?_
            · intro w1 hSw; go_simp
            (try simp only [Act.put, List.setIfInBounds_toArray, List.set_cons_zero, List.set_cons_succ])
            refine takeQ (i := 11) (k := 3) (v := .string r) rfl (by rfl) (by kernel_rfl) (by kernel_rfl) (by kernel_rfl) (fun _ _ _ h => h) (by rfl) ?_ hHeld ?_
            · intro w1 hSw; go_simp
            (try simp only [Act.put, List.setIfInBounds_toArray, List.set_cons_zero, List.set_cons_succ])
            refine wpAnyH_ready (rs := [6]) (by kernel_rfl) (by simp) ?_
            refine AllReadyH.cons rfl (fun K hK => ?_) AllReadyH.nil
            rw [if_pos (by rfl)]
            go_simp
            obtain ⟨nI146, hn4⟩ := four_at HAa144.out hj2
            go_simp
            clear hn4
            refine hK.out _ _ trivial (fun hHeld => ?_)
            clear hK K
            (try simp only [Act.put, List.setIfInBounds_toArray, List.set_cons_zero, List.set_cons_succ])
            refine takeQ (i := 12) (k := 4) (v := .int .i64 nI146) rfl (by rfl) (by kernel_rfl) (by kernel_rfl) (by kernel_rfl) (fun _ _ _ h => h) (by rfl) ?_ hHeld ?_
            · intro w1 hSw; go_simp
            (try simp only [Act.put, List.setIfInBounds_toArray, List.set_cons_zero, List.set_cons_succ])
            refine takeQ (i := 13) (k := 5) (v := .string sI143) rfl (by rfl) (by kernel_rfl) (by kernel_rfl) (by kernel_rfl) (fun _ _ _ h => h) (by rfl) ?_ hHeld ?_
            · intro w1 hSw; go_simp
            (try simp only [Act.put, List.setIfInBounds_toArray, List.set_cons_zero, List.set_cons_succ])
            refine wpAnyH_done (by kernel_rfl) ?_ _
            exact ⟨⟨nI146, sI143, rfl, rfl, rfl, rfl, hsI143, HSa142.out⟩, by simp only [putAll, Act.put, List.setIfInBounds_toArray, List.set_cons_zero, List.set_cons_succ]; rfl⟩
        · skip
          rw [if_pos (by rfl)]
          go_simp
          go_fit (src_n w.heap.size w.heap.size 4 _ (by omega) HSa122.out.1)
          rintro e wI147 ⟨_, rfl, ⟨r2, rfl, h20, h21⟩, hSz, hgz⟩
          have HSa148 := Lib.hid (HSa122.out.src hSz hgz hlt)
          have HAa149 := Lib.hid (arr_grown9 HAa123.out hgz (by omega))
          clear hSz hgz
          obtain ⟨j2, rfl⟩ : ∃ j2 : Nat, r2 = j2 := ⟨r2.toNat, by omega⟩
          have hj2 : j2 < 4 := by omega
          clear h20 h21
          refine hK.out _ _ trivial (fun hHeld => ?_)
          clear hK K
          (try simp only [Act.put, List.setIfInBounds_toArray, List.set_cons_zero, List.set_cons_succ])
          refine wpAnyH_ready (rs := [2, 9]) (by kernel_rfl) (by simp) ?_
          refine AllReadyH.cons rfl (fun K hK => ?_) (AllReadyH.cons rfl (fun K hK => ?_) AllReadyH.nil)
          · skip
            rw [if_pos (by rfl)]
            go_simp
            have HSa150 := Lib.hid (HSa148.out.on ((Below.refl _ _).alloc (Nat.le_refl _) (.cells #[.int .i64 (-129), .int .i64 (-128), .int .i64 127, .int .i64 128] 2)))
            have HAa151 := Lib.hid (Arr.fresh wI147 2 [.int .i64 (-129), .int .i64 (-128), .int .i64 127, .int .i64 128])
            have HAa152 := Lib.hid ((HAa149.out).alloc (.cells #[.int .i64 (-129), .int .i64 (-128), .int .i64 127, .int .i64 128] 2))
            refine hK.out _ _ trivial (fun hHeld => ?_)
            clear hK K
            (try simp only [Act.put, List.setIfInBounds_toArray, List.set_cons_zero, List.set_cons_succ])
            have hbbI153 : w1.heap.size ≤ wI147.heap.size := HSa148.out.2.1.size
            generalize wI147.heap.size = bI153 at HAa151 hbbI153 ⊢
            generalize wI147.alloc (.cells #[.int .i64 (-129), .int .i64 (-128), .int .i64 127, .int .i64 128] 2) = wI154 at HSa150 HAa151 HAa152 ⊢
            refine takeQ (i := 5) (k := 22) (v := .pointer (some ⟨bI153, j2, none⟩)) rfl (by rfl) (by kernel_rfl) (by kernel_rfl) (by kernel_rfl) (fun _ _ _ h => h) (by rfl) ?_ hHeld ?_
            · intro w1 hSw; go_simp; (try (intro h9; exact absurd h9 (by omega)))
            (try simp only [Act.put, List.setIfInBounds_toArray, List.set_cons_zero, List.set_cons_succ])
            refine wpAnyH_ready (rs := [6, 9]) (by kernel_rfl) (by simp) ?_
            refine AllReadyH.cons rfl (fun K hK => ?_) (AllReadyH.cons rfl (fun K hK => ?_) AllReadyH.nil)
            · skip
              rw [if_pos (by rfl)]
              go_simp
              obtain ⟨nI155, hn4⟩ := four_at HAa151.out hj2
              go_simp
              clear hn4
              refine hK.out _ _ trivial (fun hHeld => ?_)
              clear hK K
              (try simp only [Act.put, List.setIfInBounds_toArray, List.set_cons_zero, List.set_cons_succ])
              refine wpAnyH_ready (rs := [9]) (by kernel_rfl) (by simp) ?_
              refine AllReadyH.cons rfl (fun K hK => ?_) AllReadyH.nil
              rw [if_pos (by rfl)]
              go_simp
              go_fit (src_pick w.heap.size w.heap.size bI124 2 100 _ (by omega) (by omega) HSa150.out.1 (by omega) (two_at HAa152.out (by decide) (by decide)))
              rintro e wI156 ⟨_, rfl, ⟨sI158, rfl, hsI158⟩, hSz, hgz⟩
              have HSa157 := Lib.hid (HSa150.out.src hSz hgz hlt)
              have HAa159 := Lib.hid (arr_grown9 HAa151.out hgz (by omega))
              have HAa160 := Lib.hid (arr_grown9 HAa152.out hgz (by omega))
              clear hSz hgz
              refine hK.out _ _ trivial (fun hHeld => ?_)
              clear hK K
              (try simp only [Act.put, List.setIfInBounds_toArray, List.set_cons_zero, List.set_cons_succ])
              refine takeQ (i := 10) (k := 2) (v := .slice p n k) rfl (by rfl) (by kernel_rfl) (by kernel_rfl) (by kernel_rfl) (fun _ _ _ h => h) (by rfl) ?_ hHeld ?_
              · intro w1 hSw; go_simp
              (try simp only [Act.put, List.setIfInBounds_toArray, List.set_cons_zero, List.set_cons_succ])
              refine takeQ (i := 11) (k := 3) (v := .string r) rfl (by rfl) (by kernel_rfl) (by kernel_rfl) (by kernel_rfl) (fun _ _ _ h => h) (by rfl) ?_ hHeld ?_
              · intro w1 hSw; go_simp
              (try simp only [Act.put, List.setIfInBounds_toArray, List.set_cons_zero, List.set_cons_succ])
              refine takeQ (i := 12) (k := 4) (v := .int .i64 nI155) rfl (by rfl) (by kernel_rfl) (by kernel_rfl) (by kernel_rfl) (fun _ _ _ h => h) (by rfl) ?_ hHeld ?_
              · intro w1 hSw; go_simp
              (try simp only [Act.put, List.setIfInBounds_toArray, List.set_cons_zero, List.set_cons_succ])
              refine takeQ (i := 13) (k := 5) (v := .string sI158) rfl (by rfl) (by kernel_rfl) (by kernel_rfl) (by kernel_rfl) (fun _ _ _ h => h) (by rfl) ?_ hHeld ?_
              · intro w1 hSw; go_simp
              (try simp only [Act.put, List.setIfInBounds_toArray, List.set_cons_zero, List.set_cons_succ])
              refine wpAnyH_done (by kernel_rfl) ?_ _
              exact ⟨⟨nI155, sI158, rfl, rfl, rfl, rfl, hsI158, HSa157.out⟩, by simp only [putAll, Act.put, List.setIfInBounds_toArray, List.set_cons_zero, List.set_cons_succ]; rfl⟩
            · skip
              rw [if_pos (by rfl)]
              go_simp
              go_fit (src_pick w.heap.size w.heap.size bI124 2 100 _ (by omega) (by omega) HSa150.out.1 (by omega) (two_at HAa152.out (by decide) (by decide)))
              rintro e wI161 ⟨_, rfl, ⟨sI163, rfl, hsI163⟩, hSz, hgz⟩
              have HSa162 := Lib.hid (HSa150.out.src hSz hgz hlt)
              have HAa164 := Lib.hid (arr_grown9 HAa151.out hgz (by omega))
              have HAa165 := Lib.hid (arr_grown9 HAa152.out hgz (by omega))
              clear hSz hgz
              refine hK.out _ _ trivial (fun hHeld => ?_)
              clear hK K
              (try simp only [Act.put, List.setIfInBounds_toArray, List.set_cons_zero, List.set_cons_succ])
              refine takeQ (i := 10) (k := 2) (v := .slice p n k) rfl (by rfl) (by kernel_rfl) (by kernel_rfl) (by kernel_rfl) (fun _ _ _ h => h) (by rfl) ?_ hHeld ?_
              · intro w1 hSw; go_simp
              (try simp only [Act.put, List.setIfInBounds_toArray, List.set_cons_zero, List.set_cons_succ])
              refine takeQ (i := 11) (k := 3) (v := .string r) rfl (by rfl) (by kernel_rfl) (by kernel_rfl) (by kernel_rfl) (fun _ _ _ h => h) (by rfl) ?_ hHeld ?_
              · intro w1 hSw; go_simp
              (try simp only [Act.put, List.setIfInBounds_toArray, List.set_cons_zero, List.set_cons_succ])
              refine wpAnyH_ready (rs := [6]) (by kernel_rfl) (by simp) ?_
              refine AllReadyH.cons rfl (fun K hK => ?_) AllReadyH.nil
              rw [if_pos (by rfl)]
              go_simp
              obtain ⟨nI166, hn4⟩ := four_at HAa164.out hj2
              go_simp
              clear hn4
              refine hK.out _ _ trivial (fun hHeld => ?_)
              clear hK K
              (try simp only [Act.put, List.setIfInBounds_toArray, List.set_cons_zero, List.set_cons_succ])
              refine takeQ (i := 12) (k := 4) (v := .int .i64 nI166) rfl (by rfl) (by kernel_rfl) (by kernel_rfl) (by kernel_rfl) (fun _ _ _ h => h) (by rfl) ?_ hHeld ?_
              · intro w1 hSw; go_simp
              (try simp only [Act.put, List.setIfInBounds_toArray, List.set_cons_zero, List.set_cons_succ])
              refine takeQ (i := 13) (k := 5) (v := .string sI163) rfl (by rfl) (by kernel_rfl) (by kernel_rfl) (by kernel_rfl) (fun _ _ _ h => h) (by rfl) ?_ hHeld ?_
              · intro w1 hSw; go_simp
              (try simp only [Act.put, List.setIfInBounds_toArray, List.set_cons_zero, List.set_cons_succ])
              refine wpAnyH_done (by kernel_rfl) ?_ _
              exact ⟨⟨nI166, sI163, rfl, rfl, rfl, rfl, hsI163, HSa162.out⟩, by simp only [putAll, Act.put, List.setIfInBounds_toArray, List.set_cons_zero, List.set_cons_succ]; rfl⟩
          · skip
            rw [if_pos (by rfl)]
            go_simp
            go_fit (src_pick w.heap.size w.heap.size bI124 2 100 _ (by omega) (by omega) HSa148.out.1 (by omega) (two_at HAa149.out (by decide) (by decide)))
            rintro e wI167 ⟨_, rfl, ⟨sI169, rfl, hsI169⟩, hSz, hgz⟩
            have HSa168 := Lib.hid (HSa148.out.src hSz hgz hlt)
            have HAa170 := Lib.hid (arr_grown9 HAa149.out hgz (by omega))
            clear hSz hgz
            refine hK.out _ _ trivial (fun hHeld => ?_)
            clear hK K
            (try simp only [Act.put, List.setIfInBounds_toArray, List.set_cons_zero, List.set_cons_succ])
            refine takeQ (i := 10) (k := 2) (v := .slice p n k) rfl (by rfl) (by kernel_rfl) (by kernel_rfl) (by kernel_rfl) (fun _ _ _ h => h) (by rfl) ?_ hHeld ?_
            · intro w1 hSw; go_simp
            (try simp only [Act.put, List.setIfInBounds_toArray, List.set_cons_zero, List.set_cons_succ])
            refine takeQ (i := 11) (k := 3) (v := .string r) rfl (by rfl) (by kernel_rfl) (by kernel_rfl) (by kernel_rfl) (fun _ _ _ h => h) (by rfl) ?_ hHeld ?_
            · intro w1 hSw; go_simp
            (try simp only [Act.put, List.setIfInBounds_toArray, List.set_cons_zero, List.set_cons_succ])
            refine wpAnyH_ready (rs := [2]) (by kernel_rfl) (by simp) ?_
            refine AllReadyH.cons rfl (fun K hK => ?_) AllReadyH.nil
            rw [if_pos (by rfl)]
            go_simp
            have HSa171 := Lib.hid (HSa168.out.on ((Below.refl _ _).alloc (Nat.le_refl _) (.cells #[.int .i64 (-129), .int .i64 (-128), .int .i64 127, .int .i64 128] 2)))
            have HAa172 := Lib.hid (Arr.fresh wI167 2 [.int .i64 (-129), .int .i64 (-128), .int .i64 127, .int .i64 128])
            have HAa173 := Lib.hid ((HAa170.out).alloc (.cells #[.int .i64 (-129), .int .i64 (-128), .int .i64 127, .int .i64 128] 2))
            refine hK.out _ _ trivial (fun hHeld => ?_)
            clear hK K
            (try simp only [Act.put, List.setIfInBounds_toArray, List.set_cons_zero, List.set_cons_succ])
            have hbbI174 : w1.heap.size ≤ wI167.heap.size := HSa168.out.2.1.size
            generalize wI167.heap.size = bI174 at HAa172 hbbI174 ⊢
            generalize wI167.alloc (.cells #[.int .i64 (-129), .int .i64 (-128), .int .i64 127, .int .i64 128] 2) = wI175 at HSa171 HAa172 HAa173 ⊢
            refine takeQ (i := 5) (k := 22) (v := .pointer (some ⟨bI174, j2, none⟩)) rfl (by rfl) (by kernel_rfl) (by kernel_rfl) (by kernel_rfl) (fun _ _ _ h => h) (by rfl) ?_ hHeld ?_
            · intro w1 hSw; go_simp; (try (intro h9; exact absurd h9 (by omega)))
            (try simp only [Act.put, List.setIfInBounds_toArray, List.set_cons_zero, List.set_cons_succ])
            refine wpAnyH_ready (rs := [6]) (by kernel_rfl) (by simp) ?_
            refine AllReadyH.cons rfl (fun K hK => ?_) AllReadyH.nil
            rw [if_pos (by rfl)]
            go_simp
            obtain ⟨nI176, hn4⟩ := four_at HAa172.out hj2
            go_simp
            clear hn4
            refine hK.out _ _ trivial (fun hHeld => ?_)
            clear hK K
            (try simp only [Act.put, List.setIfInBounds_toArray, List.set_cons_zero, List.set_cons_succ])
            refine takeQ (i := 12) (k := 4) (v := .int .i64 nI176) rfl (by rfl) (by kernel_rfl) (by kernel_rfl) (by kernel_rfl) (fun _ _ _ h => h) (by rfl) ?_ hHeld ?_
            · intro w1 hSw; go_simp
            (try simp only [Act.put, List.setIfInBounds_toArray, List.set_cons_zero, List.set_cons_succ])
            refine takeQ (i := 13) (k := 5) (v := .string sI169) rfl (by rfl) (by kernel_rfl) (by kernel_rfl) (by kernel_rfl) (fun _ _ _ h => h) (by rfl) ?_ hHeld ?_
            · intro w1 hSw; go_simp
            (try simp only [Act.put, List.setIfInBounds_toArray, List.set_cons_zero, List.set_cons_succ])
            refine wpAnyH_done (by kernel_rfl) ?_ _
            exact ⟨⟨nI176, sI169, rfl, rfl, rfl, rfl, hsI169, HSa171.out⟩, by simp only [putAll, Act.put, List.setIfInBounds_toArray, List.set_cons_zero, List.set_cons_succ]; rfl⟩
    · rintro vs W ⟨z, s, e2, e3, e4, e5, hs, hsd⟩
      have HS9 := Lib.hid hsd
      have HB9 := Lib.hid (below_grown HB1.out HB1.out.size HS9.out.2.1 (Nat.le_refl _))
      simp only [putAll, Act.put, List.foldl, List.setIfInBounds_toArray, List.set_cons_zero, List.set_cons_succ, e2, e3, e4, e5]
      clear e2 e3 e4 e5 hsd
      go_wp2_with fail
      exact bodyPost_ret (v := .tuple #[.slice p n k, .string r, .int .i64 z, .string s]) (by simp [results, Try.results14, go_sem]) rfl ⟨⟨xs, p, k, r, z, s, by rw [HN.out], HS9.out.2.2.mono HB1.out.size, HW.out.1, HW.out.2, hr, hs⟩, HB9.out⟩
end Go.Proofs.Ytafdjjdmcnlddaa
