/- Several parts in one text: SeDraw1, SeDraw2, SeDrawB. -/
import Derived.Test.YtafdjjdmcnlddaaGreatHIB
namespace Go.Proofs.YtafdjjdmcnlddaaGreat
set_option linter.unusedSimpArgs false
set_option linter.unusedVariables false
open Go.RowKit Go.Joins

/-- Small sessions. -/
def SeW (xs : List SeL) : Prop := xs.length ≤ 5 ∧ ∀ x ∈ xs, x.r.size ≤ 100 ∧ x.s.size ≤ 100
theorem sew_ill (c : Int) : SeW (illS c).l := ⟨Nat.zero_le _, fun x hx => by cases hx⟩
theorem sew_bind {xs : List SeL} {r : ByteArray} (h : SeW xs) (hr : r.size ≤ 100) : SeW (bindR xs r).l := by
  unfold bindR
  split
  · exact sew_ill _
  · split
    · exact sew_ill _
    · split
      · exact sew_ill _
      · split
        · exact sew_ill _
        · rename_i h5
          have hl := h.1
          refine ⟨?_, fun x hx => ?_⟩
          · show (xs.take _ ++ _ :: xs.drop _).length ≤ 5
            rw [List.length_append, List.length_take, List.length_cons, List.length_drop]
            omega
          · rcases List.mem_append.1 hx with hx | hx
            · exact h.2 x (List.mem_of_mem_take hx)
            · rcases List.mem_cons.1 hx with rfl | hx
              · exact ⟨hr, Nat.zero_le _⟩
              · exact h.2 x (List.mem_of_mem_drop hx)
theorem sew_unbind {xs : List SeL} {r : ByteArray} (h : SeW xs) : SeW (unbindR xs r).l := by
  unfold unbindR
  split
  · exact sew_ill _
  · split
    · exact sew_ill _
    · split
      · exact sew_ill _
      · have hl := h.1
        refine ⟨?_, fun x hx => ?_⟩
        · show (xs.take _ ++ xs.drop _).length ≤ 5
          rw [List.length_append, List.length_take, List.length_drop]
          omega
        · rcases List.mem_append.1 hx with hx | hx
          · exact h.2 x (List.mem_of_mem_take hx)
          · exact h.2 x (List.mem_of_mem_drop hx)
theorem sew_with {xs : List SeL} {y : SeL} (h : SeW xs) (hr : y.r.size ≤ 100) (hs : y.s.size ≤ 100) : SeW (withR xs y).l := by
  unfold withR
  split
  · exact sew_ill _
  · split
    · exact sew_ill _
    · split
      · exact sew_ill _
      · split
        · exact sew_ill _
        · refine ⟨by rw [List.length_set]; exact h.1, fun x hx => ?_⟩
          rcases List.mem_or_eq_of_mem_set hx with hx | rfl
          · exact h.2 x hx
          · exact ⟨hr, hs⟩
theorem sew_pres {xs : List SeL} {r : ByteArray} {p : Int} {s : ByteArray} (h : SeW xs) (hr : r.size ≤ 100) (hs : s.size ≤ 100) : SeW (presR xs r p s).l := by
  unfold presR
  split
  · exact sew_ill _
  · exact sew_with h hr hs
theorem names_small : ∀ s ∈ [(⟨#[104, 111, 109, 101]⟩ : ByteArray), ⟨#[119, 111, 114, 107]⟩, ⟨#[120]⟩, ⟨#[89, 40, 49, 41]⟩, ⟨#[112, 104, 111, 110, 101]⟩, ⟨#[112, 97, 100]⟩], s.size ≤ 100 := by
  intro s hs
  simp at hs
  rcases hs with rfl | rfl | rfl | rfl | rfl | rfl <;> decide
set_option maxHeartbeats 1000000 in
theorem draw_sname (B g : Nat) (w : World) (hS : Src w B g) :
    Calls Tryz.prog 42 #[.pointer (some ⟨g, 0, none⟩)] w (Drew B g w (StrIn 100)) := by
  have HS := Lib.hid hS
  have hlt := hS.lt
  clear hS
  go_enter Tryz.func42, Tryz.ntmps42
  go_wp2_with fail
  refine (src_pick B g w.heap.size 6 100 _ (by omega) (by omega) (HS.out.alloc _) (by omega) (strRow_at w 9 100 _ [⟨#[104, 111, 109, 101]⟩, ⟨#[119, 111, 114, 107]⟩, ⟨#[120]⟩, ⟨#[89, 40, 49, 41]⟩, ⟨#[112, 104, 111, 110, 101]⟩, ⟨#[112, 97, 100]⟩] rfl names_small)).mono ?_
  rintro e w1 ⟨_, rfl, ⟨s, rfl, hs⟩, hS1, hg1⟩
  go_wp2
  go_ret
  exact ⟨_, rfl, ⟨s, rfl, hs⟩, hS1, grown_same (World.grownBy_alloc w _ (some g)) hg1⟩
end Go.Proofs.YtafdjjdmcnlddaaGreat

namespace Go.Proofs.YtafdjjdmcnlddaaGreat
set_option linter.unusedSimpArgs false
set_option linter.unusedVariables false
open Go.RowKit Go.Joins

theorem own_grown9 {α : Type} {enc : α → List Value} {W W2 : World} {g B e size : Nat} {v : Value} {xs : List α} (ho : OwnC enc W B e size v xs) (hg : W.grownBy W2 (some g)) (hB : g < B) : OwnC enc W2 B e size v xs := by
  refine ⟨ho.1, ?_⟩
  rcases ho.2 with h0 | ⟨j, c, cur, h1, h2, h3, h4⟩
  · exact .inl h0
  · exact .inr ⟨j, c, cur, h1, h2, (hg.block j (Array.getElem?_eq_some_iff.1 h3).1 (fun e => by have := Option.some.inj e; omega)).trans h3, h4⟩
theorem arr_grown9 {W W2 : World} {g b t : Nat} {cs : List Value} (h : Arr W b t cs) (hg : W.grownBy W2 (some g)) (hne : b ≠ g) : Arr W2 b t cs := (hg.block b (arr9_lt h) (fun e => hne (Option.some.inj e))).trans h
/-- The source, and sessions that lie in a row of the call's own. -/
def SdS (w W : World) (B g : Nat) (xs : List SeL) (p : Option Addr) (k : Nat) : Prop :=
  Src W B g ∧ w.grownBy W (some g) ∧ OwnC seC W w.heap.size 40 4 (.slice p xs.length k) xs
theorem SdS.on {w W W2 : World} {B g : Nat} {xs : List SeL} {p : Option Addr} {k : Nat} (h : SdS w W B g xs p k) (hb : Below W.heap.size W W2) : SdS w W2 B g xs p k := ⟨h.1.on hb, grown_on h.2.1 hb, h.2.2.on hb⟩
theorem SdS.src {w W W2 : World} {B g : Nat} {xs : List SeL} {p : Option Addr} {k : Nat} (h : SdS w W B g xs p k) (hS : Src W2 B g) (hg : W.grownBy W2 (some g)) (hlt : g < w.heap.size) : SdS w W2 B g xs p k :=
  ⟨hS, grown_same h.2.1 hg, own_grown9 h.2.2 hg hlt⟩
/-- .. and an answer in a box. -/
def SdY (w W : World) (B g : Nat) (xs : List SeL) (p : Option Addr) (k b : Nat) (R : SoL) (q : Option Addr) (l : Nat) : Prop :=
  SdS w W B g xs p k ∧ w.heap.size ≤ b ∧ Arr W b 105 [.slice q R.l.length l, .int .i64 R.c] ∧ OwnC seC W w.heap.size 40 4 (.slice q R.l.length l) R.l
theorem SdY.on {w W W2 : World} {B g b l : Nat} {xs : List SeL} {p q : Option Addr} {k : Nat} {R : SoL} (h : SdY w W B g xs p k b R q l) (hb : Below W.heap.size W W2) : SdY w W2 B g xs p k b R q l := ⟨h.1.on hb, h.2.1, arr9_on h.2.2.1 hb, h.2.2.2.on hb⟩
theorem SdY.src {w W W2 : World} {B g b l : Nat} {xs : List SeL} {p q : Option Addr} {k : Nat} {R : SoL} (h : SdY w W B g xs p k b R q l) (hS : Src W2 B g) (hg : W.grownBy W2 (some g)) (hlt : g < w.heap.size) : SdY w W2 B g xs p k b R q l :=
  ⟨h.1.src hS hg hlt, h.2.1, arr_grown9 h.2.2.1 hg (by have := h.2.1; omega), own_grown9 h.2.2.2 hg hlt⟩
theorem SdY.new {w W : World} {B g l : Nat} {xs : List SeL} {p q : Option Addr} {k : Nat} {R : SoL} (h : SdS w W B g xs p k) (ho : OwnC seC W w.heap.size 40 4 (.slice q R.l.length l) R.l) : SdY w (W.alloc (.cells #[.slice q R.l.length l, .int .i64 R.c] 105)) B g xs p k W.heap.size R q l :=
  ⟨h.on ((Below.refl _ _).alloc (Nat.le_refl _) _), h.2.1.size, Arr.fresh W _ [.slice q R.l.length l, .int .i64 R.c], ho.alloc _⟩
theorem shows_small : ∀ s ∈ [(⟨#[]⟩ : ByteArray), ⟨#[97, 119, 97, 121]⟩, ⟨#[100, 110, 100]⟩], s.size ≤ 100 := by
  intro s hs
  simp at hs
  rcases hs with rfl | rfl | rfl <;> decide
theorem own_grownN {α : Type} {enc : α → List Value} {W W2 : World} {b B e size : Nat} {v : Value} {xs : List α} (ho : OwnC enc W B e size v xs) (hg : W.grownBy W2 (some b)) (hne : ∀ j, v.ownBlock = some j → b ≠ j) : OwnC enc W2 B e size v xs := by
  refine ⟨ho.1, ?_⟩
  rcases ho.2 with h0 | ⟨j, c, cur, h1, h2, h3, h4⟩
  · exact .inl h0
  · exact .inr ⟨j, c, cur, h1, h2, (hg.block j (Array.getElem?_eq_some_iff.1 h3).1 (fun e => hne j (by rw [h1]; rfl) (Option.some.inj e).symm)).trans h3, h4⟩
theorem SdY.put {w W : World} {B g b l l2 : Nat} {xs : List SeL} {p q q2 : Option Addr} {k : Nat} {R R2 : SoL} (h : SdY w W B g xs p k b R q l) (hlt : g < w.heap.size) (ho : OwnC seC W w.heap.size 40 4 (.slice q2 R2.l.length l2) R2.l) :
    SdY w ((W.setCell ⟨b, 0, none⟩ (.slice q2 R2.l.length l2)).setCell ⟨b, 1, none⟩ (.int .i64 R2.c)) B g xs p k b R2 q2 l2 := by
  have n1 := own_neS h.1.2.2 h.2.2.1
  have n2 := own_neS ho h.2.2.1
  have hb := h.2.1
  have hB := h.1.1.1
  refine ⟨⟨(h.1.1.set b 0 _ (by omega) (by omega)).set b 1 _ (by omega) (by omega), grown_new (grown_new h.1.2.1 b 0 _ hb) b 1 _ hb, own_grownN (own_grownN h.1.2.2 (grown_setb W b 0 _) n1) (grown_setb _ b 1 _) n1⟩, hb, (h.2.2.1.put 0 _).put 1 _, own_grownN (own_grownN ho (grown_setb W b 0 _) n2) (grown_setb _ b 1 _) n2⟩
theorem sds_app {w W W2 : World} {B g : Nat} {xs ys : List SeL} {p : Option Addr} {k : Nat} {o : Obj} {v : Value} (h : SdS w W B g xs p k) (hlt : g < w.heap.size) (hv : OwnC seC W2 w.heap.size 40 4 v ys) (hg : (W.alloc o).grownBy W2 (Value.slice p xs.length k).ownBlock) :
    ∃ p4 k4, v = .slice p4 ys.length k4 ∧ SdS w W2 B g ys p4 k4 := by
  obtain ⟨p4, k4, e, -⟩ := hv.row seC_len
  have hb := own_base h.2.2
  have hB := h.1.1
  have hl := h.1.lt
  exact ⟨p4, k4, e, (h.1.alloc o).other hg (fun q hq => by have := hb q hq; omega) (by rw [World.size_alloc]; omega) (fun q hq => by have := hb q hq; omega), grown_over (grown_alloc h.2.1 o) hg hb, e ▸ hv⟩
theorem four_at {W : World} {b R : Nat} {x0 x1 x2 x3 : Int} (h : Arr W b 2 [.int .i64 x0, .int .i64 x1, .int .i64 x2, .int .i64 x3]) (h1 : R < 4) : ∃ n, W.cell? ⟨b, R, none⟩ = some (.int .i64 n) := by
  have e : R = 0 ∨ R = 1 ∨ R = 2 ∨ R = 3 := by omega
  rcases e with rfl | rfl | rfl | rfl
  · exact ⟨_, h.cell 0⟩
  · exact ⟨_, h.cell 1⟩
  · exact ⟨_, h.cell 2⟩
  · exact ⟨_, h.cell 3⟩
set_option maxRecDepth 100000 in
set_option maxHeartbeats 4000000 in
theorem draw_sess (B g : Nat) (w : World) (hS : Src w B g) :
    Calls Tryz.prog 52 #[.pointer (some ⟨g, 0, none⟩)] w fun e w' => ∃ xs p k, e = .returned (.slice p xs.length k) ∧ SdS w w' B g xs p k ∧ (xs.length ≤ 6 ∧ ∀ x ∈ xs, x.r.size ≤ 100 ∧ x.s.size ≤ 100) := by
  have hlt := hS.lt
  have hBg := hS.1
  have HS0 : Hid (SdS w (w.alloc (.cells #[] 40)) B g [] (some ⟨w.heap.size, 0, none⟩) 0) := Lib.hid ⟨hS.alloc _, World.grownBy_alloc w _ _, empty_row9 w⟩
  clear hS
  go_enter Tryz.func52, Tryz.ntmps52
  go_wp2_with fail
  refine (src_n B g 9 _ (by omega) HS0.out.1).mono ?_
  rintro e w1 ⟨_, rfl, ⟨z0, rfl, hz0, hz1⟩, hS1, hg1⟩
  have HS1 := Lib.hid (HS0.out.src hS1 hg1 hlt)
  clear hS1 hg1
  go_wp2_with fail
  go_loopw [3, 4] (fun lq kq wr => ∃ (xs : List SeL) (p : Option Addr) (k m : Nat) (z : Int), lq = .slice p m k ∧ m = xs.length ∧ kq = .int .i64 z ∧ 0 ≤ z ∧ z ≤ 9 ∧ SdS w wr B g xs p k ∧ SeW xs) (fun _ z _ => (intOf z).toNat)
  case atStart => exact ⟨[], _, _, 0, z0, rfl, rfl, rfl, hz0, by omega, HS1.out, Nat.zero_le _, fun x hx => by cases hx⟩
  case round =>
    obtain ⟨xs, p, k, m, z, rfl, hm, rfl, hz, hz9, hs, hw⟩ := hrel
    have HS := Lib.hid hs
    have HW := Lib.hid hw
    have HM := Lib.hid hm
    have i1 := fun (r : ByteArray) (hr : r.size ≤ 100) W hO => spec_bind xs r p k w.heap.size W (by have := HW.out.1; omega) (by omega) (fun x hx => by have := HW.out.2 x hx; omega) hO
    have i2 := fun (r : ByteArray) (hr : r.size ≤ 100) W hO => spec_unbind xs r p k w.heap.size W (by have := HW.out.1; omega) (by omega) (fun x hx => by have := HW.out.2 x hx; omega) hO
    have i3 := fun (r : ByteArray) (pr : Int) (s : ByteArray) (hr : r.size ≤ 100) (hs : s.size ≤ 100) W hO => spec_present xs r pr s p k w.heap.size W (by have := HW.out.1; omega) (by omega) (by omega) (fun x hx => by have := HW.out.2 x hx; omega) hO
    unfold SoIs at i1 i2 i3
    rw [← hm] at i1 i2 i3
    clear hs hw hm
    by_cases h0 : 0 < z
    · go_wp2_with fail
      refine (draw_sname B g wr HS.out.1).mono ?_
      rintro e w2 ⟨_, rfl, ⟨r, rfl, hr⟩, hS2, hg2⟩
      have HS2 := Lib.hid (HS.out.src hS2 hg2 hlt)
      have hww := Lib.hid HS2.out.2.1.size
      clear hS2 hg2 HS
      go_wp2_with fail
      go_fit (i1 r hr w2 (by rw [HM.out]; exact HS2.out.2.2))
      rintro e w3 ⟨⟨q, l, rfl, ho⟩, hb⟩
      have HY3 := Lib.hid (SdY.new (HS2.out.on hb) (ho.mono hww.out))
      have hRW := sew_bind HW.out hr
      clear ho hb HS2 hww
      obtain ⟨R, hR⟩ : ∃ R, bindR xs r = R := ⟨_, rfl⟩
      rw [hR] at HY3 hRW ⊢
      have HRW := Lib.hid hRW
      clear hR hRW
      go_wp2_with fail
      refine (src_n B g 4 _ (by omega) HY3.out.1.1).mono ?_
      rintro e w4 ⟨_, rfl, ⟨t, rfl, ht0, ht1⟩, hS4, hg4⟩
      have HY4 := Lib.hid (HY3.out.src hS4 hg4 hlt)
      clear hS4 hg4 HY3
      have ht4 : t = 0 ∨ t = 1 ∨ t = 2 ∨ t = 3 := by omega
      clear ht0 ht1
      rcases ht4 with rfl | rfl | rfl | rfl
      · go_wp2_with fail
        refine (draw_sname B g w4 HY4.out.1.1).mono ?_
        rintro e w5 ⟨_, rfl, ⟨r2, rfl, hr2⟩, hS5, hg5⟩
        have HY5 := Lib.hid (HY4.out.src hS5 hg5 hlt)
        have hww := Lib.hid HY5.out.1.2.1.size
        clear hS5 hg5 HY4
        go_wp2_with fail
        go_fit (i2 r2 hr2 w5 (by rw [HM.out]; exact HY5.out.1.2.2))
        rintro e w6 ⟨⟨q2, l2, rfl, ho⟩, hb⟩
        have HY6 := Lib.hid (HY5.out.on hb)
        have HO6 := Lib.hid (ho.mono hww.out)
        have hRW2 := sew_unbind (r := r2) HW.out
        clear ho hb HY5 hww
        obtain ⟨R2, hR2⟩ : ∃ R, unbindR xs r2 = R := ⟨_, rfl⟩
        rw [hR2] at HO6 hRW2 ⊢
        have HRW2 := Lib.hid hRW2
        have HY7 := Lib.hid (HY6.out.put hlt HO6.out)
        clear hR2 hRW2
        obtain ⟨⟨d0, d1⟩, e0, e1⟩ := arr9_two HY6.out.2.2.1
        obtain ⟨⟨c0, c1⟩, f0, f1⟩ := arr9_two HY7.out.2.2.1
        by_cases hc : R2.c = 0
        · have hyc := HY7.out
          (try rw [hc] at hyc)
          have HYC := Lib.hid hyc
          clear hyc
          go_wp2_with fail
          go_roundw
          case rel => exact ⟨R2.l, q2, l2, R2.l.length, z - 1, rfl, rfl, by go_num, by omega, by omega, ⟨HYC.out.1.1, HYC.out.1.2.1, HYC.out.2.2.2⟩, HRW2.out⟩
          case measure => simp [intOf]; omega
        · go_wp2_with fail
          go_roundw
          case rel => exact ⟨xs, _, k, m, z - 1, rfl, HM.out, by go_num, by omega, by omega, HY7.out.1, HW.out⟩
          case measure => simp [intOf]; omega
      · go_wp2_with fail
        refine (draw_sname B g w4 HY4.out.1.1).mono ?_
        rintro e w5 ⟨_, rfl, ⟨r2, rfl, hr2⟩, hS5, hg5⟩
        have HY5 := Lib.hid (HY4.out.src hS5 hg5 hlt)
        clear hS5 hg5 HY4
        by_cases hm0 : 0 < m
        · have hmi : (0 : Int) < (m : Int) := by omega
          go_wp2_with fail
          refine (src_one B g 4 w5 (by omega) HY5.out.1.1).mono ?_
          rintro e w6 ⟨_, rfl, ⟨b, rfl⟩, hS6, hg6⟩
          have HY5b := Lib.hid (HY5.out.src hS6 hg6 hlt)
          clear hS6 hg6 HY5
          cases b
          · go_wp2_with fail
            refine (src_n B g (m : Int) w6 (by have := HW.out.1; have := HM.out; omega) HY5b.out.1.1).mono ?_
            rintro e w7 ⟨_, rfl, ⟨ti, rfl, hti0, hti1⟩, hS7, hg7⟩
            have HY5c := Lib.hid (HY5b.out.src hS7 hg7 hlt)
            clear hS7 hg7 HY5b
            obtain ⟨j, rfl⟩ : ∃ j : Nat, ti = j := ⟨ti.toNat, by omega⟩
            have hjm : j < m := by omega
            have hj1 : j < xs.length := by rw [← HM.out]; exact hjm
            obtain ⟨gr, hgr, _, a0, -⟩ := row_se4 (row_own9 HY5c.out.1.2.2) hj1
            subst hgr
            have hrj := (HW.out.2 _ (List.getElem_mem hj1)).1
            obtain ⟨rj, hrj2⟩ : ∃ r, xs[j].r = r := ⟨_, rfl⟩
            rw [hrj2] at a0 hrj
            clear hrj2 hti0 hti1
            go_wp2_with fail
            refine (src_n B g 6 _ (by omega) HY5c.out.1.1).mono ?_
            rintro e w8 ⟨_, rfl, ⟨pz, rfl, hp0, hp1⟩, hS8, hg8⟩
            have hp5 : pz ≤ 5 := by omega
            have HY8 := Lib.hid (HY5c.out.src hS8 hg8 hlt)
            have hgw8 : g < w8.heap.size := by have := HY8.out.1.2.1.size; omega
            clear hS8 hg8 hp1 HY5c
            go_wp2_with fail
            refine (src_pick B g w8.heap.size 3 100 _ (by omega) (by omega) (HY8.out.1.1.alloc _) (by omega) (strRow_at w8 9 100 _ [⟨#[]⟩, ⟨#[97, 119, 97, 121]⟩, ⟨#[100, 110, 100]⟩] rfl shows_small)).mono ?_
            rintro e w9 ⟨_, rfl, ⟨sh, rfl, hsh⟩, hS9, hg9⟩
            have HY9 := Lib.hid ((HY8.out.on ((Below.refl _ _).alloc (Nat.le_refl _) _)).src hS9 hg9 hlt)
            have hww := Lib.hid HY9.out.1.2.1.size
            clear hS9 hg9 HY8
            go_wp2_with fail
            go_fit (i3 rj (pz - 2) sh hrj hsh w9 (by rw [HM.out]; exact HY9.out.1.2.2))
            rintro e w10 ⟨⟨q2, l2, rfl, ho⟩, hb⟩
            have HY6 := Lib.hid (HY9.out.on hb)
            have HO6 := Lib.hid (ho.mono hww.out)
            have hRW2 := sew_pres (p := pz - 2) HW.out hrj hsh
            clear ho hb HY9 hww
            obtain ⟨R2, hR2⟩ : ∃ R, presR xs rj (pz - 2) sh = R := ⟨_, rfl⟩
            rw [hR2] at HO6 hRW2 ⊢
            have HRW2 := Lib.hid hRW2
            have HY7 := Lib.hid (HY6.out.put hlt HO6.out)
            clear hR2 hRW2
            obtain ⟨⟨d0, d1⟩, e0, e1⟩ := arr9_two HY6.out.2.2.1
            obtain ⟨⟨c0, c1⟩, f0, f1⟩ := arr9_two HY7.out.2.2.1
            by_cases hc : R2.c = 0
            · have hyc := HY7.out
              (try rw [hc] at hyc)
              have HYC := Lib.hid hyc
              clear hyc
              go_wp2_with fail
              go_roundw
              case rel => exact ⟨R2.l, q2, l2, R2.l.length, z - 1, rfl, rfl, by go_num, by omega, by omega, ⟨HYC.out.1.1, HYC.out.1.2.1, HYC.out.2.2.2⟩, HRW2.out⟩
              case measure => simp [intOf]; omega
            · go_wp2_with fail
              go_roundw
              case rel => exact ⟨xs, _, k, m, z - 1, rfl, HM.out, by go_num, by omega, by omega, HY7.out.1, HW.out⟩
              case measure => simp [intOf]; omega
          · go_wp2_with fail
            refine (src_n B g 6 _ (by omega) HY5b.out.1.1).mono ?_
            rintro e w8 ⟨_, rfl, ⟨pz, rfl, hp0, hp1⟩, hS8, hg8⟩
            have hp5 : pz ≤ 5 := by omega
            have HY8 := Lib.hid (HY5b.out.src hS8 hg8 hlt)
            have hgw8 : g < w8.heap.size := by have := HY8.out.1.2.1.size; omega
            clear hS8 hg8 hp1 HY5b
            go_wp2_with fail
            refine (src_pick B g w8.heap.size 3 100 _ (by omega) (by omega) (HY8.out.1.1.alloc _) (by omega) (strRow_at w8 9 100 _ [⟨#[]⟩, ⟨#[97, 119, 97, 121]⟩, ⟨#[100, 110, 100]⟩] rfl shows_small)).mono ?_
            rintro e w9 ⟨_, rfl, ⟨sh, rfl, hsh⟩, hS9, hg9⟩
            have HY9 := Lib.hid ((HY8.out.on ((Below.refl _ _).alloc (Nat.le_refl _) _)).src hS9 hg9 hlt)
            have hww := Lib.hid HY9.out.1.2.1.size
            clear hS9 hg9 HY8
            go_wp2_with fail
            go_fit (i3 r2 (pz - 2) sh hr2 hsh w9 (by rw [HM.out]; exact HY9.out.1.2.2))
            rintro e w10 ⟨⟨q2, l2, rfl, ho⟩, hb⟩
            have HY6 := Lib.hid (HY9.out.on hb)
            have HO6 := Lib.hid (ho.mono hww.out)
            have hRW2 := sew_pres (p := pz - 2) HW.out hr2 hsh
            clear ho hb HY9 hww
            obtain ⟨R2, hR2⟩ : ∃ R, presR xs r2 (pz - 2) sh = R := ⟨_, rfl⟩
            rw [hR2] at HO6 hRW2 ⊢
            have HRW2 := Lib.hid hRW2
            have HY7 := Lib.hid (HY6.out.put hlt HO6.out)
            clear hR2 hRW2
            obtain ⟨⟨d0, d1⟩, e0, e1⟩ := arr9_two HY6.out.2.2.1
            obtain ⟨⟨c0, c1⟩, f0, f1⟩ := arr9_two HY7.out.2.2.1
            by_cases hc : R2.c = 0
            · have hyc := HY7.out
              (try rw [hc] at hyc)
              have HYC := Lib.hid hyc
              clear hyc
              go_wp2_with fail
              go_roundw
              case rel => exact ⟨R2.l, q2, l2, R2.l.length, z - 1, rfl, rfl, by go_num, by omega, by omega, ⟨HYC.out.1.1, HYC.out.1.2.1, HYC.out.2.2.2⟩, HRW2.out⟩
              case measure => simp [intOf]; omega
            · go_wp2_with fail
              go_roundw
              case rel => exact ⟨xs, _, k, m, z - 1, rfl, HM.out, by go_num, by omega, by omega, HY7.out.1, HW.out⟩
              case measure => simp [intOf]; omega
        · have hmi : ¬ (0 : Int) < (m : Int) := by omega
          go_wp2_with fail
          refine (src_n B g 6 _ (by omega) HY5.out.1.1).mono ?_
          rintro e w8 ⟨_, rfl, ⟨pz, rfl, hp0, hp1⟩, hS8, hg8⟩
          have hp5 : pz ≤ 5 := by omega
          have HY8 := Lib.hid (HY5.out.src hS8 hg8 hlt)
          have hgw8 : g < w8.heap.size := by have := HY8.out.1.2.1.size; omega
          clear hS8 hg8 hp1 HY5
          go_wp2_with fail
          refine (src_pick B g w8.heap.size 3 100 _ (by omega) (by omega) (HY8.out.1.1.alloc _) (by omega) (strRow_at w8 9 100 _ [⟨#[]⟩, ⟨#[97, 119, 97, 121]⟩, ⟨#[100, 110, 100]⟩] rfl shows_small)).mono ?_
          rintro e w9 ⟨_, rfl, ⟨sh, rfl, hsh⟩, hS9, hg9⟩
          have HY9 := Lib.hid ((HY8.out.on ((Below.refl _ _).alloc (Nat.le_refl _) _)).src hS9 hg9 hlt)
          have hww := Lib.hid HY9.out.1.2.1.size
          clear hS9 hg9 HY8
          go_wp2_with fail
          go_fit (i3 r2 (pz - 2) sh hr2 hsh w9 (by rw [HM.out]; exact HY9.out.1.2.2))
          rintro e w10 ⟨⟨q2, l2, rfl, ho⟩, hb⟩
          have HY6 := Lib.hid (HY9.out.on hb)
          have HO6 := Lib.hid (ho.mono hww.out)
          have hRW2 := sew_pres (p := pz - 2) HW.out hr2 hsh
          clear ho hb HY9 hww
          obtain ⟨R2, hR2⟩ : ∃ R, presR xs r2 (pz - 2) sh = R := ⟨_, rfl⟩
          rw [hR2] at HO6 hRW2 ⊢
          have HRW2 := Lib.hid hRW2
          have HY7 := Lib.hid (HY6.out.put hlt HO6.out)
          clear hR2 hRW2
          obtain ⟨⟨d0, d1⟩, e0, e1⟩ := arr9_two HY6.out.2.2.1
          obtain ⟨⟨c0, c1⟩, f0, f1⟩ := arr9_two HY7.out.2.2.1
          by_cases hc : R2.c = 0
          · have hyc := HY7.out
            (try rw [hc] at hyc)
            have HYC := Lib.hid hyc
            clear hyc
            go_wp2_with fail
            go_roundw
            case rel => exact ⟨R2.l, q2, l2, R2.l.length, z - 1, rfl, rfl, by go_num, by omega, by omega, ⟨HYC.out.1.1, HYC.out.1.2.1, HYC.out.2.2.2⟩, HRW2.out⟩
            case measure => simp [intOf]; omega
          · go_wp2_with fail
            go_roundw
            case rel => exact ⟨xs, _, k, m, z - 1, rfl, HM.out, by go_num, by omega, by omega, HY7.out.1, HW.out⟩
            case measure => simp [intOf]; omega
      · go_wp2_with fail
        refine (draw_sname B g w4 HY4.out.1.1).mono ?_
        rintro e w5 ⟨_, rfl, ⟨r2, rfl, hr2⟩, hS5, hg5⟩
        have HY5 := Lib.hid (HY4.out.src hS5 hg5 hlt)
        clear hS5 hg5 HY4
        by_cases hm0 : 0 < m
        · have hmi : (0 : Int) < (m : Int) := by omega
          go_wp2_with fail
          refine (src_one B g 4 w5 (by omega) HY5.out.1.1).mono ?_
          rintro e w6 ⟨_, rfl, ⟨b, rfl⟩, hS6, hg6⟩
          have HY5b := Lib.hid (HY5.out.src hS6 hg6 hlt)
          clear hS6 hg6 HY5
          cases b
          · go_wp2_with fail
            refine (src_n B g (m : Int) w6 (by have := HW.out.1; have := HM.out; omega) HY5b.out.1.1).mono ?_
            rintro e w7 ⟨_, rfl, ⟨ti, rfl, hti0, hti1⟩, hS7, hg7⟩
            have HY5c := Lib.hid (HY5b.out.src hS7 hg7 hlt)
            clear hS7 hg7 HY5b
            obtain ⟨j, rfl⟩ : ∃ j : Nat, ti = j := ⟨ti.toNat, by omega⟩
            have hjm : j < m := by omega
            have hj1 : j < xs.length := by rw [← HM.out]; exact hjm
            obtain ⟨gr, hgr, _, a0, -⟩ := row_se4 (row_own9 HY5c.out.1.2.2) hj1
            subst hgr
            have hrj := (HW.out.2 _ (List.getElem_mem hj1)).1
            obtain ⟨rj, hrj2⟩ : ∃ r, xs[j].r = r := ⟨_, rfl⟩
            rw [hrj2] at a0 hrj
            clear hrj2 hti0 hti1
            go_wp2_with fail
            refine (src_n B g 6 _ (by omega) HY5c.out.1.1).mono ?_
            rintro e w8 ⟨_, rfl, ⟨pz, rfl, hp0, hp1⟩, hS8, hg8⟩
            have hp5 : pz ≤ 5 := by omega
            have HY8 := Lib.hid (HY5c.out.src hS8 hg8 hlt)
            have hgw8 : g < w8.heap.size := by have := HY8.out.1.2.1.size; omega
            clear hS8 hg8 hp1 HY5c
            go_wp2_with fail
            refine (src_pick B g w8.heap.size 3 100 _ (by omega) (by omega) (HY8.out.1.1.alloc _) (by omega) (strRow_at w8 9 100 _ [⟨#[]⟩, ⟨#[97, 119, 97, 121]⟩, ⟨#[100, 110, 100]⟩] rfl shows_small)).mono ?_
            rintro e w9 ⟨_, rfl, ⟨sh, rfl, hsh⟩, hS9, hg9⟩
            have HY9 := Lib.hid ((HY8.out.on ((Below.refl _ _).alloc (Nat.le_refl _) _)).src hS9 hg9 hlt)
            have hww := Lib.hid HY9.out.1.2.1.size
            clear hS9 hg9 HY8
            go_wp2_with fail
            go_fit (i3 rj (pz - 2) sh hrj hsh w9 (by rw [HM.out]; exact HY9.out.1.2.2))
            rintro e w10 ⟨⟨q2, l2, rfl, ho⟩, hb⟩
            have HY6 := Lib.hid (HY9.out.on hb)
            have HO6 := Lib.hid (ho.mono hww.out)
            have hRW2 := sew_pres (p := pz - 2) HW.out hrj hsh
            clear ho hb HY9 hww
            obtain ⟨R2, hR2⟩ : ∃ R, presR xs rj (pz - 2) sh = R := ⟨_, rfl⟩
            rw [hR2] at HO6 hRW2 ⊢
            have HRW2 := Lib.hid hRW2
            have HY7 := Lib.hid (HY6.out.put hlt HO6.out)
            clear hR2 hRW2
            obtain ⟨⟨d0, d1⟩, e0, e1⟩ := arr9_two HY6.out.2.2.1
            obtain ⟨⟨c0, c1⟩, f0, f1⟩ := arr9_two HY7.out.2.2.1
            by_cases hc : R2.c = 0
            · have hyc := HY7.out
              (try rw [hc] at hyc)
              have HYC := Lib.hid hyc
              clear hyc
              go_wp2_with fail
              go_roundw
              case rel => exact ⟨R2.l, q2, l2, R2.l.length, z - 1, rfl, rfl, by go_num, by omega, by omega, ⟨HYC.out.1.1, HYC.out.1.2.1, HYC.out.2.2.2⟩, HRW2.out⟩
              case measure => simp [intOf]; omega
            · go_wp2_with fail
              go_roundw
              case rel => exact ⟨xs, _, k, m, z - 1, rfl, HM.out, by go_num, by omega, by omega, HY7.out.1, HW.out⟩
              case measure => simp [intOf]; omega
          · go_wp2_with fail
            refine (src_n B g 6 _ (by omega) HY5b.out.1.1).mono ?_
            rintro e w8 ⟨_, rfl, ⟨pz, rfl, hp0, hp1⟩, hS8, hg8⟩
            have hp5 : pz ≤ 5 := by omega
            have HY8 := Lib.hid (HY5b.out.src hS8 hg8 hlt)
            have hgw8 : g < w8.heap.size := by have := HY8.out.1.2.1.size; omega
            clear hS8 hg8 hp1 HY5b
            go_wp2_with fail
            refine (src_pick B g w8.heap.size 3 100 _ (by omega) (by omega) (HY8.out.1.1.alloc _) (by omega) (strRow_at w8 9 100 _ [⟨#[]⟩, ⟨#[97, 119, 97, 121]⟩, ⟨#[100, 110, 100]⟩] rfl shows_small)).mono ?_
            rintro e w9 ⟨_, rfl, ⟨sh, rfl, hsh⟩, hS9, hg9⟩
            have HY9 := Lib.hid ((HY8.out.on ((Below.refl _ _).alloc (Nat.le_refl _) _)).src hS9 hg9 hlt)
            have hww := Lib.hid HY9.out.1.2.1.size
            clear hS9 hg9 HY8
            go_wp2_with fail
            go_fit (i3 r2 (pz - 2) sh hr2 hsh w9 (by rw [HM.out]; exact HY9.out.1.2.2))
            rintro e w10 ⟨⟨q2, l2, rfl, ho⟩, hb⟩
            have HY6 := Lib.hid (HY9.out.on hb)
            have HO6 := Lib.hid (ho.mono hww.out)
            have hRW2 := sew_pres (p := pz - 2) HW.out hr2 hsh
            clear ho hb HY9 hww
            obtain ⟨R2, hR2⟩ : ∃ R, presR xs r2 (pz - 2) sh = R := ⟨_, rfl⟩
            rw [hR2] at HO6 hRW2 ⊢
            have HRW2 := Lib.hid hRW2
            have HY7 := Lib.hid (HY6.out.put hlt HO6.out)
            clear hR2 hRW2
            obtain ⟨⟨d0, d1⟩, e0, e1⟩ := arr9_two HY6.out.2.2.1
            obtain ⟨⟨c0, c1⟩, f0, f1⟩ := arr9_two HY7.out.2.2.1
            by_cases hc : R2.c = 0
            · have hyc := HY7.out
              (try rw [hc] at hyc)
              have HYC := Lib.hid hyc
              clear hyc
              go_wp2_with fail
              go_roundw
              case rel => exact ⟨R2.l, q2, l2, R2.l.length, z - 1, rfl, rfl, by go_num, by omega, by omega, ⟨HYC.out.1.1, HYC.out.1.2.1, HYC.out.2.2.2⟩, HRW2.out⟩
              case measure => simp [intOf]; omega
            · go_wp2_with fail
              go_roundw
              case rel => exact ⟨xs, _, k, m, z - 1, rfl, HM.out, by go_num, by omega, by omega, HY7.out.1, HW.out⟩
              case measure => simp [intOf]; omega
        · have hmi : ¬ (0 : Int) < (m : Int) := by omega
          go_wp2_with fail
          refine (src_n B g 6 _ (by omega) HY5.out.1.1).mono ?_
          rintro e w8 ⟨_, rfl, ⟨pz, rfl, hp0, hp1⟩, hS8, hg8⟩
          have hp5 : pz ≤ 5 := by omega
          have HY8 := Lib.hid (HY5.out.src hS8 hg8 hlt)
          have hgw8 : g < w8.heap.size := by have := HY8.out.1.2.1.size; omega
          clear hS8 hg8 hp1 HY5
          go_wp2_with fail
          refine (src_pick B g w8.heap.size 3 100 _ (by omega) (by omega) (HY8.out.1.1.alloc _) (by omega) (strRow_at w8 9 100 _ [⟨#[]⟩, ⟨#[97, 119, 97, 121]⟩, ⟨#[100, 110, 100]⟩] rfl shows_small)).mono ?_
          rintro e w9 ⟨_, rfl, ⟨sh, rfl, hsh⟩, hS9, hg9⟩
          have HY9 := Lib.hid ((HY8.out.on ((Below.refl _ _).alloc (Nat.le_refl _) _)).src hS9 hg9 hlt)
          have hww := Lib.hid HY9.out.1.2.1.size
          clear hS9 hg9 HY8
          go_wp2_with fail
          go_fit (i3 r2 (pz - 2) sh hr2 hsh w9 (by rw [HM.out]; exact HY9.out.1.2.2))
          rintro e w10 ⟨⟨q2, l2, rfl, ho⟩, hb⟩
          have HY6 := Lib.hid (HY9.out.on hb)
          have HO6 := Lib.hid (ho.mono hww.out)
          have hRW2 := sew_pres (p := pz - 2) HW.out hr2 hsh
          clear ho hb HY9 hww
          obtain ⟨R2, hR2⟩ : ∃ R, presR xs r2 (pz - 2) sh = R := ⟨_, rfl⟩
          rw [hR2] at HO6 hRW2 ⊢
          have HRW2 := Lib.hid hRW2
          have HY7 := Lib.hid (HY6.out.put hlt HO6.out)
          clear hR2 hRW2
          obtain ⟨⟨d0, d1⟩, e0, e1⟩ := arr9_two HY6.out.2.2.1
          obtain ⟨⟨c0, c1⟩, f0, f1⟩ := arr9_two HY7.out.2.2.1
          by_cases hc : R2.c = 0
          · have hyc := HY7.out
            (try rw [hc] at hyc)
            have HYC := Lib.hid hyc
            clear hyc
            go_wp2_with fail
            go_roundw
            case rel => exact ⟨R2.l, q2, l2, R2.l.length, z - 1, rfl, rfl, by go_num, by omega, by omega, ⟨HYC.out.1.1, HYC.out.1.2.1, HYC.out.2.2.2⟩, HRW2.out⟩
            case measure => simp [intOf]; omega
          · go_wp2_with fail
            go_roundw
            case rel => exact ⟨xs, _, k, m, z - 1, rfl, HM.out, by go_num, by omega, by omega, HY7.out.1, HW.out⟩
            case measure => simp [intOf]; omega
      · obtain ⟨⟨c0, c1⟩, f0, f1⟩ := arr9_two HY4.out.2.2.1
        by_cases hc : R.c = 0
        · go_wp2_with fail
          go_roundw
          case rel => exact ⟨R.l, q, l, R.l.length, z - 1, rfl, rfl, by go_num, by omega, by omega, ⟨HY4.out.1.1, HY4.out.1.2.1, HY4.out.2.2.2⟩, HRW.out⟩
          case measure => simp [intOf]; omega
        · go_wp2_with fail
          go_roundw
          case rel => exact ⟨xs, _, k, m, z - 1, rfl, HM.out, by go_num, by omega, by omega, HY4.out.1, HW.out⟩
          case measure => simp [intOf]; omega
    · obtain rfl : z = 0 := by omega
      go_wp2_with fail
      refine (src_one B g 20 wr (by omega) HS.out.1).mono ?_
      rintro e w2 ⟨_, rfl, ⟨b, rfl⟩, hS2, hg2⟩
      have HS2 := Lib.hid (HS.out.src hS2 hg2 hlt)
      clear hS2 hg2 HS
      cases b
      · go_wp2_with fail
        go_ret
        have hM := HM.out
        subst hM
        exact ⟨xs, p, k, rfl, HS2.out, by have := HW.out.1; omega, HW.out.2⟩
      · go_wp2_with fail
        refine (src_n B g 3 w2 (by omega) HS2.out.1).mono ?_
        rintro e w3 ⟨_, rfl, ⟨t, rfl, ht0, ht1⟩, hS3, hg3⟩
        have HS3 := Lib.hid (HS2.out.src hS3 hg3 hlt)
        have hM := HM.out
        subst hM
        have HL : Hid (xs.length ≤ 1000000) := Lib.hid (by have := HW.out.1; omega)
        clear hS3 hg3 HS2
        have ht3 : t = 0 ∨ t = 1 ∨ t = 2 := by omega
        clear ht0 ht1
        rcases ht3 with rfl | rfl | rfl
        · go_wp2_with (at_builtin; refine wpList_plain rfl fun K hK => ?_; refine wp_app_one9 _ _ rfl w.heap.size _ xs rfl (HS3.out.2.2.alloc _) w3.heap.size ⟨⟨#[97, 47, 98]⟩, false, 0, ⟨#[]⟩⟩ rfl (Arr.fresh w3 40 (seC ⟨⟨#[97, 47, 98]⟩, false, 0, ⟨#[]⟩⟩)) HL.out (by rw [World.size_alloc]; have := HS3.out.2.1.size; omega) ?_; intro v4 w4 hv4 hg4; have HS4 := Lib.hid (sds_app HS3.out hlt hv4 hg4); clear hv4 hg4; obtain ⟨p4, k4, e4, hs4⟩ := HS4.out; subst e4; have HS5 := Lib.hid hs4; clear hs4 HS4; refine hK _ _ ?_)
          go_ret
          exact ⟨_, p4, k4, by rw [List.length_append]; rfl, HS5.out, by have := HW.out.1; rw [List.length_append]; show _ + 1 ≤ 6; omega, fun x hx => by
            rcases List.mem_append.1 hx with hx | hx
            · exact HW.out.2 x hx
            · obtain rfl := List.mem_singleton.1 hx
              exact ⟨by decide, by decide⟩⟩
        · go_wp2_with fail
          -- R23
          refine region_join [77, 78, 79, 80, 81, 82, 83, 84, 85, 86, 87, 3] (fun vs W => ∃ (o : Bool) (n : Int) (ys : List SeL) (p4 : Option Addr) (k4 : Nat), xs ++ [(⟨⟨#[122, 122]⟩, o, n, ⟨#[]⟩⟩ : SeL)] = ys ∧ vs 3 = .slice p4 ys.length k4 ∧ SdS w W B g ys p4 k4) ?_ ?_
          · refine wp_region_held_drew (S := fun _ => True) (by kernel_rfl) trivial (fun hHeld => ?_)
            have HS4 := Lib.hid (HS3.out.on (Below.refl _ _).drew)
            generalize World.drew _ = wd at HS4 hHeld ⊢
            refine takeQ (i := 0) (k := 77) (v := .slice p xs.length k) rfl (by rfl) (by kernel_rfl) (by kernel_rfl) (by kernel_rfl) (fun _ _ _ h => h) (by rfl) ?_ hHeld ?_
            · intro w1 hSw; go_simp
            (try simp only [Act.put, List.setIfInBounds_toArray, List.set_cons_zero, List.set_cons_succ])
            refine takeQ (i := 2) (k := 79) (v := .pointer (some ⟨g, 0, none⟩)) rfl (by rfl) (by kernel_rfl) (by kernel_rfl) (by kernel_rfl) (fun _ _ _ h => h) (by rfl) ?_ hHeld ?_
            · intro w1 hSw; go_simp
            (try simp only [Act.put, List.setIfInBounds_toArray, List.set_cons_zero, List.set_cons_succ])
            refine takeQ (i := 6) (k := 83) (v := .pointer (some ⟨g, 0, none⟩)) rfl (by rfl) (by kernel_rfl) (by kernel_rfl) (by kernel_rfl) (fun _ _ _ h => h) (by rfl) ?_ hHeld ?_
            · intro w1 hSw; go_simp
            (try simp only [Act.put, List.setIfInBounds_toArray, List.set_cons_zero, List.set_cons_succ])
            refine wpAnyH_ready (rs := [1, 3]) (by kernel_rfl) (by simp) ?_
            refine AllReadyH.cons rfl (fun K hK => ?_) (AllReadyH.cons rfl (fun K hK => ?_) AllReadyH.nil)
            · skip
              rw [if_pos (by rfl)]
              go_simp
              have HSa1 := Lib.hid (HS4.out.on ((Below.refl _ _).alloc (Nat.le_refl _) (.cells #[.int .i64 (-129), .int .i64 (-128), .int .i64 127, .int .i64 128] 2)))
              have HAa2 := Lib.hid (Arr.fresh wd 2 [.int .i64 (-129), .int .i64 (-128), .int .i64 127, .int .i64 128])
              refine hK.out _ _ trivial (fun hHeld => ?_)
              clear hK K
              (try simp only [Act.put, List.setIfInBounds_toArray, List.set_cons_zero, List.set_cons_succ])
              have hbbI3 : w.heap.size ≤ wd.heap.size := HS4.out.2.1.size
              generalize wd.heap.size = bI3 at HAa2 hbbI3 ⊢
              generalize wd.alloc (.cells #[.int .i64 (-129), .int .i64 (-128), .int .i64 127, .int .i64 128] 2) = wI4 at HSa1 HAa2 ⊢
              refine wpAnyH_ready (rs := [3]) (by kernel_rfl) (by simp) ?_
              refine AllReadyH.cons rfl (fun K hK => ?_) AllReadyH.nil
              rw [if_pos (by rfl)]
              go_simp
              go_fit (src_n B g 4 _ (by omega) HSa1.out.1)
              rintro e wI5 ⟨_, rfl, ⟨r2, rfl, h20, h21⟩, hSz, hgz⟩
              have HSa6 := Lib.hid (HSa1.out.src hSz hgz hlt)
              have HAa7 := Lib.hid (arr_grown9 HAa2.out hgz (by omega))
              clear hSz hgz
              obtain ⟨j2, rfl⟩ : ∃ j2 : Nat, r2 = j2 := ⟨r2.toNat, by omega⟩
              have hj2 : j2 < 4 := by omega
              clear h20 h21
              refine hK.out _ _ trivial (fun hHeld => ?_)
              clear hK K
              (try simp only [Act.put, List.setIfInBounds_toArray, List.set_cons_zero, List.set_cons_succ])
              refine takeQ (i := 4) (k := 81) (v := .pointer (some ⟨bI3, j2, none⟩)) rfl (by rfl) (by kernel_rfl) (by kernel_rfl) (by kernel_rfl) (fun _ _ _ h => h) (by rfl) ?_ hHeld ?_
              · intro w1 hSw; go_simp; (try (intro h9; exact absurd h9 (by omega)))
              (try simp only [Act.put, List.setIfInBounds_toArray, List.set_cons_zero, List.set_cons_succ])
              refine wpAnyH_ready (rs := [5, 7]) (by kernel_rfl) (by simp) ?_
              refine AllReadyH.cons rfl (fun K hK => ?_) (AllReadyH.cons rfl (fun K hK => ?_) AllReadyH.nil)
              · skip
                rw [if_pos (by rfl)]
                go_simp
                obtain ⟨nI8, hn4⟩ := four_at HAa7.out hj2
                go_simp
                clear hn4
                refine hK.out _ _ trivial (fun hHeld => ?_)
                clear hK K
                (try simp only [Act.put, List.setIfInBounds_toArray, List.set_cons_zero, List.set_cons_succ])
                refine wpAnyH_ready (rs := [7]) (by kernel_rfl) (by simp) ?_
                refine AllReadyH.cons rfl (fun K hK => ?_) AllReadyH.nil
                rw [if_pos (by rfl)]
                go_simp
                go_fit (src_one B g 2 _ (by omega) HSa6.out.1)
                rintro e wI9 ⟨_, rfl, ⟨bo11, rfl⟩, hSz, hgz⟩
                have HSa10 := Lib.hid (HSa6.out.src hSz hgz hlt)
                have HAa12 := Lib.hid (arr_grown9 HAa7.out hgz (by omega))
                clear hSz hgz
                refine hK.out _ _ trivial (fun hHeld => ?_)
                clear hK K
                (try simp only [Act.put, List.setIfInBounds_toArray, List.set_cons_zero, List.set_cons_succ])
                refine takeQ (i := 8) (k := 85) (v := .agg #[.string ⟨#[122, 122]⟩, .bool bo11, .int .i64 nI8, .string ⟨#[]⟩]) rfl (by rfl) (by kernel_rfl) (by kernel_rfl) (by kernel_rfl) (fun _ _ _ h => h) (by rfl) ?_ hHeld ?_
                · intro w1 hSw; go_simp
                (try simp only [Act.put, List.setIfInBounds_toArray, List.set_cons_zero, List.set_cons_succ])
                refine wpAnyH_ready (rs := [9]) (by kernel_rfl) (by simp) ?_
                refine AllReadyH.cons rfl (fun K hK => ?_) AllReadyH.nil
                rw [if_pos (by rfl)]
                go_simp
                refine hK.out _ _ trivial (fun hHeld => ?_)
                clear hK K
                (try simp only [Act.put, List.setIfInBounds_toArray, List.set_cons_zero, List.set_cons_succ])
                refine wpAnyH_ready (rs := [10]) (by kernel_rfl) (by simp) ?_
                refine AllReadyH.cons rfl (fun K hK => ?_) AllReadyH.nil
                rw [if_pos (by rfl)]
                refine wp_app_one9 _ _ rfl w.heap.size _ xs rfl (HSa10.out.2.2.alloc _) wI9.heap.size ⟨⟨#[122, 122]⟩, bo11, nI8, ⟨#[]⟩⟩ rfl (Arr.fresh wI9 40 (seC ⟨⟨#[122, 122]⟩, bo11, nI8, ⟨#[]⟩⟩)) HL.out (by rw [World.size_alloc]; have := HSa10.out.2.1.size; omega) ?_
                intro v4 w4 hv4 hg4
                have HS4 := Lib.hid (sds_app HSa10.out hlt hv4 hg4)
                clear hv4 hg4
                refine hK.out _ _ trivial (fun hHeld => ?_)
                clear hK K
                (try simp only [Act.put, List.setIfInBounds_toArray, List.set_cons_zero, List.set_cons_succ])
                obtain ⟨p4, k4, e4, hs4⟩ := HS4.out
                subst e4
                obtain ⟨ys, hys⟩ : ∃ ys, xs ++ [(⟨⟨#[122, 122]⟩, bo11, nI8, ⟨#[]⟩⟩ : SeL)] = ys := ⟨_, rfl⟩
                rw [hys] at hs4 ⊢
                have HYS := Lib.hid hys
                clear hys
                refine takeQ (i := 11) (k := 3) (v := .slice p4 ys.length k4) rfl (by rfl) (by kernel_rfl) (by kernel_rfl) (by kernel_rfl) (fun _ _ _ h => h) (by rfl) ?_ hHeld ?_
                · intro w1 hSw; go_simp
                (try simp only [Act.put, List.setIfInBounds_toArray, List.set_cons_zero, List.set_cons_succ])
                refine wpAnyH_done (by kernel_rfl) ?_ _
                exact ⟨⟨bo11, nI8, ys, p4, k4, HYS.out, rfl, hs4⟩, by simp only [putAll, Act.put, List.setIfInBounds_toArray, List.set_cons_zero, List.set_cons_succ]; rfl⟩
              · skip
                rw [if_pos (by rfl)]
                go_simp
                go_fit (src_one B g 2 _ (by omega) HSa6.out.1)
                rintro e wI13 ⟨_, rfl, ⟨bo15, rfl⟩, hSz, hgz⟩
                have HSa14 := Lib.hid (HSa6.out.src hSz hgz hlt)
                have HAa16 := Lib.hid (arr_grown9 HAa7.out hgz (by omega))
                clear hSz hgz
                refine hK.out _ _ trivial (fun hHeld => ?_)
                clear hK K
                (try simp only [Act.put, List.setIfInBounds_toArray, List.set_cons_zero, List.set_cons_succ])
                refine wpAnyH_ready (rs := [5]) (by kernel_rfl) (by simp) ?_
                refine AllReadyH.cons rfl (fun K hK => ?_) AllReadyH.nil
                rw [if_pos (by rfl)]
                go_simp
                obtain ⟨nI17, hn4⟩ := four_at HAa16.out hj2
                go_simp
                clear hn4
                refine hK.out _ _ trivial (fun hHeld => ?_)
                clear hK K
                (try simp only [Act.put, List.setIfInBounds_toArray, List.set_cons_zero, List.set_cons_succ])
                refine takeQ (i := 8) (k := 85) (v := .agg #[.string ⟨#[122, 122]⟩, .bool bo15, .int .i64 nI17, .string ⟨#[]⟩]) rfl (by rfl) (by kernel_rfl) (by kernel_rfl) (by kernel_rfl) (fun _ _ _ h => h) (by rfl) ?_ hHeld ?_
                · intro w1 hSw; go_simp
                (try simp only [Act.put, List.setIfInBounds_toArray, List.set_cons_zero, List.set_cons_succ])
                refine wpAnyH_ready (rs := [9]) (by kernel_rfl) (by simp) ?_
                refine AllReadyH.cons rfl (fun K hK => ?_) AllReadyH.nil
                rw [if_pos (by rfl)]
                go_simp
                refine hK.out _ _ trivial (fun hHeld => ?_)
                clear hK K
                (try simp only [Act.put, List.setIfInBounds_toArray, List.set_cons_zero, List.set_cons_succ])
                refine wpAnyH_ready (rs := [10]) (by kernel_rfl) (by simp) ?_
                refine AllReadyH.cons rfl (fun K hK => ?_) AllReadyH.nil
                rw [if_pos (by rfl)]
                refine wp_app_one9 _ _ rfl w.heap.size _ xs rfl (HSa14.out.2.2.alloc _) wI13.heap.size ⟨⟨#[122, 122]⟩, bo15, nI17, ⟨#[]⟩⟩ rfl (Arr.fresh wI13 40 (seC ⟨⟨#[122, 122]⟩, bo15, nI17, ⟨#[]⟩⟩)) HL.out (by rw [World.size_alloc]; have := HSa14.out.2.1.size; omega) ?_
                intro v4 w4 hv4 hg4
                have HS4 := Lib.hid (sds_app HSa14.out hlt hv4 hg4)
                clear hv4 hg4
                refine hK.out _ _ trivial (fun hHeld => ?_)
                clear hK K
                (try simp only [Act.put, List.setIfInBounds_toArray, List.set_cons_zero, List.set_cons_succ])
                obtain ⟨p4, k4, e4, hs4⟩ := HS4.out
                subst e4
                obtain ⟨ys, hys⟩ : ∃ ys, xs ++ [(⟨⟨#[122, 122]⟩, bo15, nI17, ⟨#[]⟩⟩ : SeL)] = ys := ⟨_, rfl⟩
                rw [hys] at hs4 ⊢
                have HYS := Lib.hid hys
                clear hys
                refine takeQ (i := 11) (k := 3) (v := .slice p4 ys.length k4) rfl (by rfl) (by kernel_rfl) (by kernel_rfl) (by kernel_rfl) (fun _ _ _ h => h) (by rfl) ?_ hHeld ?_
                · intro w1 hSw; go_simp
                (try simp only [Act.put, List.setIfInBounds_toArray, List.set_cons_zero, List.set_cons_succ])
                refine wpAnyH_done (by kernel_rfl) ?_ _
                exact ⟨⟨bo15, nI17, ys, p4, k4, HYS.out, rfl, hs4⟩, by simp only [putAll, Act.put, List.setIfInBounds_toArray, List.set_cons_zero, List.set_cons_succ]; rfl⟩
            · skip
              rw [if_pos (by rfl)]
              go_simp
              go_fit (src_n B g 4 _ (by omega) HS4.out.1)
              rintro e wI18 ⟨_, rfl, ⟨r2, rfl, h20, h21⟩, hSz, hgz⟩
              have HSa19 := Lib.hid (HS4.out.src hSz hgz hlt)
              clear hSz hgz
              obtain ⟨j2, rfl⟩ : ∃ j2 : Nat, r2 = j2 := ⟨r2.toNat, by omega⟩
              have hj2 : j2 < 4 := by omega
              clear h20 h21
              refine hK.out _ _ trivial (fun hHeld => ?_)
              clear hK K
              (try simp only [Act.put, List.setIfInBounds_toArray, List.set_cons_zero, List.set_cons_succ])
              refine wpAnyH_ready (rs := [1, 7]) (by kernel_rfl) (by simp) ?_
              refine AllReadyH.cons rfl (fun K hK => ?_) (AllReadyH.cons rfl (fun K hK => ?_) AllReadyH.nil)
              · skip
                rw [if_pos (by rfl)]
                go_simp
                have HSa20 := Lib.hid (HSa19.out.on ((Below.refl _ _).alloc (Nat.le_refl _) (.cells #[.int .i64 (-129), .int .i64 (-128), .int .i64 127, .int .i64 128] 2)))
                have HAa21 := Lib.hid (Arr.fresh wI18 2 [.int .i64 (-129), .int .i64 (-128), .int .i64 127, .int .i64 128])
                refine hK.out _ _ trivial (fun hHeld => ?_)
                clear hK K
                (try simp only [Act.put, List.setIfInBounds_toArray, List.set_cons_zero, List.set_cons_succ])
                have hbbI22 : w.heap.size ≤ wI18.heap.size := HSa19.out.2.1.size
                generalize wI18.heap.size = bI22 at HAa21 hbbI22 ⊢
                generalize wI18.alloc (.cells #[.int .i64 (-129), .int .i64 (-128), .int .i64 127, .int .i64 128] 2) = wI23 at HSa20 HAa21 ⊢
                refine takeQ (i := 4) (k := 81) (v := .pointer (some ⟨bI22, j2, none⟩)) rfl (by rfl) (by kernel_rfl) (by kernel_rfl) (by kernel_rfl) (fun _ _ _ h => h) (by rfl) ?_ hHeld ?_
                · intro w1 hSw; go_simp; (try (intro h9; exact absurd h9 (by omega)))
                (try simp only [Act.put, List.setIfInBounds_toArray, List.set_cons_zero, List.set_cons_succ])
                refine wpAnyH_ready (rs := [5, 7]) (by kernel_rfl) (by simp) ?_
                refine AllReadyH.cons rfl (fun K hK => ?_) (AllReadyH.cons rfl (fun K hK => ?_) AllReadyH.nil)
                · skip
                  rw [if_pos (by rfl)]
                  go_simp
                  obtain ⟨nI24, hn4⟩ := four_at HAa21.out hj2
                  go_simp
                  clear hn4
                  refine hK.out _ _ trivial (fun hHeld => ?_)
                  clear hK K
                  (try simp only [Act.put, List.setIfInBounds_toArray, List.set_cons_zero, List.set_cons_succ])
                  refine wpAnyH_ready (rs := [7]) (by kernel_rfl) (by simp) ?_
                  refine AllReadyH.cons rfl (fun K hK => ?_) AllReadyH.nil
                  rw [if_pos (by rfl)]
                  go_simp
                  go_fit (src_one B g 2 _ (by omega) HSa20.out.1)
                  rintro e wI25 ⟨_, rfl, ⟨bo27, rfl⟩, hSz, hgz⟩
                  have HSa26 := Lib.hid (HSa20.out.src hSz hgz hlt)
                  have HAa28 := Lib.hid (arr_grown9 HAa21.out hgz (by omega))
                  clear hSz hgz
                  refine hK.out _ _ trivial (fun hHeld => ?_)
                  clear hK K
                  (try simp only [Act.put, List.setIfInBounds_toArray, List.set_cons_zero, List.set_cons_succ])
                  refine takeQ (i := 8) (k := 85) (v := .agg #[.string ⟨#[122, 122]⟩, .bool bo27, .int .i64 nI24, .string ⟨#[]⟩]) rfl (by rfl) (by kernel_rfl) (by kernel_rfl) (by kernel_rfl) (fun _ _ _ h => h) (by rfl) ?_ hHeld ?_
                  · intro w1 hSw; go_simp
                  (try simp only [Act.put, List.setIfInBounds_toArray, List.set_cons_zero, List.set_cons_succ])
                  refine wpAnyH_ready (rs := [9]) (by kernel_rfl) (by simp) ?_
                  refine AllReadyH.cons rfl (fun K hK => ?_) AllReadyH.nil
                  rw [if_pos (by rfl)]
                  go_simp
                  refine hK.out _ _ trivial (fun hHeld => ?_)
                  clear hK K
                  (try simp only [Act.put, List.setIfInBounds_toArray, List.set_cons_zero, List.set_cons_succ])
                  refine wpAnyH_ready (rs := [10]) (by kernel_rfl) (by simp) ?_
                  refine AllReadyH.cons rfl (fun K hK => ?_) AllReadyH.nil
                  rw [if_pos (by rfl)]
                  refine wp_app_one9 _ _ rfl w.heap.size _ xs rfl (HSa26.out.2.2.alloc _) wI25.heap.size ⟨⟨#[122, 122]⟩, bo27, nI24, ⟨#[]⟩⟩ rfl (Arr.fresh wI25 40 (seC ⟨⟨#[122, 122]⟩, bo27, nI24, ⟨#[]⟩⟩)) HL.out (by rw [World.size_alloc]; have := HSa26.out.2.1.size; omega) ?_
                  intro v4 w4 hv4 hg4
                  have HS4 := Lib.hid (sds_app HSa26.out hlt hv4 hg4)
                  clear hv4 hg4
                  refine hK.out _ _ trivial (fun hHeld => ?_)
                  clear hK K
                  (try simp only [Act.put, List.setIfInBounds_toArray, List.set_cons_zero, List.set_cons_succ])
                  obtain ⟨p4, k4, e4, hs4⟩ := HS4.out
                  subst e4
                  obtain ⟨ys, hys⟩ : ∃ ys, xs ++ [(⟨⟨#[122, 122]⟩, bo27, nI24, ⟨#[]⟩⟩ : SeL)] = ys := ⟨_, rfl⟩
                  rw [hys] at hs4 ⊢
                  have HYS := Lib.hid hys
                  clear hys
                  refine takeQ (i := 11) (k := 3) (v := .slice p4 ys.length k4) rfl (by rfl) (by kernel_rfl) (by kernel_rfl) (by kernel_rfl) (fun _ _ _ h => h) (by rfl) ?_ hHeld ?_
                  · intro w1 hSw; go_simp
                  (try simp only [Act.put, List.setIfInBounds_toArray, List.set_cons_zero, List.set_cons_succ])
                  refine wpAnyH_done (by kernel_rfl) ?_ _
                  exact ⟨⟨bo27, nI24, ys, p4, k4, HYS.out, rfl, hs4⟩, by simp only [putAll, Act.put, List.setIfInBounds_toArray, List.set_cons_zero, List.set_cons_succ]; rfl⟩
                · skip
                  rw [if_pos (by rfl)]
                  go_simp
                  go_fit (src_one B g 2 _ (by omega) HSa20.out.1)
                  rintro e wI29 ⟨_, rfl, ⟨bo31, rfl⟩, hSz, hgz⟩
                  have HSa30 := Lib.hid (HSa20.out.src hSz hgz hlt)
                  have HAa32 := Lib.hid (arr_grown9 HAa21.out hgz (by omega))
                  clear hSz hgz
                  refine hK.out _ _ trivial (fun hHeld => ?_)
                  clear hK K
                  (try simp only [Act.put, List.setIfInBounds_toArray, List.set_cons_zero, List.set_cons_succ])
                  refine wpAnyH_ready (rs := [5]) (by kernel_rfl) (by simp) ?_
                  refine AllReadyH.cons rfl (fun K hK => ?_) AllReadyH.nil
                  rw [if_pos (by rfl)]
                  go_simp
                  obtain ⟨nI33, hn4⟩ := four_at HAa32.out hj2
                  go_simp
                  clear hn4
                  refine hK.out _ _ trivial (fun hHeld => ?_)
                  clear hK K
                  (try simp only [Act.put, List.setIfInBounds_toArray, List.set_cons_zero, List.set_cons_succ])
                  refine takeQ (i := 8) (k := 85) (v := .agg #[.string ⟨#[122, 122]⟩, .bool bo31, .int .i64 nI33, .string ⟨#[]⟩]) rfl (by rfl) (by kernel_rfl) (by kernel_rfl) (by kernel_rfl) (fun _ _ _ h => h) (by rfl) ?_ hHeld ?_
                  · intro w1 hSw; go_simp
                  (try simp only [Act.put, List.setIfInBounds_toArray, List.set_cons_zero, List.set_cons_succ])
                  refine wpAnyH_ready (rs := [9]) (by kernel_rfl) (by simp) ?_
                  refine AllReadyH.cons rfl (fun K hK => ?_) AllReadyH.nil
                  rw [if_pos (by rfl)]
                  go_simp
                  refine hK.out _ _ trivial (fun hHeld => ?_)
                  clear hK K
                  (try simp only [Act.put, List.setIfInBounds_toArray, List.set_cons_zero, List.set_cons_succ])
                  refine wpAnyH_ready (rs := [10]) (by kernel_rfl) (by simp) ?_
                  refine AllReadyH.cons rfl (fun K hK => ?_) AllReadyH.nil
                  rw [if_pos (by rfl)]
                  refine wp_app_one9 _ _ rfl w.heap.size _ xs rfl (HSa30.out.2.2.alloc _) wI29.heap.size ⟨⟨#[122, 122]⟩, bo31, nI33, ⟨#[]⟩⟩ rfl (Arr.fresh wI29 40 (seC ⟨⟨#[122, 122]⟩, bo31, nI33, ⟨#[]⟩⟩)) HL.out (by rw [World.size_alloc]; have := HSa30.out.2.1.size; omega) ?_
                  intro v4 w4 hv4 hg4
                  have HS4 := Lib.hid (sds_app HSa30.out hlt hv4 hg4)
                  clear hv4 hg4
                  refine hK.out _ _ trivial (fun hHeld => ?_)
                  clear hK K
                  (try simp only [Act.put, List.setIfInBounds_toArray, List.set_cons_zero, List.set_cons_succ])
                  obtain ⟨p4, k4, e4, hs4⟩ := HS4.out
                  subst e4
                  obtain ⟨ys, hys⟩ : ∃ ys, xs ++ [(⟨⟨#[122, 122]⟩, bo31, nI33, ⟨#[]⟩⟩ : SeL)] = ys := ⟨_, rfl⟩
                  rw [hys] at hs4 ⊢
                  have HYS := Lib.hid hys
                  clear hys
                  refine takeQ (i := 11) (k := 3) (v := .slice p4 ys.length k4) rfl (by rfl) (by kernel_rfl) (by kernel_rfl) (by kernel_rfl) (fun _ _ _ h => h) (by rfl) ?_ hHeld ?_
                  · intro w1 hSw; go_simp
                  (try simp only [Act.put, List.setIfInBounds_toArray, List.set_cons_zero, List.set_cons_succ])
                  refine wpAnyH_done (by kernel_rfl) ?_ _
                  exact ⟨⟨bo31, nI33, ys, p4, k4, HYS.out, rfl, hs4⟩, by simp only [putAll, Act.put, List.setIfInBounds_toArray, List.set_cons_zero, List.set_cons_succ]; rfl⟩
              · skip
                rw [if_pos (by rfl)]
                go_simp
                go_fit (src_one B g 2 _ (by omega) HSa19.out.1)
                rintro e wI34 ⟨_, rfl, ⟨bo36, rfl⟩, hSz, hgz⟩
                have HSa35 := Lib.hid (HSa19.out.src hSz hgz hlt)
                clear hSz hgz
                refine hK.out _ _ trivial (fun hHeld => ?_)
                clear hK K
                (try simp only [Act.put, List.setIfInBounds_toArray, List.set_cons_zero, List.set_cons_succ])
                refine wpAnyH_ready (rs := [1]) (by kernel_rfl) (by simp) ?_
                refine AllReadyH.cons rfl (fun K hK => ?_) AllReadyH.nil
                rw [if_pos (by rfl)]
                go_simp
                have HSa37 := Lib.hid (HSa35.out.on ((Below.refl _ _).alloc (Nat.le_refl _) (.cells #[.int .i64 (-129), .int .i64 (-128), .int .i64 127, .int .i64 128] 2)))
                have HAa38 := Lib.hid (Arr.fresh wI34 2 [.int .i64 (-129), .int .i64 (-128), .int .i64 127, .int .i64 128])
                refine hK.out _ _ trivial (fun hHeld => ?_)
                clear hK K
                (try simp only [Act.put, List.setIfInBounds_toArray, List.set_cons_zero, List.set_cons_succ])
                have hbbI39 : w.heap.size ≤ wI34.heap.size := HSa35.out.2.1.size
                generalize wI34.heap.size = bI39 at HAa38 hbbI39 ⊢
                generalize wI34.alloc (.cells #[.int .i64 (-129), .int .i64 (-128), .int .i64 127, .int .i64 128] 2) = wI40 at HSa37 HAa38 ⊢
                refine takeQ (i := 4) (k := 81) (v := .pointer (some ⟨bI39, j2, none⟩)) rfl (by rfl) (by kernel_rfl) (by kernel_rfl) (by kernel_rfl) (fun _ _ _ h => h) (by rfl) ?_ hHeld ?_
                · intro w1 hSw; go_simp; (try (intro h9; exact absurd h9 (by omega)))
                (try simp only [Act.put, List.setIfInBounds_toArray, List.set_cons_zero, List.set_cons_succ])
                refine wpAnyH_ready (rs := [5]) (by kernel_rfl) (by simp) ?_
                refine AllReadyH.cons rfl (fun K hK => ?_) AllReadyH.nil
                rw [if_pos (by rfl)]
                go_simp
                obtain ⟨nI41, hn4⟩ := four_at HAa38.out hj2
                go_simp
                clear hn4
                refine hK.out _ _ trivial (fun hHeld => ?_)
                clear hK K
                (try simp only [Act.put, List.setIfInBounds_toArray, List.set_cons_zero, List.set_cons_succ])
                refine takeQ (i := 8) (k := 85) (v := .agg #[.string ⟨#[122, 122]⟩, .bool bo36, .int .i64 nI41, .string ⟨#[]⟩]) rfl (by rfl) (by kernel_rfl) (by kernel_rfl) (by kernel_rfl) (fun _ _ _ h => h) (by rfl) ?_ hHeld ?_
                · intro w1 hSw; go_simp
                (try simp only [Act.put, List.setIfInBounds_toArray, List.set_cons_zero, List.set_cons_succ])
                refine wpAnyH_ready (rs := [9]) (by kernel_rfl) (by simp) ?_
                refine AllReadyH.cons rfl (fun K hK => ?_) AllReadyH.nil
                rw [if_pos (by rfl)]
                go_simp
                refine hK.out _ _ trivial (fun hHeld => ?_)
                clear hK K
                (try simp only [Act.put, List.setIfInBounds_toArray, List.set_cons_zero, List.set_cons_succ])
                refine wpAnyH_ready (rs := [10]) (by kernel_rfl) (by simp) ?_
                refine AllReadyH.cons rfl (fun K hK => ?_) AllReadyH.nil
                rw [if_pos (by rfl)]
                refine wp_app_one9 _ _ rfl w.heap.size _ xs rfl (HSa37.out.2.2.alloc _) wI40.heap.size ⟨⟨#[122, 122]⟩, bo36, nI41, ⟨#[]⟩⟩ rfl (Arr.fresh wI40 40 (seC ⟨⟨#[122, 122]⟩, bo36, nI41, ⟨#[]⟩⟩)) HL.out (by rw [World.size_alloc]; have := HSa37.out.2.1.size; omega) ?_
                intro v4 w4 hv4 hg4
                have HS4 := Lib.hid (sds_app HSa37.out hlt hv4 hg4)
                clear hv4 hg4
                refine hK.out _ _ trivial (fun hHeld => ?_)
                clear hK K
                (try simp only [Act.put, List.setIfInBounds_toArray, List.set_cons_zero, List.set_cons_succ])
                obtain ⟨p4, k4, e4, hs4⟩ := HS4.out
                subst e4
                obtain ⟨ys, hys⟩ : ∃ ys, xs ++ [(⟨⟨#[122, 122]⟩, bo36, nI41, ⟨#[]⟩⟩ : SeL)] = ys := ⟨_, rfl⟩
                rw [hys] at hs4 ⊢
                have HYS := Lib.hid hys
                clear hys
                refine takeQ (i := 11) (k := 3) (v := .slice p4 ys.length k4) rfl (by rfl) (by kernel_rfl) (by kernel_rfl) (by kernel_rfl) (fun _ _ _ h => h) (by rfl) ?_ hHeld ?_
                · intro w1 hSw; go_simp
                (try simp only [Act.put, List.setIfInBounds_toArray, List.set_cons_zero, List.set_cons_succ])
                refine wpAnyH_done (by kernel_rfl) ?_ _
                exact ⟨⟨bo36, nI41, ys, p4, k4, HYS.out, rfl, hs4⟩, by simp only [putAll, Act.put, List.setIfInBounds_toArray, List.set_cons_zero, List.set_cons_succ]; rfl⟩
          · intro vs W hR
            obtain ⟨o, n, ys, p4, k4, hys, e4, hs4⟩ := hR
            have HYS := Lib.hid hys
            have HS5 := Lib.hid hs4
            simp only [putAll, Act.put, List.foldl, List.setIfInBounds_toArray, List.set_cons_zero, List.set_cons_succ, e4]
            clear e4 hs4 hys
            go_wp2_with fail
            go_ret
            obtain rfl := HYS.out
            exact ⟨_, p4, k4, rfl, HS5.out, by have := HW.out.1; rw [List.length_append]; show _ + 1 ≤ 6; omega, fun x hx => by
              rcases List.mem_append.1 hx with hx | hx
              · exact HW.out.2 x hx
              · obtain rfl := List.mem_singleton.1 hx
                exact ⟨by show (2 : Nat) ≤ 100; omega, by show (0 : Nat) ≤ 100; omega⟩⟩
          -- R23
        · go_wp2_with (at_builtin; refine wpList_plain rfl fun K hK => ?_; refine wp_app_one9 _ _ rfl w.heap.size _ xs rfl (HS3.out.2.2.alloc _) w3.heap.size ⟨⟨#[122, 122]⟩, true, 0, ⟨#[110, 111]⟩⟩ rfl (Arr.fresh w3 40 (seC ⟨⟨#[122, 122]⟩, true, 0, ⟨#[110, 111]⟩⟩)) HL.out (by rw [World.size_alloc]; have := HS3.out.2.1.size; omega) ?_; intro v4 w4 hv4 hg4; have HS4 := Lib.hid (sds_app HS3.out hlt hv4 hg4); clear hv4 hg4; obtain ⟨p4, k4, e4, hs4⟩ := HS4.out; subst e4; have HS5 := Lib.hid hs4; clear hs4 HS4; refine hK _ _ ?_)
          go_ret
          exact ⟨_, p4, k4, by rw [List.length_append]; rfl, HS5.out, by have := HW.out.1; rw [List.length_append]; show _ + 1 ≤ 6; omega, fun x hx => by
            rcases List.mem_append.1 hx with hx | hx
            · exact HW.out.2 x hx
            · obtain rfl := List.mem_singleton.1 hx
              exact ⟨by decide, by decide⟩⟩
end Go.Proofs.YtafdjjdmcnlddaaGreat

namespace Go.Proofs.YtafdjjdmcnlddaaGreat
set_option linter.unusedSimpArgs false
set_option linter.unusedVariables false
open Go.RowKit Go.Joins

end Go.Proofs.YtafdjjdmcnlddaaGreat
