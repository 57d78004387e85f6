/- What FnBlock and FnHeard draw: block lists. -/
import Derived.Test.YtpjmcpfmnlfmdaaBkAdd
import Derived.Test.YtpjmcpfmnlfmdaaBkOutL
import Derived.Test.YtpjmcpfmnlfmdaaPickDraws
import Derived.Test.YtpjmcpfmnlfmdaaSmJoin
import Derived.Test.YtpjmcpfmnlfmdaaHandQ
namespace Go.Proofs.Ytpjmcpfmnlfmdaa
set_option linter.unusedSimpArgs false
set_option linter.unusedVariables false
open Go.RowKit Go.Joins

/-- Small lists. -/
def TxW (xs : List ByteArray) : Prop := xs.length ≤ 8 ∧ ∀ x ∈ xs, x.size ≤ 100
theorem txw_ill (c : Int) : TxW (illB c).l := ⟨Nat.zero_le _, fun x hx => by cases hx⟩
theorem txw_add {xs : List ByteArray} {r : ByteArray} (h : TxW xs) (hr : r.size ≤ 100) : TxW (addR xs r).l := by
  unfold addR
  split
  · exact txw_ill _
  · split
    · exact txw_ill _
    · split
      · exact txw_ill _
      · split
        · exact txw_ill _
        · rename_i h5
          have hl := h.1
          refine ⟨?_, fun x hx => ?_⟩
          · show (xs.take _ ++ [r] ++ xs.drop _).length ≤ 8
            simp only [List.length_append, List.length_take, List.length_drop, List.length_cons, List.length_nil]
            omega
          · rcases List.mem_append.1 hx with hx | hx
            · rcases List.mem_append.1 hx with hx | hx
              · exact h.2 x (List.mem_of_mem_take hx)
              · obtain rfl := List.mem_singleton.1 hx
                exact hr
            · exact h.2 x (List.mem_of_mem_drop hx)
theorem txw_del {xs : List ByteArray} {r : ByteArray} (h : TxW xs) : TxW (delR xs r).l := by
  unfold delR
  split
  · exact txw_ill _
  · split
    · exact txw_ill _
    · split
      · exact txw_ill _
      · have hl := h.1
        refine ⟨?_, fun x hx => ?_⟩
        · show (xs.take _ ++ xs.drop _).length ≤ 8
          rw [List.length_append, List.length_take, List.length_drop]
          omega
        · rcases List.mem_append.1 hx with hx | hx
          · exact h.2 x (List.mem_of_mem_take hx)
          · exact h.2 x (List.mem_of_mem_drop hx)
theorem who_small : ∀ s ∈ [(⟨#[97, 110, 110, 64, 97]⟩ : ByteArray), ⟨#[98, 111, 98, 64, 98, 47, 104, 111, 109, 101]⟩, ⟨#[97]⟩, ⟨#[97, 110, 110, 64, 97, 47, 120]⟩, ⟨#[99, 64, 97, 46, 98]⟩, ⟨#[98]⟩, ⟨#[98, 111, 98, 64, 98]⟩], s.size ≤ 100 := by
  intro s hs
  simp at hs
  rcases hs with rfl | rfl | rfl | rfl | rfl | rfl | rfl <;> decide
theorem odd_small : ∀ s ∈ [(⟨#[65]⟩ : ByteArray), ⟨#[97]⟩, ⟨#[122, 122]⟩], s.size ≤ 100 := by
  intro s hs
  simp at hs
  rcases hs with rfl | rfl | rfl <;> decide
set_option maxRecDepth 100000 in
set_option maxHeartbeats 1000000 in
theorem draw_bwho (B g : Nat) (w : World) (hS : Src w B g) : Calls Try.prog 43 #[.pointer (some ⟨g, 0, none⟩)] w (Drew B g w (StrIn 100)) := by
  have hlt := hS.lt
  have hBg := hS.1
  have HS := Lib.hid hS
  clear hS
  go_enter Try.func43, Try.ntmps43
  go_wp2_with fail
  refine (src_pick B g w.heap.size 7 100 _ (by omega) (by omega) (HS.out.alloc _) (by omega) (strRow_at w 9 100 _ [⟨#[97, 110, 110, 64, 97]⟩, ⟨#[98, 111, 98, 64, 98, 47, 104, 111, 109, 101]⟩, ⟨#[97]⟩, ⟨#[97, 110, 110, 64, 97, 47, 120]⟩, ⟨#[99, 64, 97, 46, 98]⟩, ⟨#[98]⟩, ⟨#[98, 111, 98, 64, 98]⟩] rfl who_small)).mono ?_
  rintro e w1 ⟨_, rfl, ⟨x, rfl, hx⟩, hS1, hg1⟩
  go_wp2
  go_ret
  exact ⟨_, rfl, ⟨x, rfl, hx⟩, hS1, grown_same (World.grownBy_alloc w _ (some g)) hg1⟩
theorem own_grownX {α : Type} {enc : α → List Value} {W W2 : World} {g B e size : Nat} {v : Value} {xs : List α} (ho : OwnC enc W B e size v xs) (hg : W.grownBy W2 (some g)) (hB : g < B) : OwnC enc W2 B e size v xs := by
  refine ⟨ho.1, ?_⟩
  rcases ho.2 with h0 | ⟨j, c, cur, h1, h2, h3, h4⟩
  · exact .inl h0
  · exact .inr ⟨j, c, cur, h1, h2, (hg.block j (Array.getElem?_eq_some_iff.1 h3).1 (fun e => by have := Option.some.inj e; omega)).trans h3, h4⟩
theorem arr_grownX {W W2 : World} {g b t : Nat} {cs : List Value} (h : Arr W b t cs) (hg : W.grownBy W2 (some g)) (hne : b ≠ g) : Arr W2 b t cs := (hg.block b (arrX_lt h) (fun e => hne (Option.some.inj e))).trans h
/-- The source, and texts that lie in a row of the call's own. -/
def TdS (w W : World) (B g : Nat) (xs : List ByteArray) (p : Option Addr) (k : Nat) : Prop :=
  Src W B g ∧ w.grownBy W (some g) ∧ OwnC strC W w.heap.size 9 1 (.slice p xs.length k) xs
theorem TdS.on {w W W2 : World} {B g : Nat} {xs : List ByteArray} {p : Option Addr} {k : Nat} (h : TdS w W B g xs p k) (hb : Below W.heap.size W W2) : TdS w W2 B g xs p k := ⟨h.1.on hb, grown_on h.2.1 hb, h.2.2.on hb⟩
theorem TdS.src {w W W2 : World} {B g : Nat} {xs : List ByteArray} {p : Option Addr} {k : Nat} (h : TdS w W B g xs p k) (hS : Src W2 B g) (hg : W.grownBy W2 (some g)) (hlt : g < w.heap.size) : TdS w W2 B g xs p k :=
  ⟨hS, grown_same h.2.1 hg, own_grownX h.2.2 hg hlt⟩
theorem tds_app {w W W2 : World} {B g : Nat} {xs ys : List ByteArray} {p : Option Addr} {k : Nat} {o : Obj} {v : Value} (h : TdS w W B g xs p k) (hlt : g < w.heap.size) (hv : OwnC strC W2 w.heap.size 9 1 v ys) (hg : (W.alloc o).grownBy W2 (Value.slice p xs.length k).ownBlock) :
    ∃ p4 k4, v = .slice p4 ys.length k4 ∧ TdS w W2 B g ys p4 k4 := by
  obtain ⟨p4, k4, e⟩ := own_lenX hv
  have hb := own_base h.2.2
  have hB := h.1.1
  have hl := h.1.lt
  exact ⟨p4, k4, e, (h.1.alloc o).other hg (fun q hq => by have := hb q hq; omega) (by rw [World.size_alloc]; omega) (fun q hq => by have := hb q hq; omega), grown_over (grown_alloc h.2.1 o) hg hb, e ▸ hv⟩
set_option maxRecDepth 100000 in
set_option maxHeartbeats 4000000 in
theorem draw_blocks (B g : Nat) (w : World) (hS : Src w B g) :
    Calls Try.prog 40 #[.pointer (some ⟨g, 0, none⟩)] w fun e w' => ∃ xs p k, e = .returned (.slice p xs.length k) ∧ TdS w w' B g xs p k ∧ (xs.length ≤ 9 ∧ ∀ x ∈ xs, x.size ≤ 100) := by
  have hlt := hS.lt
  have hBg := hS.1
  have HS0 : Hid (TdS w (w.alloc (.cells #[] 9)) B g [] (some ⟨w.heap.size, 0, none⟩) 0) := Lib.hid ⟨hS.alloc _, World.grownBy_alloc w _ _, empty_rowX w⟩
  clear hS
  go_enter Try.func40, Try.ntmps40
  go_wp2_with fail
  refine (src_n B g 7 _ (by omega) HS0.out.1).mono ?_
  rintro e w1 ⟨_, rfl, ⟨z0, rfl, hz0, hz1⟩, hS1, hg1⟩
  have HS1 := Lib.hid (HS0.out.src hS1 hg1 hlt)
  clear hS1 hg1
  go_wp2_with fail
  go_loopw [3, 4] (fun lq kq wr => ∃ (xs : List ByteArray) (p : Option Addr) (k m : Nat) (z : Int), lq = .slice p m k ∧ m = xs.length ∧ kq = .int .i64 z ∧ 0 ≤ z ∧ z ≤ 7 ∧ TdS w wr B g xs p k ∧ TxW xs) (fun _ z _ => (intOf z).toNat)
  case atStart => exact ⟨[], _, _, 0, z0, rfl, rfl, rfl, hz0, by omega, HS1.out, Nat.zero_le _, fun x hx => by cases hx⟩
  case round =>
    obtain ⟨xs, p, k, m, z, rfl, hm, rfl, hz, hz9, hs, hw⟩ := hrel
    have HS := Lib.hid hs
    have HW := Lib.hid hw
    have HM := Lib.hid hm
    have i1 := fun (r : ByteArray) (hr : r.size ≤ 100) W hO => spec_blockadd xs r p k w.heap.size W (by have := HW.out.1; omega) (by omega) (fun x hx => by have := HW.out.2 x hx; omega) hO
    unfold BoIs at i1
    rw [← hm] at i1
    clear hs hw hm
    by_cases h0 : 0 < z
    · go_wp2_with fail
      refine (draw_bwho B g wr HS.out.1).mono ?_
      rintro e w2 ⟨_, rfl, ⟨r, rfl, hr⟩, hS2, hg2⟩
      have HS2 := Lib.hid (HS.out.src hS2 hg2 hlt)
      have hww := Lib.hid HS2.out.2.1.size
      clear hS2 hg2 HS
      go_wp2_with fail
      go_fit (i1 r hr w2 (by rw [HM.out]; exact HS2.out.2.2))
      rintro e w3 ⟨⟨q, l, rfl, ho⟩, hb⟩
      have HS3 := Lib.hid (HS2.out.on hb)
      have HO3 := Lib.hid (ho.mono hww.out)
      have hRW := txw_add HW.out hr
      clear ho hb HS2 hww
      obtain ⟨R, hR⟩ : ∃ R, addR xs r = R := ⟨_, rfl⟩
      rw [hR] at HO3 hRW ⊢
      have HRW := Lib.hid hRW
      have HS4 := Lib.hid (HS3.out.on ((Below.refl _ _).alloc (Nat.le_refl _) (.cells #[.slice q R.l.length l, .int .i64 R.c] 27)))
      have HO4 := Lib.hid (HO3.out.alloc (.cells #[.slice q R.l.length l, .int .i64 R.c] 27))
      clear hR hRW
      by_cases hc : R.c = 0
      · have hsb := HS4.out
        have hob := HO4.out
        rw [hc] at hsb hob
        have HSB := Lib.hid hsb
        have HOB := Lib.hid hob
        clear hsb hob
        go_wp2_with fail
        go_roundw
        case rel => exact ⟨R.l, q, l, R.l.length, z - 1, rfl, rfl, by go_num, by omega, by omega, ⟨HSB.out.1, HSB.out.2.1, HOB.out⟩, HRW.out⟩
        case measure => simp [intOf]; omega
      · go_wp2_with fail
        go_roundw
        case rel => exact ⟨xs, _, k, m, z - 1, rfl, HM.out, by go_num, by omega, by omega, HS4.out, HW.out⟩
        case measure => simp [intOf]; omega
    · have hz00 : z = 0 := by omega
      subst hz00
      go_wp2_with fail
      refine (src_one B g 20 wr (by omega) HS.out.1).mono ?_
      rintro e w2 ⟨_, rfl, ⟨b, rfl⟩, hS2, hg2⟩
      have HS2 := Lib.hid (HS.out.src hS2 hg2 hlt)
      clear hS2 hg2 HS
      cases b
      · go_wp2_with fail
        go_ret
        have h := HM.out
        subst h
        exact ⟨xs, p, k, rfl, HS2.out, by have := HW.out.1; omega, HW.out.2⟩
      · go_wp2_with fail
        have hgw2 : g < w2.heap.size := by have := HS2.out.2.1.size; omega
        refine (src_pick B g w2.heap.size 3 100 _ (by omega) (by omega) (HS2.out.1.alloc _) (by omega) (strRow_at w2 9 100 _ [⟨#[65]⟩, ⟨#[97]⟩, ⟨#[122, 122]⟩] rfl odd_small)).mono ?_
        rintro e w3 ⟨_, rfl, ⟨sh, rfl, hsh⟩, hS3, hg3⟩
        have HS3 := Lib.hid ((HS2.out.on ((Below.refl _ _).alloc (Nat.le_refl _) _)).src hS3 hg3 hlt)
        clear hS3 hg3 HS2
        have h := HM.out
        subst h
        go_wp2_with (at_builtin; refine wpList_plain rfl fun K hK => ?_; refine wp_app_oneX _ _ rfl w.heap.size _ xs rfl (HS3.out.2.2.alloc _) w3.heap.size sh rfl (Arr.fresh w3 9 [.string sh]) (by have := HW.out.1; omega) (by rw [World.size_alloc]; have := HS3.out.2.1.size; omega) ?_; intro v4 w4 hv4 hg4; have HS4 := Lib.hid (tds_app HS3.out hlt hv4 hg4); clear hv4 hg4; refine hK _ _ ?_)
        obtain ⟨p4, k4, e4, hs4⟩ := HS4.out
        subst e4
        go_ret
        exact ⟨_, p4, k4, rfl, hs4, by have := HW.out.1; rw [List.length_append]; show _ + 1 ≤ 9; omega, fun x hx => by
          rcases List.mem_append.1 hx with hx | hx
          · exact HW.out.2 x hx
          · obtain rfl := List.mem_singleton.1 hx
            exact hsh⟩
theorem new_small : ∀ s ∈ [(⟨#[]⟩ : ByteArray), ⟨#[65]⟩, ⟨#[110, 101, 119, 64, 110]⟩], s.size ≤ 100 := by
  intro s hs
  simp at hs
  rcases hs with rfl | rfl | rfl <;> decide
/-- A drawn list and a text. -/
def BkD (B : Nat) (e : Ending) (W : World) : Prop := ∃ xs p k j, e = .returned (.tuple #[.slice p xs.length k, .string j]) ∧ OwnC strC W B 9 1 (.slice p xs.length k) xs ∧ xs.length ≤ 9 ∧ (∀ x ∈ xs, x.size ≤ 100) ∧ j.size ≤ 100
set_option maxRecDepth 100000 in
set_option maxHeartbeats 1000000 in
theorem draw_badd (a : Option Addr) (len cap : Nat) (w : World) (hlen : len ≤ 1048576) (hrow : SrcRow w w.heap.size a len) :
    Calls Try.prog 10 #[.slice a len cap] w fun e w' => BkD w.heap.size e w' ∧ Below w.heap.size w w' := by
  have HR := Lib.hid hrow
  clear hrow
  go_enter Try.func10, Try.ntmps10
  go_wp2_with fail
  refine (src_source a len cap _ hlen HR.out).mono ?_
  rintro e w1 ⟨rfl, hS1, hb1⟩
  have HS1 := Lib.hid hS1
  have HB1 := Lib.hid hb1
  have hlt := hS1.lt
  clear hS1 hb1
  go_wp2_with fail
  refine (draw_blocks w.heap.size w.heap.size w1 HS1.out).mono ?_
  rintro e w2 ⟨xs, p, k, rfl, hs, hl, hw⟩
  have HS2 := Lib.hid hs
  have HW := Lib.hid (And.intro hl hw)
  clear hs hl hw
  obtain ⟨n, hxn⟩ : ∃ n, xs.length = n := ⟨_, rfl⟩
  have HN := Lib.hid hxn
  rw [hxn]
  clear hxn
  go_wp2_with fail
  refine (src_one w.heap.size w.heap.size 8 w2 (by omega) HS2.out.1).mono ?_
  rintro e w3 ⟨_, rfl, ⟨b, rfl⟩, hS3, hg3⟩
  have HS3 := Lib.hid (HS2.out.src hS3 hg3 hlt)
  clear hS3 hg3 HS2
  cases b
  · go_wp2_with fail
    refine (draw_bwho w.heap.size w.heap.size w3 HS3.out.1).mono ?_
    rintro e w4 ⟨_, rfl, ⟨r, rfl, hr⟩, hS4, hg4⟩
    have HS4 := Lib.hid (HS3.out.src hS4 hg4 hlt)
    clear hS4 hg4 HS3
    have HB4 := Lib.hid (below_grown HB1.out HB1.out.size HS4.out.2.1 (Nat.le_refl _))
    go_wp2_with fail
    exact bodyPost_ret (v := .tuple #[.slice p n k, .string r]) (by simp [results, Try.results10, go_sem]) rfl ⟨⟨xs, p, k, r, by rw [HN.out], HS4.out.2.2.mono HB1.out.size, HW.out.1, HW.out.2, hr⟩, HB4.out⟩
  · go_wp2_with fail
    have hgw : w.heap.size < w3.heap.size := by have := HS3.out.2.1.size; omega
    refine (src_pick w.heap.size w.heap.size w3.heap.size 3 100 _ (by omega) (by omega) (HS3.out.1.alloc _) (by omega) (strRow_at w3 9 100 _ [⟨#[]⟩, ⟨#[65]⟩, ⟨#[110, 101, 119, 64, 110]⟩] rfl new_small)).mono ?_
    rintro e w4 ⟨_, rfl, ⟨r, rfl, hr⟩, hS4, hg4⟩
    have HS4 := Lib.hid ((HS3.out.on ((Below.refl _ _).alloc (Nat.le_refl _) _)).src hS4 hg4 hlt)
    clear hS4 hg4 HS3
    have HB4 := Lib.hid (below_grown HB1.out HB1.out.size HS4.out.2.1 (Nat.le_refl _))
    go_wp2_with fail
    exact bodyPost_ret (v := .tuple #[.slice p n k, .string r]) (by simp [results, Try.results10, go_sem]) rfl ⟨⟨xs, p, k, r, by rw [HN.out], HS4.out.2.2.mono HB1.out.size, HW.out.1, HW.out.2, hr⟩, HB4.out⟩
theorem draw_bdel (a : Option Addr) (len cap : Nat) (w : World) (hlen : len ≤ 1048576) (hrow : SrcRow w w.heap.size a len) :
    Calls Try.prog 12 #[.slice a len cap] w fun e w' => BkD w.heap.size e w' ∧ Below w.heap.size w w' := by
  have i1 := draw_badd a len cap w hlen hrow
  unfold BkD at i1
  clear hlen hrow
  go_enter Try.func12, Try.ntmps12
  go_wp2_with (go_at_call 10; go_fit i1; rintro e w1 ⟨⟨xs, p, k, j, rfl, h⟩, hb⟩)
  exact bodyPost_ret (v := .tuple #[.slice p xs.length k, .string j]) (by simp [results, Try.results12, go_sem]) rfl ⟨⟨xs, p, k, j, rfl, h⟩, hb⟩
end Go.Proofs.Ytpjmcpfmnlfmdaa
