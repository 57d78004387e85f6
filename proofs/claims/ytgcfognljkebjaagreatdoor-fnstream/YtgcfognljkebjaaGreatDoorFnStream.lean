/- The parts of the walk, and the law. -/
import Derived.Test.YtgcfognljkebjaaGreatDoorSmDrA
import Derived.Test.YtgcfognljkebjaaGreatDoorChecked
import Derived.Deep.RegionHeld3
import Derived.WalkKit
import Derived.Test.YtgcfognljkebjaaGreatDoorCards
import Derived.Test.YtgcfognljkebjaaGreatDoorTie
import Derived.ProofKit
import Derived.OpenShut
import Derived.ShutString
import Derived.ChangeOld
import Derived.Below
import Derived.Deep.DeepHandedRow
import Derived.LaidHandle
import Derived.LaidLaws
import Derived.HandedShaped
import Derived.Lib.SmallJoins
namespace Go.Proofs.YtgcfognljkebjaaGreatDoor
set_option linter.unusedSimpArgs false
set_option linter.unusedVariables false
open Go.RowKit Go.Joins

/-- The source, the answer's box. -/
def DH (w W : World) : Prop := Src W w.heap.size (w.heap.size + 1) ∧ Arr W w.heap.size 27 [.string ⟨#[]⟩, .string ⟨#[]⟩, .int .i64 0] ∧ Below w.heap.size w W
theorem DH.draw {w W W2 : World} (h : DH w W) (hg : W.grownBy W2 (some (w.heap.size + 1))) (hS : Src W2 w.heap.size (w.heap.size + 1)) : DH w W2 :=
  ⟨hS, Arr.other h.2.1 hg (fun e => by injection e; omega), below_grown h.2.2 h.2.2.size hg (by omega)⟩
theorem DH.alloc {w W : World} (h : DH w W) (o : Obj) : DH w (W.alloc o) :=
  ⟨h.1.alloc o, h.2.1.alloc o, h.2.2.alloc h.2.2.size o⟩
theorem listsH : (∀ s ∈ ([⟨#[97]⟩, ⟨#[98, 46, 99]⟩] : List ByteArray), s.size ≤ 5) ∧ (∀ s ∈ ([⟨#[65]⟩, ⟨#[]⟩, ⟨#[97, 64, 98]⟩] : List ByteArray), s.size ≤ 5) := by
  constructor
  · intro s hs
    simp only [List.mem_cons, List.not_mem_nil, or_false] at hs
    rcases hs with rfl | rfl <;> decide
  · intro s hs
    simp only [List.mem_cons, List.not_mem_nil, or_false] at hs
    rcases hs with rfl | rfl | rfl <;> decide
set_option maxRecDepth 100000 in
set_option maxHeartbeats 2000000 in
theorem draw_head (a : Option Addr) (len cap : Nat) (w : World) (hlen : len ≤ 1048576) (hrow : SrcRow w w.heap.size a len) :
    Calls Tryz.prog 17 #[.slice a len cap] w fun e w' => (∃ f o n, e = .returned (.agg #[.string f, .string o, .int .i64 n]) ∧ f.size ≤ 5 ∧ o.size ≤ 5 ∧ 0 ≤ n ∧ n ≤ 1000000001) ∧ Below w.heap.size w w' := by
  have HR := Lib.hid hrow
  clear hrow
  go_enter Tryz.func17, Tryz.ntmps17
  go_wp2_with fail
  refine (src_sourceB w.heap.size a len cap _ hlen (by simp) (srcRow_alloc HR.out _)).mono ?_
  rintro e w1 ⟨rfl, hS1, hb1⟩
  have hR1 : Arr w1 w.heap.size 27 [.string ⟨#[]⟩, .string ⟨#[]⟩, .int .i64 0] := arr_below (Arr.fresh w _ _) hb1
  have hl1 := hS1.lt
  replace hb1 := below_one hb1
  rw [World.size_alloc] at hS1 hl1
  simp only [World.size_alloc]
  have HD1 : Hid (DH w w1) := Lib.hid ⟨hS1, hR1, hb1⟩
  clear hS1 hR1 hb1
  go_wp2_with fail
  refine (src_pick _ _ w1.heap.size 2 5 _ (by omega) (by omega) (HD1.out.1.alloc _) (by omega) (strRow_at w1 9 5 _ [⟨#[97]⟩, ⟨#[98, 46, 99]⟩] rfl listsH.1)).mono ?_
  rintro e w2 ⟨_, rfl, ⟨f, rfl, hf⟩, hS2, hg2⟩
  have HD2 := Lib.hid ((HD1.out.alloc _).draw hg2 hS2)
  clear hS2 hg2 HD1 hl1
  have hl2 := HD2.out.1.lt
  go_wp2_with fail
  refine (src_pick _ _ w2.heap.size 2 5 _ (by omega) (by omega) (HD2.out.1.alloc _) (by omega) (strRow_at w2 9 5 _ [⟨#[97]⟩, ⟨#[98, 46, 99]⟩] rfl listsH.1)).mono ?_
  rintro e w3 ⟨_, rfl, ⟨o, rfl, ho⟩, hS3, hg3⟩
  have HD3 := Lib.hid ((HD2.out.alloc _).draw hg3 hS3)
  clear hS3 hg3 HD2 hl2
  go_wp2_with fail
  refine (src_n _ _ 99 _ (by omega) HD3.out.1).mono ?_
  rintro e w4 ⟨_, rfl, ⟨r, rfl, r0, r1⟩, hS4, hg4⟩
  have HD4 := Lib.hid (HD3.out.draw hg4 hS4)
  clear hS4 hg4 HD3
  have hl4 := HD4.out.1.lt
  have HB4 := Lib.hid (Arr.fresh w4 27 [.string f, .string o, .int .i64 (1 + r)])
  go_wp2_with fail
  have HE4 := Lib.hid (HD4.out.alloc (.cells #[.string f, .string o, .int .i64 (1 + r)] 27))
  refine (src_one _ _ 6 _ (by omega) HE4.out.1).mono ?_
  rintro e w5 ⟨_, rfl, ⟨q, rfl⟩, hS5, hg5⟩
  have HD5 := Lib.hid (HE4.out.draw hg5 hS5)
  have HB5 := Lib.hid (Arr.other HB4.out hg5 (fun e => by injection e; omega))
  have hb5 := arr_lt HB5.out
  have hw4 : w.heap.size + 1 < w4.heap.size := hl4
  clear hS5 hg5 HE4 HD4 HB4 hl4
  obtain ⟨b, hb⟩ : ∃ b, w4.heap.size = b := ⟨_, rfl⟩
  rw [hb] at HB5 hb5 hw4
  simp only [hb]
  clear hb
  cases q
  · obtain ⟨c0, c1, c2, _⟩ := arr_three HB5.out
    go_wp2_with (refine wpList_store_row rfl 27 _ _ rfl w.heap.size _ rfl rfl 27 _ HD5.out.2.1 (by kernel_rfl) (by rfl) (by kernel_rfl) ?_)
    exact bodyPost_ret (v := .agg #[.string f, .string o, .int .i64 (1 + r)]) (results_cell_row (P := Tryz.prog) Tryz.results17 _ _ w.heap.size 27 _ (0, 0) _ rfl (setRow_heap _ _ _ _ _ _ HD5.out.2.1) Tryz.underlying27 rfl (by kernel_rfl)) rfl ⟨⟨f, o, _, rfl, hf, ho, by omega, by omega⟩, below_setRow HD5.out.2.2 (Nat.le_refl _) _⟩
  · have hl5 := HD5.out.1.lt
    go_wp2_with fail
    refine (src_pick _ _ w5.heap.size 3 5 _ (by omega) (by omega) (HD5.out.1.alloc _) (by omega) (strRow_at w5 9 5 _ [⟨#[65]⟩, ⟨#[]⟩, ⟨#[97, 64, 98]⟩] rfl listsH.2)).mono ?_
    rintro e w6 ⟨_, rfl, ⟨f2, rfl, hf2⟩, hS6, hg6⟩
    have HD6 := Lib.hid ((HD5.out.alloc _).draw hg6 hS6)
    have HB6 := Lib.hid (Arr.other (HB5.out.alloc _) hg6 (fun e => by injection e; omega))
    clear hS6 hg6 HD5 HB5 hl5
    have hl6 := HD6.out.1.lt
    go_wp2_with fail
    refine (src_n _ _ 3 _ (by omega) (HD6.out.1.alloc _)).mono ?_
    rintro e w7 ⟨_, rfl, ⟨r7, rfl, r70, r71⟩, hS7, hg7⟩
    have HD7 := Lib.hid ((HD6.out.alloc _).draw hg7 hS7)
    have HB7 := Lib.hid (Arr.other (HB6.out.alloc _) hg7 (fun e => by injection e; omega))
    have hI7 := Arr.other (Arr.fresh w6 2 [.int .i64 0, .int .i64 1000000000, .int .i64 1000000001]) hg7 (fun e => by injection e; omega)
    clear hS7 hg7 HD6 HB6
    obtain ⟨n0, n1, n2, _⟩ := arr_three hI7
    obtain ⟨k7, rfl⟩ : ∃ k : Nat, r7 = k := ⟨r7.toNat, by omega⟩
    have hk7 : k7 < 3 := by omega
    have hd7 : ∃ z : Int, w7.cell? ⟨w6.heap.size, k7, none⟩ = some (.int .i64 z) ∧ 0 ≤ z ∧ z ≤ 1000000001 := by
      obtain rfl | rfl | rfl : k7 = 0 ∨ k7 = 1 ∨ k7 = 2 := by omega
      · exact ⟨0, n0, by omega, by omega⟩
      · exact ⟨1000000000, n1, by omega, by omega⟩
      · exact ⟨1000000001, n2, by omega, by omega⟩
    obtain ⟨z, hz, z0, z1⟩ := hd7
    clear hI7 n0 n1 n2 r70 r71
    have HS7 := Lib.hid (Arr.row HB7.out [.string f2, .string ⟨#[97]⟩, .int .i64 z])
    obtain ⟨c0, c1, c2, _⟩ := arr_three HS7.out
    have HA7 := Lib.hid (arr_farRow HD7.out.2.1 (show w.heap.size ≠ b by omega) #[.string f2, .string ⟨#[97]⟩, .int .i64 z])
    have HW7 := Lib.hid (below_setRow HD7.out.2.2 (show w.heap.size ≤ b by omega) #[.string f2, .string ⟨#[97]⟩, .int .i64 z])
    go_wp2_with (first
      | (refine wpList_store_row rfl 27 _ _ rfl b _ rfl rfl 27 _ HB7.out (by kernel_rfl) (by rfl) (by kernel_rfl) ?_)
      | (refine wpList_store_row rfl 27 _ _ rfl w.heap.size _ rfl rfl 27 _ HA7.out (by kernel_rfl) (by rfl) (by kernel_rfl) ?_))
    exact bodyPost_ret (v := .agg #[.string f2, .string ⟨#[97]⟩, .int .i64 z]) (results_cell_row (P := Tryz.prog) Tryz.results17 _ _ w.heap.size 27 _ (0, 0) _ rfl (setRow_heap _ _ _ _ _ _ HA7.out) Tryz.underlying27 rfl (by kernel_rfl)) rfl ⟨⟨f2, ⟨#[97]⟩, z, rfl, hf2, by decide, z0, z1⟩, below_setRow HW7.out (Nat.le_refl _) _⟩
end Go.Proofs.YtgcfognljkebjaaGreatDoor

namespace Go.Proofs.YtgcfognljkebjaaGreatDoor
set_option linter.unusedSimpArgs false
set_option linter.unusedVariables false
open Go.RowKit Go.Joins

theorem no10_dom {s : List UInt8} (h : domB (strOf s) = true) : ∀ c ∈ s, c ≠ 10 := by
  have h2 := (domB_iff.1 h).2.1
  unfold partB allC at h2
  rw [Bool.and_eq_true, strOf_data] at h2
  intro c hc e
  have := List.all_eq_true.1 h2.2 c hc
  rw [e] at this
  revert this
  decide
theorem no10_dig (m : Nat) : ∀ c ∈ Lib.decDigits m, c ≠ 10 := by
  induction m using Nat.strongRecOn with
  | _ m ih =>
    have hd : ∀ n : Nat, n < 10 → ∀ c ∈ [UInt8.ofNat (48 + n)], c ≠ 10 := by
      intro n hn c hc
      rw [List.mem_singleton] at hc
      subst hc
      revert n
      decide
    rw [Lib.decDigits]
    split
    · exact hd m (by omega)
    · intro c hc
      rcases List.mem_append.1 hc with h | h
      · exact ih _ (by omega) c h
      · exact hd _ (by omega) c h
theorem no10_id {n : Int} (h : 0 ≤ n) : ∀ c ∈ idL n, c ≠ 10 := by
  unfold idL Lib.itoa
  split
  · intro c hc; cases hc
  · rw [if_neg (by omega)]
    exact no10_dig _
theorem no10_head {f o : List UInt8} {n : Int} (h : hdB (strOf f) (strOf o) n = true) : ∀ c ∈ hdL f o n, c ≠ 10 := by
  have h1 := h
  unfold hdB at h1
  simp only [Bool.and_eq_true, decide_eq_true_eq] at h1
  intro c hc
  unfold hdL at hc
  simp only [List.mem_append] at hc
  rcases hc with hc | hc | hc | hc | hc | hc | hc
  · revert c; decide
  · exact no10_dom h1.1.1 c hc
  · revert c; decide
  · exact no10_dom h1.1.2 c hc
  · revert c; decide
  · exact no10_id (by omega) c hc
  · revert c; decide
theorem smBL_zero : smBL zeroS [] = true := by
  rw [smBL_iff]
  refine ⟨⟨fun h => (by cases h), fun _ => ⟨rfl, rfl, rfl, rfl⟩⟩, Nat.zero_le _, fun x hx => (by cases hx), fun _ => rfl⟩
/-- A head comes back. -/
theorem head_back {f o : List UInt8} {n : Int} (h : hdB (strOf f) (strOf o) n = true) : feedA zeroS [] (hdL f o n ++ [10]) = (⟨⟨f, o, n, true, false, false⟩, [], []⟩, 0) := by
  have hl : (hdL f o n ++ [10]).length ≤ 20000 := by
    have h1 := hdT_le (strOf f) (strOf o) n
    unfold hdT at h1
    rw [if_pos h, strOf_size, strOf_data, strOf_data] at h1
    rw [List.length_append]
    simp only [List.length_cons, List.length_nil]
    omega
  have e := lines_more (hdL f o n) [] (no10_head h)
  have e1 : iniL (hdL f o n ++ [10]) = [hdL f o n] := by unfold iniL; rw [e]; rfl
  have e2 : finL (hdL f o n ++ [10]) = [] := by unfold finL; rw [e]; rfl
  have hk : stepK zeroS (hdL f o n) = (⟨f, o, n, true, false, false⟩, []) := by
    unfold stepK
    rw [lineK_head (f := f) (o := o) (n := n) ⟨h, rfl⟩]
    rfl
  unfold feedA
  rw [if_neg (by omega), if_neg (by rw [smBL_zero]; decide), if_neg (by decide)]
  unfold feedO
  rw [List.nil_append, e1, e2, feedK_on _ (by rw [hk]), hk, feedK_nil]
  rfl
theorem feedA_ok {s : SmS} {R T : List UInt8} (h : (feedA s R T).2 = 0) : T.length ≤ 20000 ∧ okS s ∧ smBL s R = true ∧ s.de = false ∧ feedA s R T = (feedO s (R ++ T), 0) := by
  unfold feedA at h
  split at h
  · exact absurd h (by decide)
  rename_i hT
  split at h
  · exact absurd h (by decide)
  rename_i hB
  split at h
  · exact absurd h (by decide)
  rename_i hd
  have hB' : smBL s R = true := by revert hB; cases smBL s R <;> simp
  refine ⟨by omega, (smBL_iff.1 hB').1, hB', by revert hd; cases s.de <;> simp, ?_⟩
  unfold feedA
  rw [if_neg hT, if_neg hB, if_neg hd]
theorem feedA_bad {s : SmS} {R T : List UInt8} (h : (feedA s R T).2 ≠ 0) : (feedA s R T).1.xs = [] := by
  unfold feedA at h ⊢
  split
  · rfl
  · split
    · rfl
    · split
      · rfl
      · rename_i h1 h2 h3
        rw [if_neg h1, if_neg h2, if_neg h3] at h
        exact absurd rfl h
theorem feedA_go {s : SmS} {R T : List UInt8} (h1 : T.length ≤ 20000) (h2 : smBL s R = true) (h3 : s.de = false) : feedA s R T = (feedO s (R ++ T), 0) := by
  unfold feedA
  rw [if_neg (by omega), if_neg (by rw [h2]; decide), if_neg (by rw [h3]; decide)]
/-- What comes in two parts. -/
theorem two_fed {s : SmS} {R A B : List UInt8} (h : (feedA s R (A ++ B)).2 = 0) :
    smBL (feedA s R (A ++ B)).1.s (feedA s R (A ++ B)).1.rest = true ∧ (feedA s R A).2 = 0 ∧
    ((feedA s R A).1.s.de = true → (feedA s R (A ++ B)).1.s.de = true ∧ (feedA s R (A ++ B)).1.xs = (feedA s R A).1.xs) ∧
    ((feedA s R A).1.s.de = false → (feedA s R A).1.s.cl = true → (feedA s R A).1.xs ++ (feedA (feedA s R A).1.s (feedA s R A).1.rest B).1.xs = (feedA s R (A ++ B)).1.xs) ∧
    ((feedA s R A).1.s.de = false → (feedA s R A).1.s.cl = false → feedA (feedA s R A).1.s (feedA s R A).1.rest B = (⟨(feedA s R (A ++ B)).1.s, (feedA s R (A ++ B)).1.rest, (feedA (feedA s R A).1.s (feedA s R A).1.rest B).1.xs⟩, 0) ∧ (feedA s R A).1.xs ++ (feedA (feedA s R A).1.s (feedA s R A).1.rest B).1.xs = (feedA s R (A ++ B)).1.xs) := by
  obtain ⟨hT, hok, hB, hd, hx⟩ := feedA_ok h
  rw [List.length_append] at hT
  have ha := feedA_go (T := A) (R := R) (by omega) hB hd
  rw [hx, ha]
  dsimp only
  obtain ⟨t1, t2, t3⟩ := feed_two hd hok (R ++ A) B
  rw [List.append_assoc] at t1 t2 t3
  refine ⟨feedO_ok hok _, rfl, t1, fun h1 h2 => ?_, fun h1 h2 => ?_⟩
  · have hb := feedA_go (s := (feedO s (R ++ A)).s) (R := (feedO s (R ++ A)).rest) (T := B) (by omega) (feedO_ok hok _) h1
    rw [hb]
    dsimp only
    rw [(t2 h1 h2).1, (t2 h1 h2).2, List.append_nil]
  · have hb := feedA_go (s := (feedO s (R ++ A)).s) (R := (feedO s (R ++ A)).rest) (T := B) (by omega) (feedO_ok hok _) h1
    rw [hb]
    dsimp only
    rw [t3 h1 h2]
    exact ⟨rfl, rfl⟩
end Go.Proofs.YtgcfognljkebjaaGreatDoor

namespace Go.Proofs.YtgcfognljkebjaaGreatDoor
set_option linter.unusedSimpArgs false
set_option linter.unusedVariables false
open Go.RowKit

/-- The number of a code at a place. -/
theorem lw_at (a : Option Addr) (len cap at_ : Nat) (most : Int) (w : World) (hlen : len ≤ 1048576) (hrow : SrcRow w w.heap.size a len) (hm0 : 0 ≤ most) (hm : most ≤ 9223372036854775807) (hat : at_ ≤ 1048576) :
    Calls Tryz.prog 20 #[.slice a len cap, .int .i64 (at_ : Int), .int .i64 most] w fun e w' => (∃ v, e = .returned v ∧ NumIn most v) ∧ w = w' := by
  by_cases h1 : most ≤ 1
  · have HR := Lib.hid hrow
    clear hrow
    go_enter Tryz.func20, Tryz.ntmps20
    go_wp2
    all_goals (go_ret; exact ⟨⟨_, rfl, ⟨0, rfl, by omega, .inr rfl⟩⟩, rfl⟩)
  · by_cases h2 : len = 0
    · subst h2
      have HR := Lib.hid hrow
      clear hrow
      go_enter Tryz.func20, Tryz.ntmps20
      go_wp2
      all_goals (go_ret; exact ⟨⟨_, rfl, ⟨0, rfl, by omega, .inr rfl⟩⟩, rfl⟩)
    · have hlt : at_ % len < len := Nat.mod_lt _ (by omega)
      obtain ⟨b, off, z, rfl, hb, hc, hz0, hz1⟩ := hrow (at_ % len) hlt
      clear hrow
      have h3 : ((len : Int) == 0) = false := by simp; omega
      go_enter Tryz.func20, Tryz.ntmps20
      go_wp2
      go_ret
      exact ⟨⟨_, rfl, ⟨z % most, rfl, Int.emod_nonneg _ (by omega), .inl (Int.emod_lt_of_pos _ (by omega))⟩⟩, rfl⟩

/-- The number of a code at a place: one number, whatever has been drawn besides. -/
theorem lw_det (a : Option Addr) (len cap at_ : Nat) (K : Int) (hK : K = (at_ : Int)) (most : Int) (w : World) (hlen : len ≤ 1048576) (hrow : SrcRow w w.heap.size a len) (hm0 : 1 < most) (hm : most ≤ 9223372036854775807) (hat : at_ ≤ 1048576) :
    ∃ r : Int, 0 ≤ r ∧ r < most ∧ ∀ W : World, W.heap = w.heap → Calls Tryz.prog 20 #[.slice a len cap, .int .i64 K, .int .i64 most] W fun e w' => e = .returned (.int .i64 r) ∧ W = w' := by
  subst hK
  by_cases h2 : len = 0
  · subst h2
    refine ⟨0, by omega, by omega, fun W _ => ?_⟩
    have HR := Lib.hid hrow
    clear hrow
    go_enter Tryz.func20, Tryz.ntmps20
    go_wp2
    all_goals (go_ret; exact ⟨rfl, rfl⟩)
  · have hlt : at_ % len < len := Nat.mod_lt _ (by omega)
    obtain ⟨b, off, z, rfl, hb, hc, hz0, hz1⟩ := hrow (at_ % len) hlt
    refine ⟨z % most, Int.emod_nonneg _ (by omega), Int.emod_lt_of_pos _ (by omega), fun W hW => ?_⟩
    have hcW : W.cell? ⟨b, off + at_ % len, none⟩ = some (.int .u8 z) := by rw [← hc]; unfold World.cell?; rw [hW]
    clear hrow hc hW
    have h3 : ((len : Int) == 0) = false := by simp; omega
    go_enter Tryz.func20, Tryz.ntmps20
    go_wp2
    go_ret
    exact ⟨rfl, rfl⟩

end Go.Proofs.YtgcfognljkebjaaGreatDoor

namespace Go.Proofs.YtgcfognljkebjaaGreatDoor
set_option linter.unusedSimpArgs false
set_option linter.unusedVariables false
open Go.RowKit

theorem takeQ {P : Program} {ops : Array Oper} {Q : Exit → Act → World → Prop} {md : Region.Mode} {S : World → Prop} {i k : Nat} {oi : Oper} {v : Value} {fuel : Nat} {listed : Array Bool} {a : Act} {w : World} (hi : ops[i]? = some oi) (hd : oi.dst = some k)
    (hs : Region.noSelect ops = true) (hf : Region.free md ops listed i = true) (hr : (Region.ready md ops listed).contains i = true) (hQ : ∀ c a w, Q (.panic c) (a.put (some k) v) w → Q (.panic c) a w)
    (hw : Region.wanted oi (yielded ops a.tmps) = true) (hv : ∀ w, S w → (execOp a.eval oi).run P w = .ok (.value v) w) (hS : S w) (h : wpAnyH P md ops Q S fuel (listed.setIfInBounds i true) (a.put (some k) v) w) : wpAnyH P md ops Q S (fuel + 1) listed a w := by
  rw [← hd] at hQ h
  exact wpAnyH_take hi hs hf hr hQ (Or.inl ⟨hw, hv⟩) hS h
theorem skipQ {P : Program} {ops : Array Oper} {Q : Exit → Act → World → Prop} {md : Region.Mode} {S : World → Prop} {i k : Nat} {oi : Oper} {fuel : Nat} {listed : Array Bool} {a : Act} {w : World} (hi : ops[i]? = some oi) (hd : oi.dst = some k)
    (hs : Region.noSelect ops = true) (hf : Region.free md ops listed i = true) (hr : (Region.ready md ops listed).contains i = true) (hQ : ∀ c a w, Q (.panic c) (a.put (some k) undef) w → Q (.panic c) a w)
    (hw : Region.wanted oi (yielded ops a.tmps) = false) (hS : S w) (h : wpAnyH P md ops Q S fuel (listed.setIfInBounds i true) (a.put (some k) undef) w) : wpAnyH P md ops Q S (fuel + 1) listed a w := by
  rw [← hd] at hQ h
  exact wpAnyH_take hi hs hf hr hQ (Or.inr ⟨hw, rfl⟩) hS h
end Go.Proofs.YtgcfognljkebjaaGreatDoor

namespace Go.Proofs.YtgcfognljkebjaaGreatDoor
set_option linter.unusedSimpArgs false
set_option linter.unusedVariables false
open Go.RowKit

/-- Slots are written. -/
def putAll (a : Act) : List Nat → (Nat → Value) → Act
  | [], _ => a
  | s :: r, vs => putAll (a.put (some s) (vs s)) r vs
/-- A post that bears no panic. -/
def NormalOnly (R : Act → World → Prop) : Exit → Act → World → Prop
  | .normal, a, w => R a w
  | _, _, _ => False
/-- Whatever way a region goes: the slots that it writes hold some values, and R holds of them and of the world. -/
theorem region_join {P : Program} {c : Code} {Q : Exit → Act → World → Prop} {a : Act} {w : World} (slots : List Nat) (R : (Nat → Value) → World → Prop)
    (h1 : c.wp P (NormalOnly fun a' w' => R (fun k => a'.tmps.getD k undef) w' ∧ a' = putAll a slots (fun k => a'.tmps.getD k undef)) a w)
    (h2 : ∀ vs w', R vs w' → Q .normal (putAll a slots vs) w') : c.wp P Q a w := by
  refine Code.wp_mono (fun e a' w' h => ?_) h1
  cases e with
  | normal =>
    obtain ⟨hR, e⟩ := h
    rw [e]
    exact h2 _ _ hR
  | _ => exact (h : False).elim
end Go.Proofs.YtgcfognljkebjaaGreatDoor

namespace Go.Proofs.YtgcfognljkebjaaGreatDoor
set_option linter.unusedSimpArgs false
set_option linter.unusedVariables false
open Go.RowKit Go.Joins

theorem one_all (xs : List StL) : ∀ u ∈ xs.flatMap stC, u.oneCell' = true := by
  intro u hu
  obtain ⟨x, _, hx⟩ := List.mem_flatMap.1 hu
  exact stC_one x u hx
theorem empty_row (W : World) : OwnX (W.alloc (.cells #[] 70)) W.heap.size (.slice (some ⟨W.heap.size, 0, none⟩) 0 0) [] :=
  World.ownsRow_lit W #[] 0 (Nat.le_refl _) (Nat.zero_le _) rfl
theorem wp_app_row {o : Oper} {a : Act} {w : World} {K : Act → World → Prop} {Q : Exit → Act → World → Prop} (s x : Operand)
    (ho : o.op = .call { callee := .builtin .append, args := #[s, x], argTypes := #[30, 30] })
    (B : Nat) (v : Value) (ys : List StL) (hs : a.eval s = v) (hown : OwnX w B v ys) (B2 : Nat) (p : Option Addr) (n c : Nat) (xs : List StL) (hx : a.eval x = .slice p n c) (hrow : OwnX w B2 (.slice p n c) xs)
    (hlen : ys.length + xs.length ≤ 2000000) (hB : B ≤ w.heap.size) (h : ∀ v' w', OwnX w' B v' (ys ++ xs) → w.grownBy w' v.ownBlock → K (a.put o.dst v') w') : o.wp Tryz.prog a w K Q := by
  obtain ⟨i0, hi, hz0, hz1, hz2⟩ := info_parts info_st
  rcases hrow.2 with ⟨e, h0⟩ | ⟨g, cap, cur, e, h1, h2, h3, h4, h5, h6⟩
  · obtain rfl := List.eq_nil_of_length_eq_zero h0
    rw [e] at hx
    have hr := run_append_owned_none (P := Tryz.prog) (w := w) B 30 o.type 70 i0 6 Tryz.underlying30 hi v ys.length (ys.flatMap stC) hown
    rw [List.append_nil] at h
    unfold Oper.wp execOp
    simp only [ho, resolve, invoke, builtin, Sem.run_bind, Sem.run_pure, Result.andThen_ok, List.map_toArray, List.map_cons, List.map_nil, hs, hx, hr]
    exact h v w hown (World.grownBy.refl w _)
  · have hc := hrow
    rw [e] at hx hc
    refine wp_append_own w s x 30 ho B 70 i0 _ 6 88 Tryz.underlying30 hi hz0 hz1 hz2 rfl (by decide) v ys.length (ys.flatMap stC) hs hown ⟨g, 0, none⟩ xs.length cap (xs.flatMap stC) hx hc.1 (fun j u hj => ?_) (one_all xs) (by unfold maxLen; omega) (by omega) hB (fun v' w' h1 h2 _ => h v' w' ?_ h2)
    · have hlt : j < xs.length * 6 := by
        have := (List.getElem?_eq_some_iff.1 hj).1
        rw [hc.1] at this
        exact this
      have := World.ownsRow.cellAt hc j hlt
      rw [hj] at this
      rw [show (⟨g, 0, none⟩ : Addr).add j = ⟨g, j, none⟩ by unfold Addr.add; split <;> simp_all]
      exact this
    · show w'.ownsRow B _ 6 v' (ys ++ xs).length ((ys ++ xs).flatMap stC)
      rw [List.length_append, List.flatMap_append]
      exact h1
end Go.Proofs.YtgcfognljkebjaaGreatDoor

namespace Go.Proofs.YtgcfognljkebjaaGreatDoor
set_option linter.unusedSimpArgs false
set_option linter.unusedVariables false
open Go.RowKit Go.Joins

/-- The boxes of the stream, of the answer, of what is wanted. -/
def K6 (w : World) (g5 g7 g8 B7 B8 : Nat) (f o : List UInt8) (n : Int) (R : List UInt8) (op cl de : Bool) (f1 o1 : List UInt8) (n1 : Int) (r1 : List UInt8) (op1 cl1 de1 : Bool) (xs : List StL) (p1 p2 : Option Addr) (N k1 k2 : Nat) (cc : Int) (W : World) : Prop := YBox w g5 W ⟨f, o, n, op, cl, de⟩ R ∧ OBox g7 B7 W ⟨⟨f1, o1, n1, op1, cl1, de1⟩, r1, xs⟩ (.slice p1 N k1) cc ∧ OBox g8 B8 W ⟨⟨f1, o1, n1, op1, cl1, de1⟩, r1, xs⟩ (.slice p2 N k2) cc
theorem strOf_data_app (l m : List UInt8) : (strOf l ++ strOf m).data.toList = l ++ m := by rw [← strOf_app, strOf_data]
theorem K6.on {w : World} {g5 g7 g8 B7 B8 : Nat} {f o : List UInt8} {n : Int} {R : List UInt8} {op cl de : Bool} {f1 o1 : List UInt8} {n1 : Int} {r1 : List UInt8} {op1 cl1 de1 : Bool} {xs : List StL} {p1 p2 : Option Addr} {N k1 k2 : Nat} {cc : Int} {W W2 : World} (h : K6 w g5 g7 g8 B7 B8 f o n R op cl de f1 o1 n1 r1 op1 cl1 de1 xs p1 p2 N k1 k2 cc W) (hb : Below W.heap.size W W2) : K6 w g5 g7 g8 B7 B8 f o n R op cl de f1 o1 n1 r1 op1 cl1 de1 xs p1 p2 N k1 k2 cc W2 := ⟨h.1.on hb, h.2.1.on hb, h.2.2.on hb⟩
abbrev S6 (w : World) (g5 g7 g8 B7 B8 : Nat) (f o : List UInt8) (n : Int) (R : List UInt8) (op cl de : Bool) (f1 o1 : List UInt8) (n1 : Int) (r1 : List UInt8) (op1 cl1 de1 : Bool) (xs : List StL) (p1 p2 : Option Addr) (N k1 k2 : Nat) (cc : Int) (W : World) : Prop := ((W.cell? ⟨g5, 0, none⟩ = some (.string (strOf f)) ∧ W.cell? ⟨g5, 1, none⟩ = some (.string (strOf o)) ∧ W.cell? ⟨g5, 2, none⟩ = some (.int .i64 n) ∧ W.cell? ⟨g5, 3, none⟩ = some (.string (strOf R)) ∧ W.cell? ⟨g5, 4, none⟩ = some (.bool op) ∧ W.cell? ⟨g5, 5, none⟩ = some (.bool cl) ∧ W.cell? ⟨g5, 6, none⟩ = some (.bool de)) ∧ (W.cell? ⟨g7, 0, none⟩ = some (.string (strOf f1)) ∧ W.cell? ⟨g7, 1, none⟩ = some (.string (strOf o1)) ∧ W.cell? ⟨g7, 2, none⟩ = some (.int .i64 n1) ∧ W.cell? ⟨g7, 3, none⟩ = some (.string (strOf r1)) ∧ W.cell? ⟨g7, 4, none⟩ = some (.bool op1) ∧ W.cell? ⟨g7, 5, none⟩ = some (.bool cl1) ∧ W.cell? ⟨g7, 6, none⟩ = some (.bool de1) ∧ W.cell? ⟨g7, 7, none⟩ = some (.slice p1 N k1) ∧ W.cell? ⟨g7, 8, none⟩ = some (.int .i64 cc)) ∧ (W.cell? ⟨g8, 0, none⟩ = some (.string (strOf f1)) ∧ W.cell? ⟨g8, 1, none⟩ = some (.string (strOf o1)) ∧ W.cell? ⟨g8, 2, none⟩ = some (.int .i64 n1) ∧ W.cell? ⟨g8, 3, none⟩ = some (.string (strOf r1)) ∧ W.cell? ⟨g8, 4, none⟩ = some (.bool op1) ∧ W.cell? ⟨g8, 5, none⟩ = some (.bool cl1) ∧ W.cell? ⟨g8, 6, none⟩ = some (.bool de1) ∧ W.cell? ⟨g8, 7, none⟩ = some (.slice p2 N k2) ∧ W.cell? ⟨g8, 8, none⟩ = some (.int .i64 cc))) ∧ K6 w g5 g7 g8 B7 B8 f o n R op cl de f1 o1 n1 r1 op1 cl1 de1 xs p1 p2 N k1 k2 cc W
theorem s6_of {w : World} {g5 g7 g8 B7 B8 : Nat} {f o : List UInt8} {n : Int} {R : List UInt8} {op cl de : Bool} {f1 o1 : List UInt8} {n1 : Int} {r1 : List UInt8} {op1 cl1 de1 : Bool} {xs : List StL} {p1 p2 : Option Addr} {N k1 k2 : Nat} {cc : Int} {W : World} (h : K6 w g5 g7 g8 B7 B8 f o n R op cl de f1 o1 n1 r1 op1 cl1 de1 xs p1 p2 N k1 k2 cc W) : S6 w g5 g7 g8 B7 B8 f o n R op cl de f1 o1 n1 r1 op1 cl1 de1 xs p1 p2 N k1 k2 cc W :=
  ⟨⟨(arr_sev h.1.1).1, (arr_nine h.2.1.1).1, (arr_nine h.2.2.1).1⟩, h⟩
theorem s6_on {w : World} {g5 g7 g8 B7 B8 : Nat} {f o : List UInt8} {n : Int} {R : List UInt8} {op cl de : Bool} {f1 o1 : List UInt8} {n1 : Int} {r1 : List UInt8} {op1 cl1 de1 : Bool} {xs : List StL} {p1 p2 : Option Addr} {N k1 k2 : Nat} {cc : Int} {W W2 : World} (h : S6 w g5 g7 g8 B7 B8 f o n R op cl de f1 o1 n1 r1 op1 cl1 de1 xs p1 p2 N k1 k2 cc W) (hb : Below W.heap.size W W2) : S6 w g5 g7 g8 B7 B8 f o n R op cl de f1 o1 n1 r1 op1 cl1 de1 xs p1 p2 N k1 k2 cc W2 := s6_of (h.2.on hb)
theorem s6_drew {w : World} {g5 g7 g8 B7 B8 : Nat} {f o : List UInt8} {n : Int} {R : List UInt8} {op cl de : Bool} {f1 o1 : List UInt8} {n1 : Int} {r1 : List UInt8} {op1 cl1 de1 : Bool} {xs : List StL} {p1 p2 : Option Addr} {N k1 k2 : Nat} {cc : Int} {W : World} (h : K6 w g5 g7 g8 B7 B8 f o n R op cl de f1 o1 n1 r1 op1 cl1 de1 xs p1 p2 N k1 k2 cc W) : S6 w g5 g7 g8 B7 B8 f o n R op cl de f1 o1 n1 r1 op1 cl1 de1 xs p1 p2 N k1 k2 cc W.drew := s6_of (h.on (Below.refl _ _).drew)
/-- A box made behind the call, and one made ahead of it. -/
theorem box_after {B : Nat} {wm : World} {o : SmO} {v : Value} {c : Int} {z : Array Value} (h : OwnX wm B v o.xs) (hz : z.size = 9) : OBox wm.heap.size B ((wm.alloc (.cells z 32)).setRow wm.heap.size (soC o v c).toArray) o v c ∧ Below wm.heap.size wm ((wm.alloc (.cells z 32)).setRow wm.heap.size (soC o v c).toArray) := by
  have hb : Below wm.heap.size wm ((wm.alloc (.cells z 32)).setRow wm.heap.size (soC o v c).toArray) := below_setRow ((Below.refl _ _).alloc (Nat.le_refl _) _) (Nat.le_refl _) _
  exact ⟨⟨setRow_heap _ _ _ _ _ _ (heap_alloc_new wm _), OwnC.on h hb⟩, hb⟩
theorem box_before {Wd wm : World} {o : SmO} {v : Value} {c : Int} {z : Array Value} (h : OwnX wm (Wd.alloc (.cells z 32)).heap.size v o.xs) (hb : Below (Wd.alloc (.cells z 32)).heap.size (Wd.alloc (.cells z 32)) wm) : wm.heap[Wd.heap.size]? = some (.cells z 32 (0, 0)) ∧ OBox Wd.heap.size (Wd.heap.size + 1) (wm.setRow Wd.heap.size (soC o v c).toArray) o v c ∧ Below Wd.heap.size Wd (wm.setRow Wd.heap.size (soC o v c).toArray) := by
  have hg : wm.heap[Wd.heap.size]? = some (.cells z 32 (0, 0)) := (hb.block _ (by simp)).trans (heap_alloc_new Wd _)
  rw [World.size_alloc] at h
  refine ⟨hg, ⟨setRow_heap _ _ _ _ _ _ hg, OwnC.setRow h (fun g hg' => ?_) _⟩, below_setRow (below_one hb) (Nat.le_refl _) _⟩
  have := OwnC.base h g hg'
  omega
theorem part_text (t : ByteArray) (K : Nat) (h : K ≤ t.size) : (t.extract 0 K).data.toList ++ (t.extract K t.size).data.toList = t.data.toList := by
  have hl : t.data.toList.length = t.size := size_data t
  simp only [ByteArray.data_extract, Array.toList_extract, List.extract_eq_take_drop, List.drop_zero, Nat.sub_zero]
  rw [List.take_of_length_le (l := t.data.toList.drop K) (by rw [List.length_drop]; omega), List.take_append_drop]
theorem own_cap {W : World} {B n k : Nat} {p : Option Addr} {xs : List StL} (h : OwnX W B (.slice p n k) xs) : n ≤ k := by
  rcases h.2 with ⟨e, _⟩ | ⟨g, cap, cur, e, _, _, hc, _⟩
  · injection e with _ e1 e2
    omega
  · injection e with _ e1 e2
    omega
/-- And the box of the first part's answer. -/
def K14 (w : World) (g5 g7 g8 B7 B8 : Nat) (f o : List UInt8) (n : Int) (R : List UInt8) (op cl de : Bool) (f1 o1 : List UInt8) (n1 : Int) (r1 : List UInt8) (op1 cl1 de1 : Bool) (xs : List StL) (p1 p2 : Option Addr) (N k1 k2 : Nat) (cc : Int) (g11 B11 : Nat) (f2 o2 : List UInt8) (n2 : Int) (r2 : List UInt8) (op2 cl2 de2 : Bool) (xs2 : List StL) (p3 : Option Addr) (N2 k3 : Nat) (W : World) : Prop := K6 w g5 g7 g8 B7 B8 f o n R op cl de f1 o1 n1 r1 op1 cl1 de1 xs p1 p2 N k1 k2 cc W ∧ OBox g11 B11 W ⟨⟨f2, o2, n2, op2, cl2, de2⟩, r2, xs2⟩ (.slice p3 N2 k3) 0
theorem K14.on {w : World} {g5 g7 g8 B7 B8 : Nat} {f o : List UInt8} {n : Int} {R : List UInt8} {op cl de : Bool} {f1 o1 : List UInt8} {n1 : Int} {r1 : List UInt8} {op1 cl1 de1 : Bool} {xs : List StL} {p1 p2 : Option Addr} {N k1 k2 : Nat} {cc : Int} {g11 B11 : Nat} {f2 o2 : List UInt8} {n2 : Int} {r2 : List UInt8} {op2 cl2 de2 : Bool} {xs2 : List StL} {p3 : Option Addr} {N2 k3 : Nat} {W W2 : World} (h : K14 w g5 g7 g8 B7 B8 f o n R op cl de f1 o1 n1 r1 op1 cl1 de1 xs p1 p2 N k1 k2 cc g11 B11 f2 o2 n2 r2 op2 cl2 de2 xs2 p3 N2 k3 W) (hb : Below W.heap.size W W2) : K14 w g5 g7 g8 B7 B8 f o n R op cl de f1 o1 n1 r1 op1 cl1 de1 xs p1 p2 N k1 k2 cc g11 B11 f2 o2 n2 r2 op2 cl2 de2 xs2 p3 N2 k3 W2 := ⟨h.1.on hb, h.2.on hb⟩
abbrev S14 (w : World) (g5 g7 g8 B7 B8 : Nat) (f o : List UInt8) (n : Int) (R : List UInt8) (op cl de : Bool) (f1 o1 : List UInt8) (n1 : Int) (r1 : List UInt8) (op1 cl1 de1 : Bool) (xs : List StL) (p1 p2 : Option Addr) (N k1 k2 : Nat) (cc : Int) (g11 B11 : Nat) (f2 o2 : List UInt8) (n2 : Int) (r2 : List UInt8) (op2 cl2 de2 : Bool) (xs2 : List StL) (p3 : Option Addr) (N2 k3 : Nat) (W : World) : Prop := ((W.cell? ⟨g7, 0, none⟩ = some (.string (strOf f1)) ∧ W.cell? ⟨g7, 1, none⟩ = some (.string (strOf o1)) ∧ W.cell? ⟨g7, 2, none⟩ = some (.int .i64 n1) ∧ W.cell? ⟨g7, 3, none⟩ = some (.string (strOf r1)) ∧ W.cell? ⟨g7, 4, none⟩ = some (.bool op1) ∧ W.cell? ⟨g7, 5, none⟩ = some (.bool cl1) ∧ W.cell? ⟨g7, 6, none⟩ = some (.bool de1) ∧ W.cell? ⟨g7, 7, none⟩ = some (.slice p1 N k1) ∧ W.cell? ⟨g7, 8, none⟩ = some (.int .i64 cc)) ∧ (W.cell? ⟨g11, 0, none⟩ = some (.string (strOf f2)) ∧ W.cell? ⟨g11, 1, none⟩ = some (.string (strOf o2)) ∧ W.cell? ⟨g11, 2, none⟩ = some (.int .i64 n2) ∧ W.cell? ⟨g11, 3, none⟩ = some (.string (strOf r2)) ∧ W.cell? ⟨g11, 4, none⟩ = some (.bool op2) ∧ W.cell? ⟨g11, 5, none⟩ = some (.bool cl2) ∧ W.cell? ⟨g11, 6, none⟩ = some (.bool de2) ∧ W.cell? ⟨g11, 7, none⟩ = some (.slice p3 N2 k3) ∧ W.cell? ⟨g11, 8, none⟩ = some (.int .i64 0))) ∧ K14 w g5 g7 g8 B7 B8 f o n R op cl de f1 o1 n1 r1 op1 cl1 de1 xs p1 p2 N k1 k2 cc g11 B11 f2 o2 n2 r2 op2 cl2 de2 xs2 p3 N2 k3 W
theorem s14_of {w : World} {g5 g7 g8 B7 B8 : Nat} {f o : List UInt8} {n : Int} {R : List UInt8} {op cl de : Bool} {f1 o1 : List UInt8} {n1 : Int} {r1 : List UInt8} {op1 cl1 de1 : Bool} {xs : List StL} {p1 p2 : Option Addr} {N k1 k2 : Nat} {cc : Int} {g11 B11 : Nat} {f2 o2 : List UInt8} {n2 : Int} {r2 : List UInt8} {op2 cl2 de2 : Bool} {xs2 : List StL} {p3 : Option Addr} {N2 k3 : Nat} {W : World} (h : K14 w g5 g7 g8 B7 B8 f o n R op cl de f1 o1 n1 r1 op1 cl1 de1 xs p1 p2 N k1 k2 cc g11 B11 f2 o2 n2 r2 op2 cl2 de2 xs2 p3 N2 k3 W) : S14 w g5 g7 g8 B7 B8 f o n R op cl de f1 o1 n1 r1 op1 cl1 de1 xs p1 p2 N k1 k2 cc g11 B11 f2 o2 n2 r2 op2 cl2 de2 xs2 p3 N2 k3 W := ⟨⟨(arr_nine h.1.2.1.1).1, (arr_nine h.2.1).1⟩, h⟩
theorem s14_on {w : World} {g5 g7 g8 B7 B8 : Nat} {f o : List UInt8} {n : Int} {R : List UInt8} {op cl de : Bool} {f1 o1 : List UInt8} {n1 : Int} {r1 : List UInt8} {op1 cl1 de1 : Bool} {xs : List StL} {p1 p2 : Option Addr} {N k1 k2 : Nat} {cc : Int} {g11 B11 : Nat} {f2 o2 : List UInt8} {n2 : Int} {r2 : List UInt8} {op2 cl2 de2 : Bool} {xs2 : List StL} {p3 : Option Addr} {N2 k3 : Nat} {W W2 : World} (h : S14 w g5 g7 g8 B7 B8 f o n R op cl de f1 o1 n1 r1 op1 cl1 de1 xs p1 p2 N k1 k2 cc g11 B11 f2 o2 n2 r2 op2 cl2 de2 xs2 p3 N2 k3 W) (hb : Below W.heap.size W W2) : S14 w g5 g7 g8 B7 B8 f o n R op cl de f1 o1 n1 r1 op1 cl1 de1 xs p1 p2 N k1 k2 cc g11 B11 f2 o2 n2 r2 op2 cl2 de2 xs2 p3 N2 k3 W2 := s14_of (h.2.on hb)
theorem s14_drew {w : World} {g5 g7 g8 B7 B8 : Nat} {f o : List UInt8} {n : Int} {R : List UInt8} {op cl de : Bool} {f1 o1 : List UInt8} {n1 : Int} {r1 : List UInt8} {op1 cl1 de1 : Bool} {xs : List StL} {p1 p2 : Option Addr} {N k1 k2 : Nat} {cc : Int} {g11 B11 : Nat} {f2 o2 : List UInt8} {n2 : Int} {r2 : List UInt8} {op2 cl2 de2 : Bool} {xs2 : List StL} {p3 : Option Addr} {N2 k3 : Nat} {W : World} (h : K14 w g5 g7 g8 B7 B8 f o n R op cl de f1 o1 n1 r1 op1 cl1 de1 xs p1 p2 N k1 k2 cc g11 B11 f2 o2 n2 r2 op2 cl2 de2 xs2 p3 N2 k3 W) : S14 w g5 g7 g8 B7 B8 f o n R op cl de f1 o1 n1 r1 op1 cl1 de1 xs p1 p2 N k1 k2 cc g11 B11 f2 o2 n2 r2 op2 cl2 de2 xs2 p3 N2 k3 W.drew := s14_of (h.on (Below.refl _ _).drew)
/-- And the box of the second part's answer. -/
def K19 (w : World) (g5 g7 g8 B7 B8 : Nat) (f o : List UInt8) (n : Int) (R : List UInt8) (op cl de : Bool) (f1 o1 : List UInt8) (n1 : Int) (r1 : List UInt8) (op1 cl1 de1 : Bool) (xs : List StL) (p1 p2 : Option Addr) (N k1 k2 : Nat) (cc : Int) (g11 B11 : Nat) (f2 o2 : List UInt8) (n2 : Int) (r2 : List UInt8) (op2 cl2 de2 : Bool) (xs2 : List StL) (p3 : Option Addr) (N2 k3 : Nat) (g12 B12 : Nat) (f3 o3 : List UInt8) (n3 : Int) (r3 : List UInt8) (op3 cl3 de3 : Bool) (xs3 : List StL) (p4 : Option Addr) (N3 k4 : Nat) (c3 : Int) (W : World) : Prop := K14 w g5 g7 g8 B7 B8 f o n R op cl de f1 o1 n1 r1 op1 cl1 de1 xs p1 p2 N k1 k2 cc g11 B11 f2 o2 n2 r2 op2 cl2 de2 xs2 p3 N2 k3 W ∧ OBox g12 B12 W ⟨⟨f3, o3, n3, op3, cl3, de3⟩, r3, xs3⟩ (.slice p4 N3 k4) c3
theorem K19.on {w : World} {g5 g7 g8 B7 B8 : Nat} {f o : List UInt8} {n : Int} {R : List UInt8} {op cl de : Bool} {f1 o1 : List UInt8} {n1 : Int} {r1 : List UInt8} {op1 cl1 de1 : Bool} {xs : List StL} {p1 p2 : Option Addr} {N k1 k2 : Nat} {cc : Int} {g11 B11 : Nat} {f2 o2 : List UInt8} {n2 : Int} {r2 : List UInt8} {op2 cl2 de2 : Bool} {xs2 : List StL} {p3 : Option Addr} {N2 k3 : Nat} {g12 B12 : Nat} {f3 o3 : List UInt8} {n3 : Int} {r3 : List UInt8} {op3 cl3 de3 : Bool} {xs3 : List StL} {p4 : Option Addr} {N3 k4 : Nat} {c3 : Int} {W W2 : World} (h : K19 w g5 g7 g8 B7 B8 f o n R op cl de f1 o1 n1 r1 op1 cl1 de1 xs p1 p2 N k1 k2 cc g11 B11 f2 o2 n2 r2 op2 cl2 de2 xs2 p3 N2 k3 g12 B12 f3 o3 n3 r3 op3 cl3 de3 xs3 p4 N3 k4 c3 W) (hb : Below W.heap.size W W2) : K19 w g5 g7 g8 B7 B8 f o n R op cl de f1 o1 n1 r1 op1 cl1 de1 xs p1 p2 N k1 k2 cc g11 B11 f2 o2 n2 r2 op2 cl2 de2 xs2 p3 N2 k3 g12 B12 f3 o3 n3 r3 op3 cl3 de3 xs3 p4 N3 k4 c3 W2 := ⟨h.1.on hb, h.2.on hb⟩
abbrev S19 (w : World) (g5 g7 g8 B7 B8 : Nat) (f o : List UInt8) (n : Int) (R : List UInt8) (op cl de : Bool) (f1 o1 : List UInt8) (n1 : Int) (r1 : List UInt8) (op1 cl1 de1 : Bool) (xs : List StL) (p1 p2 : Option Addr) (N k1 k2 : Nat) (cc : Int) (g11 B11 : Nat) (f2 o2 : List UInt8) (n2 : Int) (r2 : List UInt8) (op2 cl2 de2 : Bool) (xs2 : List StL) (p3 : Option Addr) (N2 k3 : Nat) (g12 B12 : Nat) (f3 o3 : List UInt8) (n3 : Int) (r3 : List UInt8) (op3 cl3 de3 : Bool) (xs3 : List StL) (p4 : Option Addr) (N3 k4 : Nat) (c3 : Int) (W : World) : Prop := ((W.cell? ⟨g7, 0, none⟩ = some (.string (strOf f1)) ∧ W.cell? ⟨g7, 1, none⟩ = some (.string (strOf o1)) ∧ W.cell? ⟨g7, 2, none⟩ = some (.int .i64 n1) ∧ W.cell? ⟨g7, 3, none⟩ = some (.string (strOf r1)) ∧ W.cell? ⟨g7, 4, none⟩ = some (.bool op1) ∧ W.cell? ⟨g7, 5, none⟩ = some (.bool cl1) ∧ W.cell? ⟨g7, 6, none⟩ = some (.bool de1) ∧ W.cell? ⟨g7, 7, none⟩ = some (.slice p1 N k1) ∧ W.cell? ⟨g7, 8, none⟩ = some (.int .i64 cc)) ∧ (W.cell? ⟨g11, 0, none⟩ = some (.string (strOf f2)) ∧ W.cell? ⟨g11, 1, none⟩ = some (.string (strOf o2)) ∧ W.cell? ⟨g11, 2, none⟩ = some (.int .i64 n2) ∧ W.cell? ⟨g11, 3, none⟩ = some (.string (strOf r2)) ∧ W.cell? ⟨g11, 4, none⟩ = some (.bool op2) ∧ W.cell? ⟨g11, 5, none⟩ = some (.bool cl2) ∧ W.cell? ⟨g11, 6, none⟩ = some (.bool de2) ∧ W.cell? ⟨g11, 7, none⟩ = some (.slice p3 N2 k3) ∧ W.cell? ⟨g11, 8, none⟩ = some (.int .i64 0)) ∧ (W.cell? ⟨g12, 0, none⟩ = some (.string (strOf f3)) ∧ W.cell? ⟨g12, 1, none⟩ = some (.string (strOf o3)) ∧ W.cell? ⟨g12, 2, none⟩ = some (.int .i64 n3) ∧ W.cell? ⟨g12, 3, none⟩ = some (.string (strOf r3)) ∧ W.cell? ⟨g12, 4, none⟩ = some (.bool op3) ∧ W.cell? ⟨g12, 5, none⟩ = some (.bool cl3) ∧ W.cell? ⟨g12, 6, none⟩ = some (.bool de3) ∧ W.cell? ⟨g12, 7, none⟩ = some (.slice p4 N3 k4) ∧ W.cell? ⟨g12, 8, none⟩ = some (.int .i64 c3))) ∧ K19 w g5 g7 g8 B7 B8 f o n R op cl de f1 o1 n1 r1 op1 cl1 de1 xs p1 p2 N k1 k2 cc g11 B11 f2 o2 n2 r2 op2 cl2 de2 xs2 p3 N2 k3 g12 B12 f3 o3 n3 r3 op3 cl3 de3 xs3 p4 N3 k4 c3 W
theorem s19_of {w : World} {g5 g7 g8 B7 B8 : Nat} {f o : List UInt8} {n : Int} {R : List UInt8} {op cl de : Bool} {f1 o1 : List UInt8} {n1 : Int} {r1 : List UInt8} {op1 cl1 de1 : Bool} {xs : List StL} {p1 p2 : Option Addr} {N k1 k2 : Nat} {cc : Int} {g11 B11 : Nat} {f2 o2 : List UInt8} {n2 : Int} {r2 : List UInt8} {op2 cl2 de2 : Bool} {xs2 : List StL} {p3 : Option Addr} {N2 k3 : Nat} {g12 B12 : Nat} {f3 o3 : List UInt8} {n3 : Int} {r3 : List UInt8} {op3 cl3 de3 : Bool} {xs3 : List StL} {p4 : Option Addr} {N3 k4 : Nat} {c3 : Int} {W : World} (h : K19 w g5 g7 g8 B7 B8 f o n R op cl de f1 o1 n1 r1 op1 cl1 de1 xs p1 p2 N k1 k2 cc g11 B11 f2 o2 n2 r2 op2 cl2 de2 xs2 p3 N2 k3 g12 B12 f3 o3 n3 r3 op3 cl3 de3 xs3 p4 N3 k4 c3 W) : S19 w g5 g7 g8 B7 B8 f o n R op cl de f1 o1 n1 r1 op1 cl1 de1 xs p1 p2 N k1 k2 cc g11 B11 f2 o2 n2 r2 op2 cl2 de2 xs2 p3 N2 k3 g12 B12 f3 o3 n3 r3 op3 cl3 de3 xs3 p4 N3 k4 c3 W := ⟨⟨(arr_nine h.1.1.2.1.1).1, (arr_nine h.1.2.1).1, (arr_nine h.2.1).1⟩, h⟩
theorem s19_on {w : World} {g5 g7 g8 B7 B8 : Nat} {f o : List UInt8} {n : Int} {R : List UInt8} {op cl de : Bool} {f1 o1 : List UInt8} {n1 : Int} {r1 : List UInt8} {op1 cl1 de1 : Bool} {xs : List StL} {p1 p2 : Option Addr} {N k1 k2 : Nat} {cc : Int} {g11 B11 : Nat} {f2 o2 : List UInt8} {n2 : Int} {r2 : List UInt8} {op2 cl2 de2 : Bool} {xs2 : List StL} {p3 : Option Addr} {N2 k3 : Nat} {g12 B12 : Nat} {f3 o3 : List UInt8} {n3 : Int} {r3 : List UInt8} {op3 cl3 de3 : Bool} {xs3 : List StL} {p4 : Option Addr} {N3 k4 : Nat} {c3 : Int} {W W2 : World} (h : S19 w g5 g7 g8 B7 B8 f o n R op cl de f1 o1 n1 r1 op1 cl1 de1 xs p1 p2 N k1 k2 cc g11 B11 f2 o2 n2 r2 op2 cl2 de2 xs2 p3 N2 k3 g12 B12 f3 o3 n3 r3 op3 cl3 de3 xs3 p4 N3 k4 c3 W) (hb : Below W.heap.size W W2) : S19 w g5 g7 g8 B7 B8 f o n R op cl de f1 o1 n1 r1 op1 cl1 de1 xs p1 p2 N k1 k2 cc g11 B11 f2 o2 n2 r2 op2 cl2 de2 xs2 p3 N2 k3 g12 B12 f3 o3 n3 r3 op3 cl3 de3 xs3 p4 N3 k4 c3 W2 := s19_of (h.2.on hb)
theorem s19_drew {w : World} {g5 g7 g8 B7 B8 : Nat} {f o : List UInt8} {n : Int} {R : List UInt8} {op cl de : Bool} {f1 o1 : List UInt8} {n1 : Int} {r1 : List UInt8} {op1 cl1 de1 : Bool} {xs : List StL} {p1 p2 : Option Addr} {N k1 k2 : Nat} {cc : Int} {g11 B11 : Nat} {f2 o2 : List UInt8} {n2 : Int} {r2 : List UInt8} {op2 cl2 de2 : Bool} {xs2 : List StL} {p3 : Option Addr} {N2 k3 : Nat} {g12 B12 : Nat} {f3 o3 : List UInt8} {n3 : Int} {r3 : List UInt8} {op3 cl3 de3 : Bool} {xs3 : List StL} {p4 : Option Addr} {N3 k4 : Nat} {c3 : Int} {W : World} (h : K19 w g5 g7 g8 B7 B8 f o n R op cl de f1 o1 n1 r1 op1 cl1 de1 xs p1 p2 N k1 k2 cc g11 B11 f2 o2 n2 r2 op2 cl2 de2 xs2 p3 N2 k3 g12 B12 f3 o3 n3 r3 op3 cl3 de3 xs3 p4 N3 k4 c3 W) : S19 w g5 g7 g8 B7 B8 f o n R op cl de f1 o1 n1 r1 op1 cl1 de1 xs p1 p2 N k1 k2 cc g11 B11 f2 o2 n2 r2 op2 cl2 de2 xs2 p3 N2 k3 g12 B12 f3 o3 n3 r3 op3 cl3 de3 xs3 p4 N3 k4 c3 W.drew := s19_of (h.on (Below.refl _ _).drew)
/-- And the head's box. -/
def K9 (w : World) (g5 g7 g8 B7 B8 : Nat) (f o : List UInt8) (n : Int) (R : List UInt8) (op cl de : Bool) (f1 o1 : List UInt8) (n1 : Int) (r1 : List UInt8) (op1 cl1 de1 : Bool) (xs : List StL) (p1 p2 : Option Addr) (N k1 k2 : Nat) (cc : Int) (g9 : Nat) (fh oh : List UInt8) (nh : Int) (W : World) : Prop := K6 w g5 g7 g8 B7 B8 f o n R op cl de f1 o1 n1 r1 op1 cl1 de1 xs p1 p2 N k1 k2 cc W ∧ Arr W g9 27 [.string (strOf fh), .string (strOf oh), .int .i64 nh]
theorem K9.on {w : World} {g5 g7 g8 B7 B8 : Nat} {f o : List UInt8} {n : Int} {R : List UInt8} {op cl de : Bool} {f1 o1 : List UInt8} {n1 : Int} {r1 : List UInt8} {op1 cl1 de1 : Bool} {xs : List StL} {p1 p2 : Option Addr} {N k1 k2 : Nat} {cc : Int} {g9 : Nat} {fh oh : List UInt8} {nh : Int} {W W2 : World} (h : K9 w g5 g7 g8 B7 B8 f o n R op cl de f1 o1 n1 r1 op1 cl1 de1 xs p1 p2 N k1 k2 cc g9 fh oh nh W) (hb : Below W.heap.size W W2) : K9 w g5 g7 g8 B7 B8 f o n R op cl de f1 o1 n1 r1 op1 cl1 de1 xs p1 p2 N k1 k2 cc g9 fh oh nh W2 := ⟨h.1.on hb, arr_below h.2 hb⟩
abbrev S9 (w : World) (g5 g7 g8 B7 B8 : Nat) (f o : List UInt8) (n : Int) (R : List UInt8) (op cl de : Bool) (f1 o1 : List UInt8) (n1 : Int) (r1 : List UInt8) (op1 cl1 de1 : Bool) (xs : List StL) (p1 p2 : Option Addr) (N k1 k2 : Nat) (cc : Int) (g9 : Nat) (fh oh : List UInt8) (nh : Int) (W : World) : Prop := (W.cell? ⟨g9, 0, none⟩ = some (.string (strOf fh)) ∧ W.cell? ⟨g9, 1, none⟩ = some (.string (strOf oh)) ∧ W.cell? ⟨g9, 2, none⟩ = some (.int .i64 nh)) ∧ K9 w g5 g7 g8 B7 B8 f o n R op cl de f1 o1 n1 r1 op1 cl1 de1 xs p1 p2 N k1 k2 cc g9 fh oh nh W
theorem s9_of {w : World} {g5 g7 g8 B7 B8 : Nat} {f o : List UInt8} {n : Int} {R : List UInt8} {op cl de : Bool} {f1 o1 : List UInt8} {n1 : Int} {r1 : List UInt8} {op1 cl1 de1 : Bool} {xs : List StL} {p1 p2 : Option Addr} {N k1 k2 : Nat} {cc : Int} {g9 : Nat} {fh oh : List UInt8} {nh : Int} {W : World} (h : K9 w g5 g7 g8 B7 B8 f o n R op cl de f1 o1 n1 r1 op1 cl1 de1 xs p1 p2 N k1 k2 cc g9 fh oh nh W) : S9 w g5 g7 g8 B7 B8 f o n R op cl de f1 o1 n1 r1 op1 cl1 de1 xs p1 p2 N k1 k2 cc g9 fh oh nh W := by
  obtain ⟨c0, c1, c2, _⟩ := arr_three h.2
  exact ⟨⟨c0, c1, c2⟩, h⟩
theorem s9_on {w : World} {g5 g7 g8 B7 B8 : Nat} {f o : List UInt8} {n : Int} {R : List UInt8} {op cl de : Bool} {f1 o1 : List UInt8} {n1 : Int} {r1 : List UInt8} {op1 cl1 de1 : Bool} {xs : List StL} {p1 p2 : Option Addr} {N k1 k2 : Nat} {cc : Int} {g9 : Nat} {fh oh : List UInt8} {nh : Int} {W W2 : World} (h : S9 w g5 g7 g8 B7 B8 f o n R op cl de f1 o1 n1 r1 op1 cl1 de1 xs p1 p2 N k1 k2 cc g9 fh oh nh W) (hb : Below W.heap.size W W2) : S9 w g5 g7 g8 B7 B8 f o n R op cl de f1 o1 n1 r1 op1 cl1 de1 xs p1 p2 N k1 k2 cc g9 fh oh nh W2 := s9_of (h.2.on hb)
theorem s9_drew {w : World} {g5 g7 g8 B7 B8 : Nat} {f o : List UInt8} {n : Int} {R : List UInt8} {op cl de : Bool} {f1 o1 : List UInt8} {n1 : Int} {r1 : List UInt8} {op1 cl1 de1 : Bool} {xs : List StL} {p1 p2 : Option Addr} {N k1 k2 : Nat} {cc : Int} {g9 : Nat} {fh oh : List UInt8} {nh : Int} {W : World} (h : K9 w g5 g7 g8 B7 B8 f o n R op cl de f1 o1 n1 r1 op1 cl1 de1 xs p1 p2 N k1 k2 cc g9 fh oh nh W) : S9 w g5 g7 g8 B7 B8 f o n R op cl de f1 o1 n1 r1 op1 cl1 de1 xs p1 p2 N k1 k2 cc g9 fh oh nh W.drew := s9_of (h.on (Below.refl _ _).drew)
theorem head_field (fl ol : List UInt8) (n : Int) (p : Option Addr) (k : Nat) (W : World) : (Instr.field 32 (.agg #[.string (strOf fl), .string (strOf ol), .int .i64 n, .string ⟨#[]⟩, .bool true, .bool false, .bool false, .slice p 0 k, .int .i64 0]) 0).run Tryz.prog W = .ok (.agg #[.string (strOf fl), .string (strOf ol), .int .i64 n, .string ⟨#[]⟩, .bool true, .bool false, .bool false]) W := by kernel_rfl
theorem head_fed {fl ol : List UInt8} {n : Int} (h : hdB (strOf fl) (strOf ol) n = true) (W : World) (hm : MaxL W ∧ TabP W ∧ ErrV W) : Calls Tryz.prog 9 #[.agg #[.string ⟨#[]⟩, .string ⟨#[]⟩, .int .i64 0, .string ⟨#[]⟩, .bool false, .bool false, .bool false], .string (hdT (strOf fl) (strOf ol) n ++ ⟨#[10]⟩)] W fun e w' => (∃ p k, e = .returned (.agg #[.string (strOf fl), .string (strOf ol), .int .i64 n, .string ⟨#[]⟩, .bool true, .bool false, .bool false, .slice p 0 k, .int .i64 0])) ∧ Below W.heap.size W w' := by
  have hsz := hdT_le (strOf fl) (strOf ol) n
  have i := ((fed_both zeroS [] (hdT (strOf fl) (strOf ol) n ++ ⟨#[10]⟩) (Nat.zero_le _) (Nat.zero_le _) (Nat.zero_le _) (by rw [ByteArray.size_append]; show _ + 1 ≤ _; omega)) W).2 hm
  have e : (hdT (strOf fl) (strOf ol) n ++ ⟨#[10]⟩).data.toList = hdL fl ol n ++ [10] := by
    unfold hdT
    rw [if_pos h, strOf_data, strOf_data]
    exact strOf_data_app _ _
  unfold FedAns at i
  rw [e, head_back h] at i
  refine i.mono ?_
  rintro e w' ⟨⟨v, rfl, hv⟩, hb⟩
  obtain ⟨p, k, rfl, _⟩ := hv.row stC_len
  exact ⟨⟨p, k, rfl⟩, hb⟩
set_option maxRecDepth 100000 in
set_option maxHeartbeats 4000000 in
theorem fnstream_law (w : World) (a0 : Option Addr) (len0 cap0 : Nat) (w0 : SrcRow w w.heap.size a0 len0) (a1 : Option Addr) (len1 cap1 : Nat) (w1 : SrcRow w w.heap.size a1 len1) (hm : MaxL w) (hp : TabP w) (hE : ErrV w) :
    Calls Tryz.prog 5 #[.slice a0 len0 cap0, .slice a1 len1 cap1] w fun e w' => e = .returned (.bool true) ∧ Below w.heap.size w w' := by
  have hr0 := Lib.hid w0
  have hr1 := Lib.hid w1
  have HM := Lib.hid (fun W (h : Below w.heap.size w W) => And.intro (hm.below h hm.pos) (And.intro (hp.below h) (hE.below h)))
  clear w0 w1 hm hp hE
  by_cases hbig0 : 1048576 < len0
  · go_enter Tryz.func5, Tryz.ntmps5
    go_wp2
    go_ret
    exact ⟨rfl, Below.refl _ _⟩
  by_cases hbig1 : 1048576 < len1
  · go_enter Tryz.func5, Tryz.ntmps5
    go_wp2
    go_ret
    exact ⟨rfl, Below.refl _ _⟩
  go_enter Tryz.func5, Tryz.ntmps5
  go_wp2_with fail
  refine (draw_sfeed a0 len0 cap0 _ (by omega) hr0.out).mono ?_
  rintro e w1 ⟨⟨s, R, t, rfl, b1, b2, b3, ht⟩, hb1⟩
  rcases s with ⟨f, o, n, op, cl, de⟩
  unfold smLV
  have HK1 := Lib.hid (YBox.new (s := ⟨f, o, n, op, cl, de⟩) (R := R) hb1)
  clear hb1
  have i1 := fed_both ⟨f, o, n, op, cl, de⟩ R t b1 b2 b3 (by omega)
  have hxs := sfeed_xs ⟨f, o, n, op, cl, de⟩ R t.data.toList
  have hsm := fed_small ⟨f, o, n, op, cl, de⟩ R t.data.toList
  have i6 := fun W hm => impl_smright (strOf f) (strOf o) n (strOf R) op cl de W (by rw [strOf_size]; unfold maxLen; dsimp only at b1; omega) (by rw [strOf_size]; unfold maxLen; dsimp only at b2; omega) (by rw [strOf_size]; unfold maxLen; omega) hm
  have i7 := fun W => spec_smright (strOf f) (strOf o) n (strOf R) op cl de W (by rw [strOf_size]; unfold maxLen; dsimp only at b1; omega) (by rw [strOf_size]; unfold maxLen; dsimp only at b2; omega) (by rw [strOf_size]; unfold maxLen; omega)
  obtain ⟨sb, hsb⟩ : ∃ b, smB (strOf f) (strOf o) n (strOf R) op cl de = b := ⟨_, rfl⟩
  rw [hsb] at i6 i7
  clear hsb
  unfold FedAns at i1
  obtain ⟨A, hA⟩ : ∃ A, feedA ⟨f, o, n, op, cl, de⟩ R t.data.toList = A := ⟨_, rfl⟩
  have HA := Lib.hid hA
  rw [hA] at i1 hxs hsm
  clear hA
  rcases A with ⟨⟨⟨f1, o1, n1, op1, cl1, de1⟩, r1, xs⟩, cc⟩
  dsimp only at i1 hxs hsm
  unfold soV at i1
  dsimp only at i1
  obtain ⟨N, hN⟩ : ∃ N, xs.length = N := ⟨_, rfl⟩
  have i5 := fun p q c d W hp hq => lw_st xs p q c d W hxs hp hq
  rw [hN] at i5
  obtain ⟨⟨c0, c1, c2, c3', c4, c5, c6⟩, _⟩ := arr_sev HK1.out.1
  have HB0 := Lib.hid (And.intro b1 (And.intro b2 (And.intro b3 (And.intro ht (And.intro hxs hsm)))))
  clear b1 b2 b3 ht hxs hsm
  go_wp2_with fail
  refine ((i1 _).2 (HM.out _ HK1.out.2)).mono ?_
  rintro e w3 ⟨⟨v1, rfl, hv1⟩, hb3⟩
  have HK3 := Lib.hid (HK1.out.on hb3)
  obtain ⟨p1, k1, rfl, _⟩ := hv1.row stC_len
  have HV1 := Lib.hid (OBox.new (o := ⟨⟨f1, o1, n1, op1, cl1, de1⟩, r1, xs⟩) (c := cc) hv1)
  have HK3' := Lib.hid (HK3.out.alloc (.cells (soC ⟨⟨f1, o1, n1, op1, cl1, de1⟩, r1, xs⟩ (.slice p1 xs.length k1) cc).toArray 32))
  clear hv1 hb3 HK1 c0 c1 c2 c3' c4 c5 c6
  rw [hN] at HV1 HK3' ⊢
  obtain ⟨⟨c0, c1, c2, c3', c4, c5, c6⟩, _⟩ := arr_sev HK3.out.1
  have hz3 := arr_lt HK3.out.1
  go_wp2_with fail
  refine ((i1 _).1).mono ?_
  rintro e w4 ⟨⟨v2, rfl, hv2⟩, hb4⟩
  obtain ⟨p2, k2, rfl, _⟩ := hv2.row stC_len
  rw [hN] at hv2 ⊢
  have HV2 := Lib.hid (OBox.new (o := ⟨⟨f1, o1, n1, op1, cl1, de1⟩, r1, xs⟩) (c := cc) hv2)
  have HK4 := Lib.hid (HK3'.out.on hb4)
  have HV4 := Lib.hid (HV1.out.on hb4)
  have HN := Lib.hid hN
  clear hb4 HK3 HK3' HV1 c0 c1 c2 c3' c4 c5 c6 hz3 hv2 hN
  have H6 : Hid (∃ B7 B8, K6 w w1.heap.size w3.heap.size w4.heap.size B7 B8 f o n R op cl de f1 o1 n1 r1 op1 cl1 de1 xs p1 p2 N k1 k2 cc (w4.alloc (.cells #[.string (strOf f1), .string (strOf o1), .int .i64 n1, .string (strOf r1), .bool op1, .bool cl1, .bool de1, .slice p2 N k2, .int .i64 cc] 32))) :=
    Lib.hid ⟨_, _, HK4.out.alloc _, HV4.out.on ((Below.refl _ _).alloc (Nat.le_refl _) _), HV2.out⟩
  clear HK4 HV4 HV2
  go_wp2_with fail
  obtain ⟨B7, B8, hk6⟩ := H6.out
  clear H6
  obtain ⟨g5, hg5⟩ : ∃ b, w1.heap.size = b := ⟨_, rfl⟩
  obtain ⟨g7, hg7⟩ : ∃ b, w3.heap.size = b := ⟨_, rfl⟩
  obtain ⟨g8, hg8⟩ : ∃ b, w4.heap.size = b := ⟨_, rfl⟩
  rw [hg5, hg7, hg8] at hk6
  rw [hg5, hg7, hg8]
  clear hg5 hg7 hg8
  generalize w4.alloc (.cells #[.string (strOf f1), .string (strOf o1), .int .i64 n1, .string (strOf r1), .bool op1, .bool cl1, .bool de1, .slice p2 N k2, .int .i64 cc] 32) = W6 at hk6 ⊢
  have HK6 := Lib.hid hk6
  clear hk6
  go_region_held3 (fun W => ((W.cell? ⟨g5, 0, none⟩ = some (.string (strOf f)) ∧ W.cell? ⟨g5, 1, none⟩ = some (.string (strOf o)) ∧ W.cell? ⟨g5, 2, none⟩ = some (.int .i64 n) ∧ W.cell? ⟨g5, 3, none⟩ = some (.string (strOf R)) ∧ W.cell? ⟨g5, 4, none⟩ = some (.bool op) ∧ W.cell? ⟨g5, 5, none⟩ = some (.bool cl) ∧ W.cell? ⟨g5, 6, none⟩ = some (.bool de)) ∧ (W.cell? ⟨g7, 0, none⟩ = some (.string (strOf f1)) ∧ W.cell? ⟨g7, 1, none⟩ = some (.string (strOf o1)) ∧ W.cell? ⟨g7, 2, none⟩ = some (.int .i64 n1) ∧ W.cell? ⟨g7, 3, none⟩ = some (.string (strOf r1)) ∧ W.cell? ⟨g7, 4, none⟩ = some (.bool op1) ∧ W.cell? ⟨g7, 5, none⟩ = some (.bool cl1) ∧ W.cell? ⟨g7, 6, none⟩ = some (.bool de1) ∧ W.cell? ⟨g7, 7, none⟩ = some (.slice p1 N k1) ∧ W.cell? ⟨g7, 8, none⟩ = some (.int .i64 cc)) ∧ (W.cell? ⟨g8, 0, none⟩ = some (.string (strOf f1)) ∧ W.cell? ⟨g8, 1, none⟩ = some (.string (strOf o1)) ∧ W.cell? ⟨g8, 2, none⟩ = some (.int .i64 n1) ∧ W.cell? ⟨g8, 3, none⟩ = some (.string (strOf r1)) ∧ W.cell? ⟨g8, 4, none⟩ = some (.bool op1) ∧ W.cell? ⟨g8, 5, none⟩ = some (.bool cl1) ∧ W.cell? ⟨g8, 6, none⟩ = some (.bool de1) ∧ W.cell? ⟨g8, 7, none⟩ = some (.slice p2 N k2) ∧ W.cell? ⟨g8, 8, none⟩ = some (.int .i64 cc))) ∧ K6 w g5 g7 g8 B7 B8 f o n R op cl de f1 o1 n1 r1 op1 cl1 de1 xs p1 p2 N k1 k2 cc W)
    (with_reducible first | assumption | exact s6_drew HK6.out | exact s6_on (by assumption) hbN)
    (first
      | (go_at_call 16; go_fit (i7 _); rintro e wn ⟨rfl, hbN⟩; have HF := Lib.hid (s6_on (by assumption) hbN))
      | (go_at_call 15; go_fit (i6 _ (HM.out _ (by assumption : S6 w g5 g7 g8 B7 B8 f o n R op cl de f1 o1 n1 r1 op1 cl1 de1 xs p1 p2 N k1 k2 cc _).2.1.2).1); rintro e wn ⟨rfl, hbN⟩)
      | (go_at_call 14; go_fit (i5 p1 p2 k1 k2 _ (row_of (by assumption : S6 w g5 g7 g8 B7 B8 f o n R op cl de f1 o1 n1 r1 op1 cl1 de1 xs p1 p2 N k1 k2 cc _).2.2.1.2) (row_of (by assumption : S6 w g5 g7 g8 B7 B8 f o n R op cl de f1 o1 n1 r1 op1 cl1 de1 xs p1 p2 N k1 k2 cc _).2.2.2.2)); rintro e wn ⟨rfl, hbN⟩))
  obtain ⟨_, hk6⟩ := HF.out
  have HK6b := Lib.hid hk6
  clear HF HK6 hk6 i5 i6 i7
  go_wp2_with fail
  refine (draw_head a1 len1 cap1 _ (by omega) (hr1.out.lift HK6b.out.1.2 HK6b.out.1.2.size)).mono ?_
  rintro e w9 ⟨⟨fh, oh, nh, rfl, y1, y2, y3, y4⟩, hb9⟩
  obtain ⟨fh, rfl⟩ : ∃ l, fh = strOf l := ⟨_, (strOf_toList fh).symm⟩
  obtain ⟨oh, rfl⟩ : ∃ l, oh = strOf l := ⟨_, (strOf_toList oh).symm⟩
  have HK9 : Hid (K9 w g5 g7 g8 B7 B8 f o n R op cl de f1 o1 n1 r1 op1 cl1 de1 xs p1 p2 N k1 k2 cc w9.heap.size fh oh nh (w9.alloc (.cells #[.string (strOf fh), .string (strOf oh), .int .i64 nh] 27))) :=
    Lib.hid ⟨(HK6b.out.on hb9).on ((Below.refl _ _).alloc (Nat.le_refl _) _), Arr.fresh w9 _ _⟩
  clear hb9 HK6b
  have i8 := fun W (hm : MaxL W ∧ TabP W ∧ ErrV W) => impl_hdtext (strOf fh) (strOf oh) nh W (by unfold maxLen; omega) (by unfold maxLen; omega) hm.1 hm.2.1
  have i9 := fun W => spec_hdtext (strOf fh) (strOf oh) nh W (by unfold maxLen; omega) (by unfold maxLen; omega)
  obtain ⟨g9, hg9⟩ : ∃ b, w9.heap.size = b := ⟨_, rfl⟩
  rw [hg9] at HK9
  clear y1 y2 y3 y4
  go_wp2_with fail
  clear hg9
  generalize w9.alloc (.cells #[.string (strOf fh), .string (strOf oh), .int .i64 nh] 27) = W9 at HK9 ⊢
  refine region_join (List.range' 61 21) (fun vs W => K9 w g5 g7 g8 B7 B8 f o n R op cl de f1 o1 n1 r1 op1 cl1 de1 xs p1 p2 N k1 k2 cc g9 fh oh nh W ∧ vs 81 = .bool false) ?_ ?_
  rotate_left
  · rintro vs W10 ⟨hk10, hv⟩
    have HK10 := Lib.hid hk10.1
    clear HK9 hk10 i8 i9
    simp only [putAll, List.range', Act.put, List.setIfInBounds_toArray, List.set_cons_zero, List.set_cons_succ]
    rw [hv]
    clear hv
    obtain ⟨⟨d0, d1, d2, d3, d4, d5, d6, d7, d8⟩, _⟩ := arr_nine HK10.out.2.1.1
    by_cases hcc : cc = 0
    rotate_left
    · have hce : (cc == 0) = false := by rw [beq_eq_false_iff_ne]; exact hcc
      have hbad := feedA_bad (s := ⟨f, o, n, op, cl, de⟩) (R := R) (T := t.data.toList) (by rw [HA.out]; exact hcc)
      rw [HA.out] at hbad
      dsimp only at hbad
      obtain rfl : N = 0 := by rw [← HN.out, hbad]; rfl
      clear hbad
      go_wp2_with fail
      go_ret
      exact ⟨rfl, HK10.out.1.2⟩
    subst hcc
    have HT := Lib.hid (two_fed (s := ⟨f, o, n, op, cl, de⟩) (R := R) (A := []) (B := t.data.toList))
    go_wp2_with fail
    refine (lw_at a1 len1 cap1 0 256 _ (by omega) (hr1.out.lift HK10.out.1.2 HK10.out.1.2.size) (by omega) (by omega) (by omega)).mono ?_
    rintro e _ ⟨⟨_, rfl, ⟨x1, rfl, x10, x11⟩⟩, rfl⟩
    go_wp2_with fail
    refine (lw_at a1 len1 cap1 1 8 _ (by omega) (hr1.out.lift HK10.out.1.2 HK10.out.1.2.size) (by omega) (by omega) (by omega)).mono ?_
    rintro e _ ⟨⟨_, rfl, ⟨x2, rfl, x20, x21⟩⟩, rfl⟩
    have ht5 := HB0.out.2.2.2.1
    have hrz : ((t.size : Int) + 1 == 0) = false := by rw [beq_eq_false_iff_ne]; omega
    go_wp2_with fail
    obtain ⟨KK, hKK⟩ : ∃ K : Nat, (x1 + 256 * x2) % ((t.size : Int) + 1) = K := ⟨((x1 + 256 * x2) % ((t.size : Int) + 1)).toNat, by have := Int.emod_nonneg (x1 + 256 * x2) (show (t.size : Int) + 1 ≠ 0 by omega); omega⟩
    have hK1 : KK ≤ t.size := by have := Int.emod_lt_of_pos (x1 + 256 * x2) (show (0 : Int) < (t.size : Int) + 1 by omega); omega
    rw [hKK]
    clear hKK x10 x11 x20 x21 hrz HT
    have hK0 : (0 : Int) ≤ (KK : Int) := by omega
    have hK2 : (KK : Int) ≤ (t.size : Int) := by omega
    have hT := two_fed (s := ⟨f, o, n, op, cl, de⟩) (R := R) (A := (t.extract 0 KK).data.toList) (B := (t.extract KK t.size).data.toList)
    rw [part_text t KK hK1, HA.out] at hT
    replace hT := hT rfl
    have hsA : (t.extract 0 KK).size ≤ 10000 := by rw [ByteArray.size_extract]; omega
    have hsB : (t.extract KK t.size).size ≤ 10000 := by rw [ByteArray.size_extract]; omega
    have j1 := fed_both ⟨f, o, n, op, cl, de⟩ R (t.extract 0 KK) HB0.out.1 HB0.out.2.1 HB0.out.2.2.1 hsA
    have jx := sfeed_xs ⟨f, o, n, op, cl, de⟩ R (t.extract 0 KK).data.toList
    have js := fed_small ⟨f, o, n, op, cl, de⟩ R (t.extract 0 KK).data.toList
    unfold FedAns at j1
    obtain ⟨A2, hA2⟩ : ∃ A, feedA ⟨f, o, n, op, cl, de⟩ R (t.extract 0 KK).data.toList = A := ⟨_, rfl⟩
    rw [hA2] at j1 jx js hT
    clear hA2
    rcases A2 with ⟨⟨⟨f2, o2, n2, op2, cl2, de2⟩, r2, xs2⟩, c2⟩
    dsimp only at j1 jx js hT
    obtain ⟨hT1, rfl, hT3, hT4, hT5⟩ := hT
    unfold soV at j1
    dsimp only at j1
    obtain ⟨N2, hN2⟩ : ∃ N, xs2.length = N := ⟨_, rfl⟩
    have H345 := Lib.hid (And.intro hT3 (And.intro hT4 hT5))
    have HJ := Lib.hid (And.intro jx js)
    clear hT3 hT4 hT5 jx js
    refine region_join [99, 100, 101, 102, 103, 11] (fun vs W => ∃ g11 B11 p3 k3, vs 11 = .pointer (some ⟨g11, 0, none⟩) ∧ K6 w g5 g7 g8 B7 B8 f o n R op cl de f1 o1 n1 r1 op1 cl1 de1 xs p1 p2 N k1 k2 0 W ∧ OBox g11 B11 W ⟨⟨f2, o2, n2, op2, cl2, de2⟩, r2, xs2⟩ (.slice p3 N2 k3) 0) ?_ ?_
    rotate_left
    · rintro vs W14 ⟨g11, B11, p3, k3, hv, hk14, ho14⟩
      have HK14 := Lib.hid hk14
      have HO14 := Lib.hid ho14
      clear hk14 ho14 HK10 j1
      simp only [putAll, Act.put, List.setIfInBounds_toArray, List.set_cons_zero, List.set_cons_succ]
      rw [hv]
      clear hv
      clear d0 d1 d2 d3 d4 d5 d6 d7 d8
      obtain ⟨⟨d0, d1, d2, d3, d4, d5, d6, d7, d8⟩, _⟩ := arr_nine HK14.out.2.1.1
      obtain ⟨⟨z0, z1, z2, z3, z4, z5, z6, z7, z8⟩, _⟩ := arr_nine HO14.out.1
      go_wp2_with fail
      have hsm := HB0.out.2.2.2.2.2
      unfold smBL at hT1
      dsimp only at hT1
      have i7 := spec_smright (strOf f1) (strOf o1) n1 (strOf r1) op1 cl1 de1 W14 (by rw [strOf_size]; unfold maxLen; omega) (by rw [strOf_size]; unfold maxLen; omega) (by rw [strOf_size]; unfold maxLen; omega)
      rw [hT1] at i7
      refine i7.mono ?_
      rintro e w15 ⟨rfl, hb15⟩
      have HK15 := Lib.hid (And.intro (HK14.out.on hb15) (HO14.out.on hb15))
      clear hb15 HK14 HO14 i7 hT1 hsm d0 d1 d2 d3 d4 d5 d6 d7 d8 z0 z1 z2 z3 z4 z5 z6 z7 z8
      obtain ⟨⟨d0, d1, d2, d3, d4, d5, d6, d7, d8⟩, _⟩ := arr_nine HK15.out.1.2.1.1
      obtain ⟨⟨z0, z1, z2, z3, z4, z5, z6, z7, z8⟩, _⟩ := arr_nine HK15.out.2.1
      cases de2
      rotate_left
      · obtain ⟨hx1, hx2⟩ := H345.out.1 rfl
        have hNN : N2 = N := by rw [← hN2, ← HN.out, hx2]
        rw [hNN] at HK15 z7
        subst hx1
        have hcap := own_cap HK15.out.1.2.1.2
        have hcap2 : (N : Int) ≤ (k1 : Int) := by omega
        have hnn : (0 : Int) ≤ (N : Int) := by omega
        have i5 := fun W hp hq => lw_st xs p3 p1 k3 k1 W HB0.out.2.2.2.2.1 hp hq
        rw [HN.out] at i5
        clear hN2 hNN hK0 hK1 hK2 hsA hsB ht5
        go_wp2_with fail
        clear d0 d1 d2 d3 d4 d5 d6 d7 d8 z0 z1 z2 z3 z4 z5 z6 z7 z8
        have HK18 : Hid (K14 w g5 g7 g8 B7 B8 f o n R op cl de f1 o1 n1 r1 op1 cl1 true xs p1 p2 N k1 k2 0 g11 B11 f2 o2 n2 r2 op2 cl2 true xs2 p3 N k3 w15) := Lib.hid HK15.out
        go_region_held3 (fun W => ((W.cell? ⟨g7, 0, none⟩ = some (.string (strOf f1)) ∧ W.cell? ⟨g7, 1, none⟩ = some (.string (strOf o1)) ∧ W.cell? ⟨g7, 2, none⟩ = some (.int .i64 n1) ∧ W.cell? ⟨g7, 3, none⟩ = some (.string (strOf r1)) ∧ W.cell? ⟨g7, 4, none⟩ = some (.bool op1) ∧ W.cell? ⟨g7, 5, none⟩ = some (.bool cl1) ∧ W.cell? ⟨g7, 6, none⟩ = some (.bool true) ∧ W.cell? ⟨g7, 7, none⟩ = some (.slice p1 N k1) ∧ W.cell? ⟨g7, 8, none⟩ = some (.int .i64 0)) ∧ (W.cell? ⟨g11, 0, none⟩ = some (.string (strOf f2)) ∧ W.cell? ⟨g11, 1, none⟩ = some (.string (strOf o2)) ∧ W.cell? ⟨g11, 2, none⟩ = some (.int .i64 n2) ∧ W.cell? ⟨g11, 3, none⟩ = some (.string (strOf r2)) ∧ W.cell? ⟨g11, 4, none⟩ = some (.bool op2) ∧ W.cell? ⟨g11, 5, none⟩ = some (.bool cl2) ∧ W.cell? ⟨g11, 6, none⟩ = some (.bool true) ∧ W.cell? ⟨g11, 7, none⟩ = some (.slice p3 N k3) ∧ W.cell? ⟨g11, 8, none⟩ = some (.int .i64 0))) ∧ K14 w g5 g7 g8 B7 B8 f o n R op cl de f1 o1 n1 r1 op1 cl1 true xs p1 p2 N k1 k2 0 g11 B11 f2 o2 n2 r2 op2 cl2 true xs2 p3 N k3 W)
          (with_reducible first | assumption | exact s14_drew HK18.out | exact s14_on (by assumption) hbN)
          (first
            | (go_at_call 14; go_fit (i5 _ (by rw [hx2]; exact row_of (by assumption : S14 w g5 g7 g8 B7 B8 f o n R op cl de f1 o1 n1 r1 op1 cl1 true xs p1 p2 N k1 k2 0 g11 B11 f2 o2 n2 r2 op2 cl2 true xs2 p3 N k3 _).2.2.2) (row_of (by assumption : S14 w g5 g7 g8 B7 B8 f o n R op cl de f1 o1 n1 r1 op1 cl1 true xs p1 p2 N k1 k2 0 g11 B11 f2 o2 n2 r2 op2 cl2 true xs2 p3 N k3 _).2.1.2.1.2)); rintro e wn ⟨rfl, hbN⟩; have HF := Lib.hid (s14_on (by assumption) hbN)))
        go_wp2_with fail
        go_ret
        exact ⟨rfl, HF.out.2.1.1.2⟩
      go_wp2_with fail
      clear d0 d1 d2 d3 d4 d5 d6 d7 d8 z0 z1 z2 z3 z4 z5 z6 z7 z8
      have js := HJ.out.2
      have j2 := fed_both ⟨f2, o2, n2, op2, cl2, false⟩ r2 (t.extract KK t.size) js.1 js.2.1 (by omega) hsB
      have jx := sfeed_xs ⟨f2, o2, n2, op2, cl2, false⟩ r2 (t.extract KK t.size).data.toList
      have hq1 := H345.out.2.1 (by first | trivial | rfl)
      have hq2 := H345.out.2.2 (by first | trivial | rfl)
      have i5 := fun p q c d W hp hq => lw_st xs p q c d W HB0.out.2.2.2.2.1 hp hq
      rw [HN.out] at i5
      have jx2 := HJ.out.1
      unfold FedAns at j2
      cases cl2
      · clear hq1
        replace hq2 := hq2 rfl
        obtain ⟨xs3, hx3⟩ : ∃ x, (feedA ⟨f2, o2, n2, op2, false, false⟩ r2 (t.extract KK t.size).data.toList).1.xs = x := ⟨_, rfl⟩
        rw [hx3] at hq2 jx
        obtain ⟨he, hq⟩ := hq2
        rw [he] at j2
        clear he hx3 js
        unfold soV at j2
        dsimp only at j2
        obtain ⟨N3, hN3⟩ : ∃ N, xs3.length = N := ⟨_, rfl⟩
        refine region_join [139, 140, 141, 142, 143, 144, 12] (fun vs W => ∃ g12 B12 p4 k4, vs 12 = .pointer (some ⟨g12, 0, none⟩) ∧ K19 w g5 g7 g8 B7 B8 f o n R op cl de f1 o1 n1 r1 op1 cl1 de1 xs p1 p2 N k1 k2 0 g11 B11 f2 o2 n2 r2 op2 false false xs2 p3 N2 k3 g12 B12 f1 o1 n1 r1 op1 cl1 de1 xs3 p4 N3 k4 0 W) ?_ ?_
        rotate_left
        · rintro vs W19 ⟨g12, B12, p4, k4, hv, hk19⟩
          have HK19 := Lib.hid hk19
          clear hk19 HK15 j2
          simp only [putAll, Act.put, List.setIfInBounds_toArray, List.set_cons_zero, List.set_cons_succ]
          rw [hv]
          clear hv
          obtain ⟨⟨z0, z1, z2, z3, z4, z5, z6, z7, z8⟩, _⟩ := arr_nine HK19.out.1.2.1
          go_wp2_with fail
          clear z0 z1 z2 z3 z4 z5 z6 z7 z8
          refine wp_region_held_drew (S := fun W => ((W.cell? ⟨g7, 0, none⟩ = some (.string (strOf f1)) ∧ W.cell? ⟨g7, 1, none⟩ = some (.string (strOf o1)) ∧ W.cell? ⟨g7, 2, none⟩ = some (.int .i64 n1) ∧ W.cell? ⟨g7, 3, none⟩ = some (.string (strOf r1)) ∧ W.cell? ⟨g7, 4, none⟩ = some (.bool op1) ∧ W.cell? ⟨g7, 5, none⟩ = some (.bool cl1) ∧ W.cell? ⟨g7, 6, none⟩ = some (.bool de1) ∧ W.cell? ⟨g7, 7, none⟩ = some (.slice p1 N k1) ∧ W.cell? ⟨g7, 8, none⟩ = some (.int .i64 0)) ∧ (W.cell? ⟨g11, 0, none⟩ = some (.string (strOf f2)) ∧ W.cell? ⟨g11, 1, none⟩ = some (.string (strOf o2)) ∧ W.cell? ⟨g11, 2, none⟩ = some (.int .i64 n2) ∧ W.cell? ⟨g11, 3, none⟩ = some (.string (strOf r2)) ∧ W.cell? ⟨g11, 4, none⟩ = some (.bool op2) ∧ W.cell? ⟨g11, 5, none⟩ = some (.bool false) ∧ W.cell? ⟨g11, 6, none⟩ = some (.bool false) ∧ W.cell? ⟨g11, 7, none⟩ = some (.slice p3 N2 k3) ∧ W.cell? ⟨g11, 8, none⟩ = some (.int .i64 0)) ∧ (W.cell? ⟨g12, 0, none⟩ = some (.string (strOf f1)) ∧ W.cell? ⟨g12, 1, none⟩ = some (.string (strOf o1)) ∧ W.cell? ⟨g12, 2, none⟩ = some (.int .i64 n1) ∧ W.cell? ⟨g12, 3, none⟩ = some (.string (strOf r1)) ∧ W.cell? ⟨g12, 4, none⟩ = some (.bool op1) ∧ W.cell? ⟨g12, 5, none⟩ = some (.bool cl1) ∧ W.cell? ⟨g12, 6, none⟩ = some (.bool de1) ∧ W.cell? ⟨g12, 7, none⟩ = some (.slice p4 N3 k4) ∧ W.cell? ⟨g12, 8, none⟩ = some (.int .i64 0))) ∧ K19 w g5 g7 g8 B7 B8 f o n R op cl de f1 o1 n1 r1 op1 cl1 de1 xs p1 p2 N k1 k2 0 g11 B11 f2 o2 n2 r2 op2 false false xs2 p3 N2 k3 g12 B12 f1 o1 n1 r1 op1 cl1 de1 xs3 p4 N3 k4 0 W) (by kernel_rfl) (s19_drew HK19.out) (fun hHeld => ?_)
          generalize W19.drew = Wd at hHeld ⊢
          refine takeQ (i := 0) (k := 158) (v := .pointer (some ⟨g12, 8, none⟩)) rfl (by rfl) (by kernel_rfl) (by kernel_rfl) (by kernel_rfl) (fun _ _ _ h => h) (by rfl) ?_ hHeld ?_
          · intro w1 hSw; obtain ⟨⟨⟨p0, p1, p2, p3, p4, p5, p6, p7, p8⟩, ⟨q0, q1, q2, q3, q4, q5, q6, q7, q8⟩, ⟨m0, m1, m2, m3, m4, m5, m6, m7, m8⟩⟩, _⟩ := hSw; go_simp
          (try simp only [Act.put, List.setIfInBounds_toArray, List.set_cons_zero, List.set_cons_succ])
          refine takeQ (i := 1) (k := 159) (v := .int .i64 0) rfl (by rfl) (by kernel_rfl) (by kernel_rfl) (by kernel_rfl) (fun _ _ _ h => h) (by rfl) ?_ hHeld ?_
          · intro w1 hSw; obtain ⟨⟨⟨p0, p1, p2, p3, p4, p5, p6, p7, p8⟩, ⟨q0, q1, q2, q3, q4, q5, q6, q7, q8⟩, ⟨m0, m1, m2, m3, m4, m5, m6, m7, m8⟩⟩, _⟩ := hSw; go_simp
          (try simp only [Act.put, List.setIfInBounds_toArray, List.set_cons_zero, List.set_cons_succ])
          refine takeQ (i := 2) (k := 160) (v := .bool true) rfl (by rfl) (by kernel_rfl) (by kernel_rfl) (by kernel_rfl) (fun _ _ _ h => h) (by rfl) ?_ hHeld ?_
          · intro w1 hSw; obtain ⟨⟨⟨p0, p1, p2, p3, p4, p5, p6, p7, p8⟩, ⟨q0, q1, q2, q3, q4, q5, q6, q7, q8⟩, ⟨m0, m1, m2, m3, m4, m5, m6, m7, m8⟩⟩, _⟩ := hSw; go_simp
          (try simp only [Act.put, List.setIfInBounds_toArray, List.set_cons_zero, List.set_cons_succ])
          refine takeQ (i := 3) (k := 161) (v := .bool true) rfl (by rfl) (by kernel_rfl) (by kernel_rfl) (by kernel_rfl) (fun _ _ _ h => h) (by rfl) ?_ hHeld ?_
          · intro w1 hSw; obtain ⟨⟨⟨p0, p1, p2, p3, p4, p5, p6, p7, p8⟩, ⟨q0, q1, q2, q3, q4, q5, q6, q7, q8⟩, ⟨m0, m1, m2, m3, m4, m5, m6, m7, m8⟩⟩, _⟩ := hSw; go_simp
          (try simp only [Act.put, List.setIfInBounds_toArray, List.set_cons_zero, List.set_cons_succ])
          refine takeQ (i := 4) (k := 162) (v := .pointer (some ⟨g12, 0, none⟩)) rfl (by rfl) (by kernel_rfl) (by kernel_rfl) (by kernel_rfl) (fun _ _ _ h => h) (by rfl) ?_ hHeld ?_
          · intro w1 hSw; obtain ⟨⟨⟨p0, p1, p2, p3, p4, p5, p6, p7, p8⟩, ⟨q0, q1, q2, q3, q4, q5, q6, q7, q8⟩, ⟨m0, m1, m2, m3, m4, m5, m6, m7, m8⟩⟩, _⟩ := hSw; go_simp
          (try simp only [Act.put, List.setIfInBounds_toArray, List.set_cons_zero, List.set_cons_succ])
          refine takeQ (i := 5) (k := 163) (v := .agg #[.string (strOf f1), .string (strOf o1), .int .i64 n1, .string (strOf r1), .bool op1, .bool cl1, .bool de1]) rfl (by rfl) (by kernel_rfl) (by kernel_rfl) (by kernel_rfl) (fun _ _ _ h => h) (by rfl) ?_ hHeld ?_
          · intro w1 hSw; obtain ⟨⟨⟨p0, p1, p2, p3, p4, p5, p6, p7, p8⟩, ⟨q0, q1, q2, q3, q4, q5, q6, q7, q8⟩, ⟨m0, m1, m2, m3, m4, m5, m6, m7, m8⟩⟩, _⟩ := hSw; go_simp
          (try simp only [Act.put, List.setIfInBounds_toArray, List.set_cons_zero, List.set_cons_succ])
          refine takeQ (i := 6) (k := 164) (v := .pointer (some ⟨g7, 0, none⟩)) rfl (by rfl) (by kernel_rfl) (by kernel_rfl) (by kernel_rfl) (fun _ _ _ h => h) (by rfl) ?_ hHeld ?_
          · intro w1 hSw; obtain ⟨⟨⟨p0, p1, p2, p3, p4, p5, p6, p7, p8⟩, ⟨q0, q1, q2, q3, q4, q5, q6, q7, q8⟩, ⟨m0, m1, m2, m3, m4, m5, m6, m7, m8⟩⟩, _⟩ := hSw; go_simp
          (try simp only [Act.put, List.setIfInBounds_toArray, List.set_cons_zero, List.set_cons_succ])
          refine takeQ (i := 7) (k := 165) (v := .agg #[.string (strOf f1), .string (strOf o1), .int .i64 n1, .string (strOf r1), .bool op1, .bool cl1, .bool de1]) rfl (by rfl) (by kernel_rfl) (by kernel_rfl) (by kernel_rfl) (fun _ _ _ h => h) (by rfl) ?_ hHeld ?_
          · intro w1 hSw; obtain ⟨⟨⟨p0, p1, p2, p3, p4, p5, p6, p7, p8⟩, ⟨q0, q1, q2, q3, q4, q5, q6, q7, q8⟩, ⟨m0, m1, m2, m3, m4, m5, m6, m7, m8⟩⟩, _⟩ := hSw; go_simp
          (try simp only [Act.put, List.setIfInBounds_toArray, List.set_cons_zero, List.set_cons_succ])
          refine takeQ (i := 8) (k := 166) (v := .bool true) rfl (by rfl) (by kernel_rfl) (by kernel_rfl) (by kernel_rfl) (fun _ _ _ h => h) (by rfl) ?_ hHeld ?_
          · intro w1 hSw; obtain ⟨⟨⟨p0, p1, p2, p3, p4, p5, p6, p7, p8⟩, ⟨q0, q1, q2, q3, q4, q5, q6, q7, q8⟩, ⟨m0, m1, m2, m3, m4, m5, m6, m7, m8⟩⟩, _⟩ := hSw; go_simp
          (try simp only [Act.put, List.setIfInBounds_toArray, List.set_cons_zero, List.set_cons_succ])
          refine takeQ (i := 9) (k := 167) (v := .bool true) rfl (by rfl) (by kernel_rfl) (by kernel_rfl) (by kernel_rfl) (fun _ _ _ h => h) (by rfl) ?_ hHeld ?_
          · intro w1 hSw; obtain ⟨⟨⟨p0, p1, p2, p3, p4, p5, p6, p7, p8⟩, ⟨q0, q1, q2, q3, q4, q5, q6, q7, q8⟩, ⟨m0, m1, m2, m3, m4, m5, m6, m7, m8⟩⟩, _⟩ := hSw; go_simp
          (try simp only [Act.put, List.setIfInBounds_toArray, List.set_cons_zero, List.set_cons_succ])
          refine takeQ (i := 10) (k := 168) (v := .bool true) rfl (by rfl) (by kernel_rfl) (by kernel_rfl) (by kernel_rfl) (fun _ _ _ h => h) (by rfl) ?_ hHeld ?_
          · intro w1 hSw; obtain ⟨⟨⟨p0, p1, p2, p3, p4, p5, p6, p7, p8⟩, ⟨q0, q1, q2, q3, q4, q5, q6, q7, q8⟩, ⟨m0, m1, m2, m3, m4, m5, m6, m7, m8⟩⟩, _⟩ := hSw; go_simp
          (try simp only [Act.put, List.setIfInBounds_toArray, List.set_cons_zero, List.set_cons_succ])
          refine takeQ (i := 12) (k := 170) (v := .pointer (some ⟨g11, 7, none⟩)) rfl (by rfl) (by kernel_rfl) (by kernel_rfl) (by kernel_rfl) (fun _ _ _ h => h) (by rfl) ?_ hHeld ?_
          · intro w1 hSw; obtain ⟨⟨⟨p0, p1, p2, p3, p4, p5, p6, p7, p8⟩, ⟨q0, q1, q2, q3, q4, q5, q6, q7, q8⟩, ⟨m0, m1, m2, m3, m4, m5, m6, m7, m8⟩⟩, _⟩ := hSw; go_simp
          (try simp only [Act.put, List.setIfInBounds_toArray, List.set_cons_zero, List.set_cons_succ])
          refine takeQ (i := 13) (k := 171) (v := .slice p3 N2 k3) rfl (by rfl) (by kernel_rfl) (by kernel_rfl) (by kernel_rfl) (fun _ _ _ h => h) (by rfl) ?_ hHeld ?_
          · intro w1 hSw; obtain ⟨⟨⟨p0, p1, p2, p3, p4, p5, p6, p7, p8⟩, ⟨q0, q1, q2, q3, q4, q5, q6, q7, q8⟩, ⟨m0, m1, m2, m3, m4, m5, m6, m7, m8⟩⟩, _⟩ := hSw; go_simp
          (try simp only [Act.put, List.setIfInBounds_toArray, List.set_cons_zero, List.set_cons_succ])
          refine takeQ (i := 15) (k := 173) (v := .pointer (some ⟨g12, 7, none⟩)) rfl (by rfl) (by kernel_rfl) (by kernel_rfl) (by kernel_rfl) (fun _ _ _ h => h) (by rfl) ?_ hHeld ?_
          · intro w1 hSw; obtain ⟨⟨⟨p0, p1, p2, p3, p4, p5, p6, p7, p8⟩, ⟨q0, q1, q2, q3, q4, q5, q6, q7, q8⟩, ⟨m0, m1, m2, m3, m4, m5, m6, m7, m8⟩⟩, _⟩ := hSw; go_simp
          (try simp only [Act.put, List.setIfInBounds_toArray, List.set_cons_zero, List.set_cons_succ])
          refine takeQ (i := 16) (k := 174) (v := .slice p4 N3 k4) rfl (by rfl) (by kernel_rfl) (by kernel_rfl) (by kernel_rfl) (fun _ _ _ h => h) (by rfl) ?_ hHeld ?_
          · intro w1 hSw; obtain ⟨⟨⟨p0, p1, p2, p3, p4, p5, p6, p7, p8⟩, ⟨q0, q1, q2, q3, q4, q5, q6, q7, q8⟩, ⟨m0, m1, m2, m3, m4, m5, m6, m7, m8⟩⟩, _⟩ := hSw; go_simp
          (try simp only [Act.put, List.setIfInBounds_toArray, List.set_cons_zero, List.set_cons_succ])
          refine takeQ (i := 18) (k := 176) (v := .pointer (some ⟨g7, 7, none⟩)) rfl (by rfl) (by kernel_rfl) (by kernel_rfl) (by kernel_rfl) (fun _ _ _ h => h) (by rfl) ?_ hHeld ?_
          · intro w1 hSw; obtain ⟨⟨⟨p0, p1, p2, p3, p4, p5, p6, p7, p8⟩, ⟨q0, q1, q2, q3, q4, q5, q6, q7, q8⟩, ⟨m0, m1, m2, m3, m4, m5, m6, m7, m8⟩⟩, _⟩ := hSw; go_simp
          (try simp only [Act.put, List.setIfInBounds_toArray, List.set_cons_zero, List.set_cons_succ])
          refine takeQ (i := 19) (k := 177) (v := .slice p1 N k1) rfl (by rfl) (by kernel_rfl) (by kernel_rfl) (by kernel_rfl) (fun _ _ _ h => h) (by rfl) ?_ hHeld ?_
          · intro w1 hSw; obtain ⟨⟨⟨p0, p1, p2, p3, p4, p5, p6, p7, p8⟩, ⟨q0, q1, q2, q3, q4, q5, q6, q7, q8⟩, ⟨m0, m1, m2, m3, m4, m5, m6, m7, m8⟩⟩, _⟩ := hSw; go_simp
          (try simp only [Act.put, List.setIfInBounds_toArray, List.set_cons_zero, List.set_cons_succ])
          refine wpAnyH_ready (rs := [11]) (by kernel_rfl) (by simp) ?_
          refine AllReadyH.cons rfl (fun K hK => ?_) AllReadyH.nil
          rw [if_pos (by rfl)]
          go_simp
          have hb1 : Below Wd.heap.size Wd (Wd.alloc (.cells #[] 70)) := (Below.refl _ _).alloc (Nat.le_refl _) _
          refine hK.out _ _ (s19_on hHeld hb1) (fun hHeld1 => ?_)
          clear hK K
          (try simp only [Act.put, List.setIfInBounds_toArray, List.set_cons_zero, List.set_cons_succ])
          refine wpAnyH_ready (rs := [14]) (by kernel_rfl) (by simp) ?_
          refine AllReadyH.cons rfl (fun K hK => ?_) AllReadyH.nil
          rw [if_pos (by rfl)]
          refine wp_app_row _ _ rfl Wd.heap.size _ [] rfl (empty_row Wd) _ p3 N2 k3 xs2 rfl hHeld1.2.1.2.2 (by simp; omega) (by simp) ?_
          intro v1 w1x ho1 hg1
          have hb2 := hb1.trans (grown_below hg1 (by simp) (fun k hk => OwnC.base (empty_row Wd) k hk))
          refine hK.out _ _ (s19_on hHeld hb2) (fun hHeld2 => ?_)
          clear hK K
          (try simp only [Act.put, List.setIfInBounds_toArray, List.set_cons_zero, List.set_cons_succ])
          refine wpAnyH_ready (rs := [17]) (by kernel_rfl) (by simp) ?_
          refine AllReadyH.cons rfl (fun K hK => ?_) AllReadyH.nil
          rw [if_pos (by rfl)]
          refine wp_app_row _ _ rfl Wd.heap.size _ _ rfl ho1 _ p4 N3 k4 xs3 rfl hHeld2.2.2.2 (by simp; omega) hb2.size ?_
          intro v2 w2x ho2 hg2
          have hb3 := hb2.trans (grown_below hg2 hb2.size (fun k hk => OwnC.base ho1 k hk))
          rw [List.nil_append, hq] at ho2
          obtain ⟨p5, k5, rfl, _⟩ := ho2.row stC_len
          rw [HN.out] at ho2 ⊢
          refine hK.out _ _ (s19_on hHeld hb3) (fun hHeld3 => ?_)
          clear hK K
          (try simp only [Act.put, List.setIfInBounds_toArray, List.set_cons_zero, List.set_cons_succ])
          refine wpAnyH_ready (rs := [20]) (by kernel_rfl) (by simp) ?_
          refine AllReadyH.cons rfl (fun K hK => ?_) AllReadyH.nil
          rw [if_pos (by rfl)]
          go_simp
          go_fit (i5 p5 p1 k5 k1 _ (row_of ho2) (row_of hHeld3.2.1.1.2.1.2))
          rintro e wm ⟨rfl, hbN⟩
          refine hK.out _ _ (s19_on hHeld3 hbN) (fun hHeld => ?_)
          clear hK K
          (try simp only [Act.put, List.setIfInBounds_toArray, List.set_cons_zero, List.set_cons_succ])
          refine takeQ (i := 21) (k := 179) (v := .bool true) rfl (by rfl) (by kernel_rfl) (by kernel_rfl) (by kernel_rfl) (fun _ _ _ h => h) (by rfl) ?_ hHeld ?_
          · intro w1 hSw; obtain ⟨⟨⟨p0, p1, p2, p3, p4, p5, p6, p7, p8⟩, ⟨q0, q1, q2, q3, q4, q5, q6, q7, q8⟩, ⟨m0, m1, m2, m3, m4, m5, m6, m7, m8⟩⟩, _⟩ := hSw; go_simp
          (try simp only [Act.put, List.setIfInBounds_toArray, List.set_cons_zero, List.set_cons_succ])
          refine takeQ (i := 22) (k := 4) (v := .bool true) rfl (by rfl) (by kernel_rfl) (by kernel_rfl) (by kernel_rfl) (fun _ _ _ h => h) (by rfl) ?_ hHeld ?_
          · intro w1 hSw; obtain ⟨⟨⟨p0, p1, p2, p3, p4, p5, p6, p7, p8⟩, ⟨q0, q1, q2, q3, q4, q5, q6, q7, q8⟩, ⟨m0, m1, m2, m3, m4, m5, m6, m7, m8⟩⟩, _⟩ := hSw; go_simp
          (try simp only [Act.put, List.setIfInBounds_toArray, List.set_cons_zero, List.set_cons_succ])
          refine wpAnyH_done (by kernel_rfl) ?_ _
          go_wp2_with fail
          go_ret
          exact ⟨rfl, hHeld.2.1.1.1.2⟩
        have HK15b : Hid (K14 w g5 g7 g8 B7 B8 f o n R op cl de f1 o1 n1 r1 op1 cl1 de1 xs p1 p2 N k1 k2 0 g11 B11 f2 o2 n2 r2 op2 false false xs2 p3 N2 k3 w15) := Lib.hid HK15.out
        refine wp_region_held_drew (S := fun W => ((W.cell? ⟨g7, 0, none⟩ = some (.string (strOf f1)) ∧ W.cell? ⟨g7, 1, none⟩ = some (.string (strOf o1)) ∧ W.cell? ⟨g7, 2, none⟩ = some (.int .i64 n1) ∧ W.cell? ⟨g7, 3, none⟩ = some (.string (strOf r1)) ∧ W.cell? ⟨g7, 4, none⟩ = some (.bool op1) ∧ W.cell? ⟨g7, 5, none⟩ = some (.bool cl1) ∧ W.cell? ⟨g7, 6, none⟩ = some (.bool de1) ∧ W.cell? ⟨g7, 7, none⟩ = some (.slice p1 N k1) ∧ W.cell? ⟨g7, 8, none⟩ = some (.int .i64 0)) ∧ (W.cell? ⟨g11, 0, none⟩ = some (.string (strOf f2)) ∧ W.cell? ⟨g11, 1, none⟩ = some (.string (strOf o2)) ∧ W.cell? ⟨g11, 2, none⟩ = some (.int .i64 n2) ∧ W.cell? ⟨g11, 3, none⟩ = some (.string (strOf r2)) ∧ W.cell? ⟨g11, 4, none⟩ = some (.bool op2) ∧ W.cell? ⟨g11, 5, none⟩ = some (.bool false) ∧ W.cell? ⟨g11, 6, none⟩ = some (.bool false) ∧ W.cell? ⟨g11, 7, none⟩ = some (.slice p3 N2 k3) ∧ W.cell? ⟨g11, 8, none⟩ = some (.int .i64 0))) ∧ K14 w g5 g7 g8 B7 B8 f o n R op cl de f1 o1 n1 r1 op1 cl1 de1 xs p1 p2 N k1 k2 0 g11 B11 f2 o2 n2 r2 op2 false false xs2 p3 N2 k3 W) (by kernel_rfl) (s14_drew HK15b.out) (fun hHeld => ?_)
        generalize w15.drew = Wd at hHeld ⊢
        refine takeQ (i := 0) (k := 139) (v := .pointer (some ⟨g11, 0, none⟩)) rfl (by rfl) (by kernel_rfl) (by kernel_rfl) (by kernel_rfl) (fun _ _ _ h => h) (by rfl) ?_ hHeld ?_
        · intro w1 hSw; obtain ⟨⟨⟨p0, p1, p2, p3, p4, p5, p6, p7, p8⟩, ⟨q0, q1, q2, q3, q4, q5, q6, q7, q8⟩⟩, _⟩ := hSw; go_simp
        (try simp only [Act.put, List.setIfInBounds_toArray, List.set_cons_zero, List.set_cons_succ])
        refine takeQ (i := 1) (k := 140) (v := .agg #[.string (strOf f2), .string (strOf o2), .int .i64 n2, .string (strOf r2), .bool op2, .bool false, .bool false]) rfl (by rfl) (by kernel_rfl) (by kernel_rfl) (by kernel_rfl) (fun _ _ _ h => h) (by rfl) ?_ hHeld ?_
        · intro w1 hSw; obtain ⟨⟨⟨p0, p1, p2, p3, p4, p5, p6, p7, p8⟩, ⟨q0, q1, q2, q3, q4, q5, q6, q7, q8⟩⟩, _⟩ := hSw; go_simp
        (try simp only [Act.put, List.setIfInBounds_toArray, List.set_cons_zero, List.set_cons_succ])
        refine takeQ (i := 2) (k := 141) (v := .string t) rfl (by rfl) (by kernel_rfl) (by kernel_rfl) (by kernel_rfl) (fun _ _ _ h => h) (by rfl) ?_ hHeld ?_
        · intro w1 hSw; obtain ⟨⟨⟨p0, p1, p2, p3, p4, p5, p6, p7, p8⟩, ⟨q0, q1, q2, q3, q4, q5, q6, q7, q8⟩⟩, _⟩ := hSw; go_simp
        (try simp only [Act.put, List.setIfInBounds_toArray, List.set_cons_zero, List.set_cons_succ])
        refine takeQ (i := 3) (k := 142) (v := .int .i64 (KK : Int)) rfl (by rfl) (by kernel_rfl) (by kernel_rfl) (by kernel_rfl) (fun _ _ _ h => h) (by rfl) ?_ hHeld ?_
        · intro w1 hSw; obtain ⟨⟨⟨p0, p1, p2, p3, p4, p5, p6, p7, p8⟩, ⟨q0, q1, q2, q3, q4, q5, q6, q7, q8⟩⟩, _⟩ := hSw; go_simp
        (try simp only [Act.put, List.setIfInBounds_toArray, List.set_cons_zero, List.set_cons_succ])
        refine takeQ (i := 4) (k := 143) (v := .string (t.extract KK t.size)) rfl (by rfl) (by kernel_rfl) (by kernel_rfl) (by kernel_rfl) (fun _ _ _ h => h) (by rfl) ?_ hHeld ?_
        · intro w1 hSw; obtain ⟨⟨⟨p0, p1, p2, p3, p4, p5, p6, p7, p8⟩, ⟨q0, q1, q2, q3, q4, q5, q6, q7, q8⟩⟩, _⟩ := hSw; go_simp
        (try simp only [Act.put, List.setIfInBounds_toArray, List.set_cons_zero, List.set_cons_succ])
        refine wpAnyH_ready (rs := [5, 6]) (by kernel_rfl) (by simp) ?_
        refine AllReadyH.cons rfl (fun K hK => ?_) (AllReadyH.cons rfl (fun K hK => ?_) AllReadyH.nil)
        · rw [if_pos (by rfl)]
          go_simp
          go_fit ((j2 _).2 (HM.out _ hHeld.2.1.1.2))
          rintro e wm ⟨⟨v3, rfl, hv3⟩, hbN⟩
          obtain ⟨p4, k4, rfl, _⟩ := hv3.row stC_len
          rw [hN3] at hv3 ⊢
          have hbx := box_after (o := ⟨⟨f1, o1, n1, op1, cl1, de1⟩, r1, xs3⟩) (c := 0) (z := #[.string ⟨#[]⟩, .string ⟨#[]⟩, .int .i64 0, .string ⟨#[]⟩, .bool false, .bool false, .bool false, .slice none 0 0, .int .i64 0]) hv3 rfl
          refine hK.out _ _ (s14_on hHeld hbN) (fun hHeld2 => ?_)
          clear hK K
          (try simp only [Act.put, List.setIfInBounds_toArray, List.set_cons_zero, List.set_cons_succ])
          refine wpAnyH_ready (rs := [6]) (by kernel_rfl) (by simp) ?_
          refine AllReadyH.cons rfl (fun K hK => ?_) AllReadyH.nil
          rw [if_pos (by rfl)]
          go_simp
          refine hK.out _ _ (s14_on hHeld2 ((Below.refl _ _).alloc (Nat.le_refl _) _)) (fun hHeld3 => ?_)
          clear hK K
          (try simp only [Act.put, List.setIfInBounds_toArray, List.set_cons_zero, List.set_cons_succ])
          refine wpAnyH_ready (rs := [7]) (by kernel_rfl) (by simp) ?_
          refine AllReadyH.cons rfl (fun K hK => ?_) AllReadyH.nil
          rw [if_pos (by rfl)]
          refine wp_store_row 32 _ _ rfl wm.heap.size _ rfl rfl 32 _ (heap_alloc_new wm _) (by kernel_rfl) (by rfl) (by kernel_rfl) ?_
          refine hK.out _ _ (s14_on hHeld2 hbx.2) (fun hHeld4 => ?_)
          clear hK K
          (try simp only [Act.put, List.setIfInBounds_toArray, List.set_cons_zero, List.set_cons_succ])
          refine wpAnyH_done (by kernel_rfl) ?_ _
          exact ⟨⟨_, _, p4, k4, rfl, hHeld4.2, hbx.1⟩, by simp only [putAll, Act.put, List.setIfInBounds_toArray, List.set_cons_zero, List.set_cons_succ]; rfl⟩
        · rw [if_pos (by rfl)]
          go_simp
          refine hK.out _ _ (s14_on hHeld ((Below.refl _ _).alloc (Nat.le_refl _) _)) (fun hHeld2 => ?_)
          clear hK K
          (try simp only [Act.put, List.setIfInBounds_toArray, List.set_cons_zero, List.set_cons_succ])
          refine wpAnyH_ready (rs := [5]) (by kernel_rfl) (by simp) ?_
          refine AllReadyH.cons rfl (fun K hK => ?_) AllReadyH.nil
          rw [if_pos (by rfl)]
          go_simp
          go_fit ((j2 _).2 (HM.out _ hHeld2.2.1.1.2))
          rintro e wm ⟨⟨v3, rfl, hv3⟩, hbN⟩
          obtain ⟨p4, k4, rfl, _⟩ := hv3.row stC_len
          rw [hN3] at hv3 ⊢
          have hbx := box_before (o := ⟨⟨f1, o1, n1, op1, cl1, de1⟩, r1, xs3⟩) (c := 0) hv3 hbN
          refine hK.out _ _ (s14_on hHeld2 hbN) (fun hHeld3 => ?_)
          clear hK K
          (try simp only [Act.put, List.setIfInBounds_toArray, List.set_cons_zero, List.set_cons_succ])
          refine wpAnyH_ready (rs := [7]) (by kernel_rfl) (by simp) ?_
          refine AllReadyH.cons rfl (fun K hK => ?_) AllReadyH.nil
          rw [if_pos (by rfl)]
          refine wp_store_row 32 _ _ rfl Wd.heap.size _ rfl rfl 32 _ hbx.1 (by kernel_rfl) (by rfl) (by kernel_rfl) ?_
          refine hK.out _ _ (s14_on hHeld hbx.2.2) (fun hHeld4 => ?_)
          clear hK K
          (try simp only [Act.put, List.setIfInBounds_toArray, List.set_cons_zero, List.set_cons_succ])
          refine wpAnyH_done (by kernel_rfl) ?_ _
          exact ⟨⟨_, _, p4, k4, rfl, hHeld4.2, hbx.2.1⟩, by simp only [putAll, Act.put, List.setIfInBounds_toArray, List.set_cons_zero, List.set_cons_succ]; rfl⟩
      · clear hq2
        replace hq := hq1 rfl
        obtain ⟨A3, hA3⟩ : ∃ x, feedA ⟨f2, o2, n2, op2, true, false⟩ r2 (t.extract KK t.size).data.toList = x := ⟨_, rfl⟩
        rw [hA3] at hq j2 jx
        clear hA3 hq1 js
        rcases A3 with ⟨⟨⟨f3, o3, n3, op3, cl3, de3⟩, r3, xs3⟩, c3⟩
        dsimp only at hq j2 jx
        unfold soV at j2
        dsimp only at j2
        obtain ⟨N3, hN3⟩ : ∃ N, xs3.length = N := ⟨_, rfl⟩
        refine region_join [139, 140, 141, 142, 143, 144, 12] (fun vs W => ∃ g12 B12 p4 k4, vs 12 = .pointer (some ⟨g12, 0, none⟩) ∧ K19 w g5 g7 g8 B7 B8 f o n R op cl de f1 o1 n1 r1 op1 cl1 de1 xs p1 p2 N k1 k2 0 g11 B11 f2 o2 n2 r2 op2 true false xs2 p3 N2 k3 g12 B12 f3 o3 n3 r3 op3 cl3 de3 xs3 p4 N3 k4 c3 W) ?_ ?_
        rotate_left
        · rintro vs W19 ⟨g12, B12, p4, k4, hv, hk19⟩
          have HK19 := Lib.hid hk19
          clear hk19 HK15 j2
          simp only [putAll, Act.put, List.setIfInBounds_toArray, List.set_cons_zero, List.set_cons_succ]
          rw [hv]
          clear hv
          obtain ⟨⟨z0, z1, z2, z3, z4, z5, z6, z7, z8⟩, _⟩ := arr_nine HK19.out.1.2.1
          go_wp2_with fail
          clear z0 z1 z2 z3 z4 z5 z6 z7 z8
          refine wp_region_held_drew (S := fun W => ((W.cell? ⟨g7, 0, none⟩ = some (.string (strOf f1)) ∧ W.cell? ⟨g7, 1, none⟩ = some (.string (strOf o1)) ∧ W.cell? ⟨g7, 2, none⟩ = some (.int .i64 n1) ∧ W.cell? ⟨g7, 3, none⟩ = some (.string (strOf r1)) ∧ W.cell? ⟨g7, 4, none⟩ = some (.bool op1) ∧ W.cell? ⟨g7, 5, none⟩ = some (.bool cl1) ∧ W.cell? ⟨g7, 6, none⟩ = some (.bool de1) ∧ W.cell? ⟨g7, 7, none⟩ = some (.slice p1 N k1) ∧ W.cell? ⟨g7, 8, none⟩ = some (.int .i64 0)) ∧ (W.cell? ⟨g11, 0, none⟩ = some (.string (strOf f2)) ∧ W.cell? ⟨g11, 1, none⟩ = some (.string (strOf o2)) ∧ W.cell? ⟨g11, 2, none⟩ = some (.int .i64 n2) ∧ W.cell? ⟨g11, 3, none⟩ = some (.string (strOf r2)) ∧ W.cell? ⟨g11, 4, none⟩ = some (.bool op2) ∧ W.cell? ⟨g11, 5, none⟩ = some (.bool true) ∧ W.cell? ⟨g11, 6, none⟩ = some (.bool false) ∧ W.cell? ⟨g11, 7, none⟩ = some (.slice p3 N2 k3) ∧ W.cell? ⟨g11, 8, none⟩ = some (.int .i64 0)) ∧ (W.cell? ⟨g12, 0, none⟩ = some (.string (strOf f3)) ∧ W.cell? ⟨g12, 1, none⟩ = some (.string (strOf o3)) ∧ W.cell? ⟨g12, 2, none⟩ = some (.int .i64 n3) ∧ W.cell? ⟨g12, 3, none⟩ = some (.string (strOf r3)) ∧ W.cell? ⟨g12, 4, none⟩ = some (.bool op3) ∧ W.cell? ⟨g12, 5, none⟩ = some (.bool cl3) ∧ W.cell? ⟨g12, 6, none⟩ = some (.bool de3) ∧ W.cell? ⟨g12, 7, none⟩ = some (.slice p4 N3 k4) ∧ W.cell? ⟨g12, 8, none⟩ = some (.int .i64 c3))) ∧ K19 w g5 g7 g8 B7 B8 f o n R op cl de f1 o1 n1 r1 op1 cl1 de1 xs p1 p2 N k1 k2 0 g11 B11 f2 o2 n2 r2 op2 true false xs2 p3 N2 k3 g12 B12 f3 o3 n3 r3 op3 cl3 de3 xs3 p4 N3 k4 c3 W) (by kernel_rfl) (s19_drew HK19.out) (fun hHeld => ?_)
          generalize W19.drew = Wd at hHeld ⊢
          refine takeQ (i := 1) (k := 149) (v := .pointer (some ⟨g11, 7, none⟩)) rfl (by rfl) (by kernel_rfl) (by kernel_rfl) (by kernel_rfl) (fun _ _ _ h => h) (by rfl) ?_ hHeld ?_
          · intro w1 hSw; obtain ⟨⟨⟨p0, p1, p2, p3, p4, p5, p6, p7, p8⟩, ⟨q0, q1, q2, q3, q4, q5, q6, q7, q8⟩, ⟨m0, m1, m2, m3, m4, m5, m6, m7, m8⟩⟩, _⟩ := hSw; go_simp
          (try simp only [Act.put, List.setIfInBounds_toArray, List.set_cons_zero, List.set_cons_succ])
          refine takeQ (i := 2) (k := 150) (v := .slice p3 N2 k3) rfl (by rfl) (by kernel_rfl) (by kernel_rfl) (by kernel_rfl) (fun _ _ _ h => h) (by rfl) ?_ hHeld ?_
          · intro w1 hSw; obtain ⟨⟨⟨p0, p1, p2, p3, p4, p5, p6, p7, p8⟩, ⟨q0, q1, q2, q3, q4, q5, q6, q7, q8⟩, ⟨m0, m1, m2, m3, m4, m5, m6, m7, m8⟩⟩, _⟩ := hSw; go_simp
          (try simp only [Act.put, List.setIfInBounds_toArray, List.set_cons_zero, List.set_cons_succ])
          refine takeQ (i := 4) (k := 152) (v := .pointer (some ⟨g12, 7, none⟩)) rfl (by rfl) (by kernel_rfl) (by kernel_rfl) (by kernel_rfl) (fun _ _ _ h => h) (by rfl) ?_ hHeld ?_
          · intro w1 hSw; obtain ⟨⟨⟨p0, p1, p2, p3, p4, p5, p6, p7, p8⟩, ⟨q0, q1, q2, q3, q4, q5, q6, q7, q8⟩, ⟨m0, m1, m2, m3, m4, m5, m6, m7, m8⟩⟩, _⟩ := hSw; go_simp
          (try simp only [Act.put, List.setIfInBounds_toArray, List.set_cons_zero, List.set_cons_succ])
          refine takeQ (i := 5) (k := 153) (v := .slice p4 N3 k4) rfl (by rfl) (by kernel_rfl) (by kernel_rfl) (by kernel_rfl) (fun _ _ _ h => h) (by rfl) ?_ hHeld ?_
          · intro w1 hSw; obtain ⟨⟨⟨p0, p1, p2, p3, p4, p5, p6, p7, p8⟩, ⟨q0, q1, q2, q3, q4, q5, q6, q7, q8⟩, ⟨m0, m1, m2, m3, m4, m5, m6, m7, m8⟩⟩, _⟩ := hSw; go_simp
          (try simp only [Act.put, List.setIfInBounds_toArray, List.set_cons_zero, List.set_cons_succ])
          refine takeQ (i := 7) (k := 155) (v := .pointer (some ⟨g7, 7, none⟩)) rfl (by rfl) (by kernel_rfl) (by kernel_rfl) (by kernel_rfl) (fun _ _ _ h => h) (by rfl) ?_ hHeld ?_
          · intro w1 hSw; obtain ⟨⟨⟨p0, p1, p2, p3, p4, p5, p6, p7, p8⟩, ⟨q0, q1, q2, q3, q4, q5, q6, q7, q8⟩, ⟨m0, m1, m2, m3, m4, m5, m6, m7, m8⟩⟩, _⟩ := hSw; go_simp
          (try simp only [Act.put, List.setIfInBounds_toArray, List.set_cons_zero, List.set_cons_succ])
          refine takeQ (i := 8) (k := 156) (v := .slice p1 N k1) rfl (by rfl) (by kernel_rfl) (by kernel_rfl) (by kernel_rfl) (fun _ _ _ h => h) (by rfl) ?_ hHeld ?_
          · intro w1 hSw; obtain ⟨⟨⟨p0, p1, p2, p3, p4, p5, p6, p7, p8⟩, ⟨q0, q1, q2, q3, q4, q5, q6, q7, q8⟩, ⟨m0, m1, m2, m3, m4, m5, m6, m7, m8⟩⟩, _⟩ := hSw; go_simp
          (try simp only [Act.put, List.setIfInBounds_toArray, List.set_cons_zero, List.set_cons_succ])
          refine wpAnyH_ready (rs := [0]) (by kernel_rfl) (by simp) ?_
          refine AllReadyH.cons rfl (fun K hK => ?_) AllReadyH.nil
          rw [if_pos (by rfl)]
          go_simp
          have hb1 : Below Wd.heap.size Wd (Wd.alloc (.cells #[] 70)) := (Below.refl _ _).alloc (Nat.le_refl _) _
          refine hK.out _ _ (s19_on hHeld hb1) (fun hHeld1 => ?_)
          clear hK K
          (try simp only [Act.put, List.setIfInBounds_toArray, List.set_cons_zero, List.set_cons_succ])
          refine wpAnyH_ready (rs := [3]) (by kernel_rfl) (by simp) ?_
          refine AllReadyH.cons rfl (fun K hK => ?_) AllReadyH.nil
          rw [if_pos (by rfl)]
          refine wp_app_row _ _ rfl Wd.heap.size _ [] rfl (empty_row Wd) _ p3 N2 k3 xs2 rfl hHeld1.2.1.2.2 (by simp; omega) (by simp) ?_
          intro v1 w1x ho1 hg1
          have hb2 := hb1.trans (grown_below hg1 (by simp) (fun k hk => OwnC.base (empty_row Wd) k hk))
          refine hK.out _ _ (s19_on hHeld hb2) (fun hHeld2 => ?_)
          clear hK K
          (try simp only [Act.put, List.setIfInBounds_toArray, List.set_cons_zero, List.set_cons_succ])
          refine wpAnyH_ready (rs := [6]) (by kernel_rfl) (by simp) ?_
          refine AllReadyH.cons rfl (fun K hK => ?_) AllReadyH.nil
          rw [if_pos (by rfl)]
          refine wp_app_row _ _ rfl Wd.heap.size _ _ rfl ho1 _ p4 N3 k4 xs3 rfl hHeld2.2.2.2 (by simp; omega) hb2.size ?_
          intro v2 w2x ho2 hg2
          have hb3 := hb2.trans (grown_below hg2 hb2.size (fun k hk => OwnC.base ho1 k hk))
          rw [List.nil_append, hq] at ho2
          obtain ⟨p5, k5, rfl, _⟩ := ho2.row stC_len
          rw [HN.out] at ho2 ⊢
          refine hK.out _ _ (s19_on hHeld hb3) (fun hHeld3 => ?_)
          clear hK K
          (try simp only [Act.put, List.setIfInBounds_toArray, List.set_cons_zero, List.set_cons_succ])
          refine wpAnyH_ready (rs := [9]) (by kernel_rfl) (by simp) ?_
          refine AllReadyH.cons rfl (fun K hK => ?_) AllReadyH.nil
          rw [if_pos (by rfl)]
          go_simp
          go_fit (i5 p5 p1 k5 k1 _ (row_of ho2) (row_of hHeld3.2.1.1.2.1.2))
          rintro e wm ⟨rfl, hbN⟩
          refine hK.out _ _ (s19_on hHeld3 hbN) (fun hHeld => ?_)
          clear hK K
          (try simp only [Act.put, List.setIfInBounds_toArray, List.set_cons_zero, List.set_cons_succ])
          refine takeQ (i := 10) (k := 4) (v := .bool true) rfl (by rfl) (by kernel_rfl) (by kernel_rfl) (by kernel_rfl) (fun _ _ _ h => h) (by rfl) ?_ hHeld ?_
          · intro w1 hSw; obtain ⟨⟨⟨p0, p1, p2, p3, p4, p5, p6, p7, p8⟩, ⟨q0, q1, q2, q3, q4, q5, q6, q7, q8⟩, ⟨m0, m1, m2, m3, m4, m5, m6, m7, m8⟩⟩, _⟩ := hSw; go_simp
          (try simp only [Act.put, List.setIfInBounds_toArray, List.set_cons_zero, List.set_cons_succ])
          refine wpAnyH_done (by kernel_rfl) ?_ _
          go_wp2_with fail
          go_ret
          exact ⟨rfl, hHeld.2.1.1.1.2⟩
        have HK15b : Hid (K14 w g5 g7 g8 B7 B8 f o n R op cl de f1 o1 n1 r1 op1 cl1 de1 xs p1 p2 N k1 k2 0 g11 B11 f2 o2 n2 r2 op2 true false xs2 p3 N2 k3 w15) := Lib.hid HK15.out
        refine wp_region_held_drew (S := fun W => ((W.cell? ⟨g7, 0, none⟩ = some (.string (strOf f1)) ∧ W.cell? ⟨g7, 1, none⟩ = some (.string (strOf o1)) ∧ W.cell? ⟨g7, 2, none⟩ = some (.int .i64 n1) ∧ W.cell? ⟨g7, 3, none⟩ = some (.string (strOf r1)) ∧ W.cell? ⟨g7, 4, none⟩ = some (.bool op1) ∧ W.cell? ⟨g7, 5, none⟩ = some (.bool cl1) ∧ W.cell? ⟨g7, 6, none⟩ = some (.bool de1) ∧ W.cell? ⟨g7, 7, none⟩ = some (.slice p1 N k1) ∧ W.cell? ⟨g7, 8, none⟩ = some (.int .i64 0)) ∧ (W.cell? ⟨g11, 0, none⟩ = some (.string (strOf f2)) ∧ W.cell? ⟨g11, 1, none⟩ = some (.string (strOf o2)) ∧ W.cell? ⟨g11, 2, none⟩ = some (.int .i64 n2) ∧ W.cell? ⟨g11, 3, none⟩ = some (.string (strOf r2)) ∧ W.cell? ⟨g11, 4, none⟩ = some (.bool op2) ∧ W.cell? ⟨g11, 5, none⟩ = some (.bool true) ∧ W.cell? ⟨g11, 6, none⟩ = some (.bool false) ∧ W.cell? ⟨g11, 7, none⟩ = some (.slice p3 N2 k3) ∧ W.cell? ⟨g11, 8, none⟩ = some (.int .i64 0))) ∧ K14 w g5 g7 g8 B7 B8 f o n R op cl de f1 o1 n1 r1 op1 cl1 de1 xs p1 p2 N k1 k2 0 g11 B11 f2 o2 n2 r2 op2 true false xs2 p3 N2 k3 W) (by kernel_rfl) (s14_drew HK15b.out) (fun hHeld => ?_)
        generalize w15.drew = Wd at hHeld ⊢
        refine takeQ (i := 0) (k := 139) (v := .pointer (some ⟨g11, 0, none⟩)) rfl (by rfl) (by kernel_rfl) (by kernel_rfl) (by kernel_rfl) (fun _ _ _ h => h) (by rfl) ?_ hHeld ?_
        · intro w1 hSw; obtain ⟨⟨⟨p0, p1, p2, p3, p4, p5, p6, p7, p8⟩, ⟨q0, q1, q2, q3, q4, q5, q6, q7, q8⟩⟩, _⟩ := hSw; go_simp
        (try simp only [Act.put, List.setIfInBounds_toArray, List.set_cons_zero, List.set_cons_succ])
        refine takeQ (i := 1) (k := 140) (v := .agg #[.string (strOf f2), .string (strOf o2), .int .i64 n2, .string (strOf r2), .bool op2, .bool true, .bool false]) rfl (by rfl) (by kernel_rfl) (by kernel_rfl) (by kernel_rfl) (fun _ _ _ h => h) (by rfl) ?_ hHeld ?_
        · intro w1 hSw; obtain ⟨⟨⟨p0, p1, p2, p3, p4, p5, p6, p7, p8⟩, ⟨q0, q1, q2, q3, q4, q5, q6, q7, q8⟩⟩, _⟩ := hSw; go_simp
        (try simp only [Act.put, List.setIfInBounds_toArray, List.set_cons_zero, List.set_cons_succ])
        refine takeQ (i := 2) (k := 141) (v := .string t) rfl (by rfl) (by kernel_rfl) (by kernel_rfl) (by kernel_rfl) (fun _ _ _ h => h) (by rfl) ?_ hHeld ?_
        · intro w1 hSw; obtain ⟨⟨⟨p0, p1, p2, p3, p4, p5, p6, p7, p8⟩, ⟨q0, q1, q2, q3, q4, q5, q6, q7, q8⟩⟩, _⟩ := hSw; go_simp
        (try simp only [Act.put, List.setIfInBounds_toArray, List.set_cons_zero, List.set_cons_succ])
        refine takeQ (i := 3) (k := 142) (v := .int .i64 (KK : Int)) rfl (by rfl) (by kernel_rfl) (by kernel_rfl) (by kernel_rfl) (fun _ _ _ h => h) (by rfl) ?_ hHeld ?_
        · intro w1 hSw; obtain ⟨⟨⟨p0, p1, p2, p3, p4, p5, p6, p7, p8⟩, ⟨q0, q1, q2, q3, q4, q5, q6, q7, q8⟩⟩, _⟩ := hSw; go_simp
        (try simp only [Act.put, List.setIfInBounds_toArray, List.set_cons_zero, List.set_cons_succ])
        refine takeQ (i := 4) (k := 143) (v := .string (t.extract KK t.size)) rfl (by rfl) (by kernel_rfl) (by kernel_rfl) (by kernel_rfl) (fun _ _ _ h => h) (by rfl) ?_ hHeld ?_
        · intro w1 hSw; obtain ⟨⟨⟨p0, p1, p2, p3, p4, p5, p6, p7, p8⟩, ⟨q0, q1, q2, q3, q4, q5, q6, q7, q8⟩⟩, _⟩ := hSw; go_simp
        (try simp only [Act.put, List.setIfInBounds_toArray, List.set_cons_zero, List.set_cons_succ])
        refine wpAnyH_ready (rs := [5, 6]) (by kernel_rfl) (by simp) ?_
        refine AllReadyH.cons rfl (fun K hK => ?_) (AllReadyH.cons rfl (fun K hK => ?_) AllReadyH.nil)
        · rw [if_pos (by rfl)]
          go_simp
          go_fit ((j2 _).2 (HM.out _ hHeld.2.1.1.2))
          rintro e wm ⟨⟨v3, rfl, hv3⟩, hbN⟩
          obtain ⟨p4, k4, rfl, _⟩ := hv3.row stC_len
          rw [hN3] at hv3 ⊢
          have hbx := box_after (o := ⟨⟨f3, o3, n3, op3, cl3, de3⟩, r3, xs3⟩) (c := c3) (z := #[.string ⟨#[]⟩, .string ⟨#[]⟩, .int .i64 0, .string ⟨#[]⟩, .bool false, .bool false, .bool false, .slice none 0 0, .int .i64 0]) hv3 rfl
          refine hK.out _ _ (s14_on hHeld hbN) (fun hHeld2 => ?_)
          clear hK K
          (try simp only [Act.put, List.setIfInBounds_toArray, List.set_cons_zero, List.set_cons_succ])
          refine wpAnyH_ready (rs := [6]) (by kernel_rfl) (by simp) ?_
          refine AllReadyH.cons rfl (fun K hK => ?_) AllReadyH.nil
          rw [if_pos (by rfl)]
          go_simp
          refine hK.out _ _ (s14_on hHeld2 ((Below.refl _ _).alloc (Nat.le_refl _) _)) (fun hHeld3 => ?_)
          clear hK K
          (try simp only [Act.put, List.setIfInBounds_toArray, List.set_cons_zero, List.set_cons_succ])
          refine wpAnyH_ready (rs := [7]) (by kernel_rfl) (by simp) ?_
          refine AllReadyH.cons rfl (fun K hK => ?_) AllReadyH.nil
          rw [if_pos (by rfl)]
          refine wp_store_row 32 _ _ rfl wm.heap.size _ rfl rfl 32 _ (heap_alloc_new wm _) (by kernel_rfl) (by rfl) (by kernel_rfl) ?_
          refine hK.out _ _ (s14_on hHeld2 hbx.2) (fun hHeld4 => ?_)
          clear hK K
          (try simp only [Act.put, List.setIfInBounds_toArray, List.set_cons_zero, List.set_cons_succ])
          refine wpAnyH_done (by kernel_rfl) ?_ _
          exact ⟨⟨_, _, p4, k4, rfl, hHeld4.2, hbx.1⟩, by simp only [putAll, Act.put, List.setIfInBounds_toArray, List.set_cons_zero, List.set_cons_succ]; rfl⟩
        · rw [if_pos (by rfl)]
          go_simp
          refine hK.out _ _ (s14_on hHeld ((Below.refl _ _).alloc (Nat.le_refl _) _)) (fun hHeld2 => ?_)
          clear hK K
          (try simp only [Act.put, List.setIfInBounds_toArray, List.set_cons_zero, List.set_cons_succ])
          refine wpAnyH_ready (rs := [5]) (by kernel_rfl) (by simp) ?_
          refine AllReadyH.cons rfl (fun K hK => ?_) AllReadyH.nil
          rw [if_pos (by rfl)]
          go_simp
          go_fit ((j2 _).2 (HM.out _ hHeld2.2.1.1.2))
          rintro e wm ⟨⟨v3, rfl, hv3⟩, hbN⟩
          obtain ⟨p4, k4, rfl, _⟩ := hv3.row stC_len
          rw [hN3] at hv3 ⊢
          have hbx := box_before (o := ⟨⟨f3, o3, n3, op3, cl3, de3⟩, r3, xs3⟩) (c := c3) hv3 hbN
          refine hK.out _ _ (s14_on hHeld2 hbN) (fun hHeld3 => ?_)
          clear hK K
          (try simp only [Act.put, List.setIfInBounds_toArray, List.set_cons_zero, List.set_cons_succ])
          refine wpAnyH_ready (rs := [7]) (by kernel_rfl) (by simp) ?_
          refine AllReadyH.cons rfl (fun K hK => ?_) AllReadyH.nil
          rw [if_pos (by rfl)]
          refine wp_store_row 32 _ _ rfl Wd.heap.size _ rfl rfl 32 _ hbx.1 (by kernel_rfl) (by rfl) (by kernel_rfl) ?_
          refine hK.out _ _ (s14_on hHeld hbx.2.2) (fun hHeld4 => ?_)
          clear hK K
          (try simp only [Act.put, List.setIfInBounds_toArray, List.set_cons_zero, List.set_cons_succ])
          refine wpAnyH_done (by kernel_rfl) ?_ _
          exact ⟨⟨_, _, p4, k4, rfl, hHeld4.2, hbx.2.1⟩, by simp only [putAll, Act.put, List.setIfInBounds_toArray, List.set_cons_zero, List.set_cons_succ]; rfl⟩
    refine wp_region_held_drew (S := fun W => ((W.cell? ⟨g5, 0, none⟩ = some (.string (strOf f)) ∧ W.cell? ⟨g5, 1, none⟩ = some (.string (strOf o)) ∧ W.cell? ⟨g5, 2, none⟩ = some (.int .i64 n) ∧ W.cell? ⟨g5, 3, none⟩ = some (.string (strOf R)) ∧ W.cell? ⟨g5, 4, none⟩ = some (.bool op) ∧ W.cell? ⟨g5, 5, none⟩ = some (.bool cl) ∧ W.cell? ⟨g5, 6, none⟩ = some (.bool de)) ∧ (W.cell? ⟨g7, 0, none⟩ = some (.string (strOf f1)) ∧ W.cell? ⟨g7, 1, none⟩ = some (.string (strOf o1)) ∧ W.cell? ⟨g7, 2, none⟩ = some (.int .i64 n1) ∧ W.cell? ⟨g7, 3, none⟩ = some (.string (strOf r1)) ∧ W.cell? ⟨g7, 4, none⟩ = some (.bool op1) ∧ W.cell? ⟨g7, 5, none⟩ = some (.bool cl1) ∧ W.cell? ⟨g7, 6, none⟩ = some (.bool de1) ∧ W.cell? ⟨g7, 7, none⟩ = some (.slice p1 N k1) ∧ W.cell? ⟨g7, 8, none⟩ = some (.int .i64 0)) ∧ (W.cell? ⟨g8, 0, none⟩ = some (.string (strOf f1)) ∧ W.cell? ⟨g8, 1, none⟩ = some (.string (strOf o1)) ∧ W.cell? ⟨g8, 2, none⟩ = some (.int .i64 n1) ∧ W.cell? ⟨g8, 3, none⟩ = some (.string (strOf r1)) ∧ W.cell? ⟨g8, 4, none⟩ = some (.bool op1) ∧ W.cell? ⟨g8, 5, none⟩ = some (.bool cl1) ∧ W.cell? ⟨g8, 6, none⟩ = some (.bool de1) ∧ W.cell? ⟨g8, 7, none⟩ = some (.slice p2 N k2) ∧ W.cell? ⟨g8, 8, none⟩ = some (.int .i64 0))) ∧ K6 w g5 g7 g8 B7 B8 f o n R op cl de f1 o1 n1 r1 op1 cl1 de1 xs p1 p2 N k1 k2 0 W) (by kernel_rfl) (s6_drew HK10.out) (fun hHeld => ?_)
    generalize W10.drew = Wd at hHeld ⊢
    refine takeQ (i := 0) (k := 99) (v := .agg #[.string (strOf f), .string (strOf o), .int .i64 n, .string (strOf R), .bool op, .bool cl, .bool de]) rfl (by rfl) (by kernel_rfl) (by kernel_rfl) (by kernel_rfl) (fun _ _ _ h => h) (by rfl) ?_ hHeld ?_
    · intro w1 hSw; obtain ⟨⟨⟨p0, p1, p2, p3, p4, p5, p6⟩, _⟩, _⟩ := hSw; go_simp
    (try simp only [Act.put, List.setIfInBounds_toArray, List.set_cons_zero, List.set_cons_succ])
    refine takeQ (i := 1) (k := 100) (v := .string t) rfl (by rfl) (by kernel_rfl) (by kernel_rfl) (by kernel_rfl) (fun _ _ _ h => h) (by rfl) ?_ hHeld ?_
    · intro w1 hSw; obtain ⟨⟨⟨p0, p1, p2, p3, p4, p5, p6⟩, _⟩, _⟩ := hSw; go_simp
    (try simp only [Act.put, List.setIfInBounds_toArray, List.set_cons_zero, List.set_cons_succ])
    refine takeQ (i := 2) (k := 101) (v := .int .i64 (KK : Int)) rfl (by rfl) (by kernel_rfl) (by kernel_rfl) (by kernel_rfl) (fun _ _ _ h => h) (by rfl) ?_ hHeld ?_
    · intro w1 hSw; obtain ⟨⟨⟨p0, p1, p2, p3, p4, p5, p6⟩, _⟩, _⟩ := hSw; go_simp
    (try simp only [Act.put, List.setIfInBounds_toArray, List.set_cons_zero, List.set_cons_succ])
    refine takeQ (i := 3) (k := 102) (v := .string (t.extract 0 KK)) rfl (by rfl) (by kernel_rfl) (by kernel_rfl) (by kernel_rfl) (fun _ _ _ h => h) (by rfl) ?_ hHeld ?_
    · intro w1 hSw; obtain ⟨⟨⟨p0, p1, p2, p3, p4, p5, p6⟩, _⟩, _⟩ := hSw; go_simp
    (try simp only [Act.put, List.setIfInBounds_toArray, List.set_cons_zero, List.set_cons_succ])
    refine wpAnyH_ready (rs := [4, 5]) (by kernel_rfl) (by simp) ?_
    refine AllReadyH.cons rfl (fun K hK => ?_) (AllReadyH.cons rfl (fun K hK => ?_) AllReadyH.nil)
    · rw [if_pos (by rfl)]
      go_simp
      go_fit ((j1 _).2 (HM.out _ hHeld.2.1.2))
      rintro e wm ⟨⟨v3, rfl, hv3⟩, hbN⟩
      obtain ⟨p3, k3, rfl, _⟩ := hv3.row stC_len
      rw [hN2] at hv3 ⊢
      have hbx := box_after (o := ⟨⟨f2, o2, n2, op2, cl2, de2⟩, r2, xs2⟩) (c := 0) (z := #[.string ⟨#[]⟩, .string ⟨#[]⟩, .int .i64 0, .string ⟨#[]⟩, .bool false, .bool false, .bool false, .slice none 0 0, .int .i64 0]) hv3 rfl
      refine hK.out _ _ (s6_on hHeld hbN) (fun hHeld2 => ?_)
      clear hK K
      (try simp only [Act.put, List.setIfInBounds_toArray, List.set_cons_zero, List.set_cons_succ])
      refine wpAnyH_ready (rs := [5]) (by kernel_rfl) (by simp) ?_
      refine AllReadyH.cons rfl (fun K hK => ?_) AllReadyH.nil
      rw [if_pos (by rfl)]
      go_simp
      refine hK.out _ _ (s6_on hHeld2 ((Below.refl _ _).alloc (Nat.le_refl _) _)) (fun hHeld3 => ?_)
      clear hK K
      (try simp only [Act.put, List.setIfInBounds_toArray, List.set_cons_zero, List.set_cons_succ])
      refine wpAnyH_ready (rs := [6]) (by kernel_rfl) (by simp) ?_
      refine AllReadyH.cons rfl (fun K hK => ?_) AllReadyH.nil
      rw [if_pos (by rfl)]
      refine wp_store_row 32 _ _ rfl wm.heap.size _ rfl rfl 32 _ (heap_alloc_new wm _) (by kernel_rfl) (by rfl) (by kernel_rfl) ?_
      refine hK.out _ _ (s6_on hHeld2 hbx.2) (fun hHeld4 => ?_)
      clear hK K
      (try simp only [Act.put, List.setIfInBounds_toArray, List.set_cons_zero, List.set_cons_succ])
      refine wpAnyH_done (by kernel_rfl) ?_ _
      exact ⟨⟨_, _, p3, k3, rfl, hHeld4.2, hbx.1⟩, by simp only [putAll, Act.put, List.setIfInBounds_toArray, List.set_cons_zero, List.set_cons_succ]; rfl⟩
    · rw [if_pos (by rfl)]
      go_simp
      refine hK.out _ _ (s6_on hHeld ((Below.refl _ _).alloc (Nat.le_refl _) _)) (fun hHeld2 => ?_)
      clear hK K
      (try simp only [Act.put, List.setIfInBounds_toArray, List.set_cons_zero, List.set_cons_succ])
      refine wpAnyH_ready (rs := [4]) (by kernel_rfl) (by simp) ?_
      refine AllReadyH.cons rfl (fun K hK => ?_) AllReadyH.nil
      rw [if_pos (by rfl)]
      go_simp
      go_fit ((j1 _).2 (HM.out _ hHeld2.2.1.2))
      rintro e wm ⟨⟨v3, rfl, hv3⟩, hbN⟩
      obtain ⟨p3, k3, rfl, _⟩ := hv3.row stC_len
      rw [hN2] at hv3 ⊢
      have hbx := box_before (o := ⟨⟨f2, o2, n2, op2, cl2, de2⟩, r2, xs2⟩) (c := 0) hv3 hbN
      refine hK.out _ _ (s6_on hHeld2 hbN) (fun hHeld3 => ?_)
      clear hK K
      (try simp only [Act.put, List.setIfInBounds_toArray, List.set_cons_zero, List.set_cons_succ])
      refine wpAnyH_ready (rs := [6]) (by kernel_rfl) (by simp) ?_
      refine AllReadyH.cons rfl (fun K hK => ?_) AllReadyH.nil
      rw [if_pos (by rfl)]
      refine wp_store_row 32 _ _ rfl Wd.heap.size _ rfl rfl 32 _ hbx.1 (by kernel_rfl) (by rfl) (by kernel_rfl) ?_
      refine hK.out _ _ (s6_on hHeld hbx.2.2) (fun hHeld4 => ?_)
      clear hK K
      (try simp only [Act.put, List.setIfInBounds_toArray, List.set_cons_zero, List.set_cons_succ])
      refine wpAnyH_done (by kernel_rfl) ?_ _
      exact ⟨⟨_, _, p3, k3, rfl, hHeld4.2, hbx.2.1⟩, by simp only [putAll, Act.put, List.setIfInBounds_toArray, List.set_cons_zero, List.set_cons_succ]; rfl⟩
  by_cases hhb : hdB (strOf fh) (strOf oh) nh = true
  · have i10 := fun W hm => head_fed hhb W hm
    have hzz : 0 < (hdT (strOf fh) (strOf oh) nh).size := by
      unfold hdT
      rw [if_pos hhb, strOf_size]
      unfold hdL
      simp
    have hZl := hdT_le (strOf fh) (strOf oh) nh
    have e1 := ne_nil hzz
    have e2 := not_empty hzz
    have hfd := head_field fh oh nh
    have hcat : ¬ (9223372036854775807 < (hdT (strOf fh) (strOf oh) nh).size + 1) := by omega
    obtain ⟨Z, hZ⟩ : ∃ Z, hdT (strOf fh) (strOf oh) nh = Z := ⟨_, rfl⟩
    rw [hZ] at i8 i9 i10 hzz e1 e2 hZl hcat
    clear hZ hhb
    go_region_held3 (fun W => (W.cell? ⟨g9, 0, none⟩ = some (.string (strOf fh)) ∧ W.cell? ⟨g9, 1, none⟩ = some (.string (strOf oh)) ∧ W.cell? ⟨g9, 2, none⟩ = some (.int .i64 nh)) ∧ K9 w g5 g7 g8 B7 B8 f o n R op cl de f1 o1 n1 r1 op1 cl1 de1 xs p1 p2 N k1 k2 cc g9 fh oh nh W)
      (with_reducible first | assumption | exact s9_drew HK9.out | exact s9_on (by assumption) hbN)
      (first
        | (go_at_call 19; go_fit (i9 _); rintro e wn ⟨rfl, hbN⟩)
        | (go_at_call 18; go_fit (i8 _ (HM.out _ (by assumption : S9 w g5 g7 g8 B7 B8 f o n R op cl de f1 o1 n1 r1 op1 cl1 de1 xs p1 p2 N k1 k2 cc g9 fh oh nh _).2.1.1.2)); rintro e wn ⟨rfl, hbN⟩)
        | (go_at_call 9; go_fit (i10 _ (HM.out _ (by assumption : S9 w g5 g7 g8 B7 B8 f o n R op cl de f1 o1 n1 r1 op1 cl1 de1 xs p1 p2 N k1 k2 cc g9 fh oh nh _).2.1.1.2)); rintro e wn ⟨⟨p10, k10, rfl⟩, hbN⟩; have HF := Lib.hid (s9_on (by assumption) hbN)))
    exact ⟨⟨HF.out.2, rfl⟩, by simp only [putAll, List.range', Act.put, List.setIfInBounds_toArray, List.set_cons_zero, List.set_cons_succ]; rfl⟩
  · have hzz : (hdT (strOf fh) (strOf oh) nh).size = 0 := by
      unfold hdT
      rw [if_neg hhb]
      rfl
    obtain ⟨e1, e2⟩ := empty_of hzz
    obtain ⟨Z, hZ⟩ : ∃ Z, hdT (strOf fh) (strOf oh) nh = Z := ⟨_, rfl⟩
    rw [hZ] at i8 i9 hzz e1 e2
    clear hZ hhb
    refine wp_region_held_drew (S := fun W => (W.cell? ⟨g9, 0, none⟩ = some (.string (strOf fh)) ∧ W.cell? ⟨g9, 1, none⟩ = some (.string (strOf oh)) ∧ W.cell? ⟨g9, 2, none⟩ = some (.int .i64 nh)) ∧ K9 w g5 g7 g8 B7 B8 f o n R op cl de f1 o1 n1 r1 op1 cl1 de1 xs p1 p2 N k1 k2 cc g9 fh oh nh W) (by kernel_rfl) (s9_drew HK9.out) (fun hHeld => ?_)
    generalize W9.drew = Wd at hHeld ⊢
    refine takeQ (i := 0) (k := 61) (v := .agg #[.string (strOf fh), .string (strOf oh), .int .i64 nh]) rfl (by rfl) (by kernel_rfl) (by kernel_rfl) (by kernel_rfl) (fun _ _ _ h => h) (by rfl) ?_ hHeld ?_
    · intro w1 hSw; obtain ⟨⟨p0, p1, p2⟩, _⟩ := hSw; go_simp
    (try simp only [Act.put, List.setIfInBounds_toArray, List.set_cons_zero, List.set_cons_succ])
    refine takeQ (i := 2) (k := 63) (v := .agg #[.string (strOf fh), .string (strOf oh), .int .i64 nh]) rfl (by rfl) (by kernel_rfl) (by kernel_rfl) (by kernel_rfl) (fun _ _ _ h => h) (by rfl) ?_ hHeld ?_
    · intro w1 hSw; obtain ⟨⟨p0, p1, p2⟩, _⟩ := hSw; go_simp
    (try simp only [Act.put, List.setIfInBounds_toArray, List.set_cons_zero, List.set_cons_succ])
    refine wpAnyH_ready (rs := [1]) (by kernel_rfl) (by simp) ?_
    refine AllReadyH.cons rfl (fun K hK => ?_) AllReadyH.nil
    rw [if_pos (by rfl)]
    go_simp
    go_fit (i8 _ (HM.out _ hHeld.2.1.1.2))
    rintro e wm ⟨rfl, hbN⟩
    refine hK.out _ _ (s9_on hHeld hbN) (fun hHeld => ?_)
    clear hK K
    (try simp only [Act.put, List.setIfInBounds_toArray, List.set_cons_zero, List.set_cons_succ])
    refine wpAnyH_ready (rs := [3]) (by kernel_rfl) (by simp) ?_
    refine AllReadyH.cons rfl (fun K hK => ?_) AllReadyH.nil
    rw [if_pos (by rfl)]
    go_simp
    go_fit (i9 _)
    rintro e wm ⟨rfl, hbN⟩
    refine hK.out _ _ (s9_on hHeld hbN) (fun hHeld => ?_)
    clear hK K
    (try simp only [Act.put, List.setIfInBounds_toArray, List.set_cons_zero, List.set_cons_succ])
    refine takeQ (i := 4) (k := 65) (v := .bool false) rfl (by rfl) (by kernel_rfl) (by kernel_rfl) (by kernel_rfl) (fun _ _ _ h => h) (by rfl) ?_ hHeld ?_
    · intro w1 hSw; obtain ⟨⟨p0, p1, p2⟩, _⟩ := hSw; go_simp
    (try simp only [Act.put, List.setIfInBounds_toArray, List.set_cons_zero, List.set_cons_succ])
    refine takeQ (i := 5) (k := 66) (v := .bool false) rfl (by rfl) (by kernel_rfl) (by kernel_rfl) (by kernel_rfl) (fun _ _ _ h => h) (by rfl) ?_ hHeld ?_
    · intro w1 hSw; obtain ⟨⟨p0, p1, p2⟩, _⟩ := hSw; go_simp
    (try simp only [Act.put, List.setIfInBounds_toArray, List.set_cons_zero, List.set_cons_succ])
    refine takeQ (i := 6) (k := 67) (v := .agg #[.string (strOf fh), .string (strOf oh), .int .i64 nh]) rfl (by rfl) (by kernel_rfl) (by kernel_rfl) (by kernel_rfl) (fun _ _ _ h => h) (by rfl) ?_ hHeld ?_
    · intro w1 hSw; obtain ⟨⟨p0, p1, p2⟩, _⟩ := hSw; go_simp
    (try simp only [Act.put, List.setIfInBounds_toArray, List.set_cons_zero, List.set_cons_succ])
    refine wpAnyH_ready (rs := [7]) (by kernel_rfl) (by simp) ?_
    refine AllReadyH.cons rfl (fun K hK => ?_) AllReadyH.nil
    rw [if_pos (by rfl)]
    go_simp
    go_fit (i8 _ (HM.out _ hHeld.2.1.1.2))
    rintro e wm ⟨rfl, hbN⟩
    refine hK.out _ _ (s9_on hHeld hbN) (fun hHeld => ?_)
    clear hK K
    (try simp only [Act.put, List.setIfInBounds_toArray, List.set_cons_zero, List.set_cons_succ])
    refine takeQ (i := 8) (k := 69) (v := .bool false) rfl (by rfl) (by kernel_rfl) (by kernel_rfl) (by kernel_rfl) (fun _ _ _ h => h) (by rfl) ?_ hHeld ?_
    · intro w1 hSw; obtain ⟨⟨p0, p1, p2⟩, _⟩ := hSw; go_simp
    (try simp only [Act.put, List.setIfInBounds_toArray, List.set_cons_zero, List.set_cons_succ])
    refine takeQ (i := 9) (k := 70) (v := .bool false) rfl (by rfl) (by kernel_rfl) (by kernel_rfl) (by kernel_rfl) (fun _ _ _ h => h) (by rfl) ?_ hHeld ?_
    · intro w1 hSw; obtain ⟨⟨p0, p1, p2⟩, _⟩ := hSw; go_simp
    (try simp only [Act.put, List.setIfInBounds_toArray, List.set_cons_zero, List.set_cons_succ])
    refine skipQ (i := 10) (k := 71) rfl (by rfl) (by kernel_rfl) (by kernel_rfl) (by kernel_rfl) (fun _ _ _ h => h) (by rfl) hHeld ?_
    (try simp only [Act.put, List.setIfInBounds_toArray, List.set_cons_zero, List.set_cons_succ])
    refine skipQ (i := 11) (k := 72) rfl (by rfl) (by kernel_rfl) (by kernel_rfl) (by kernel_rfl) (fun _ _ _ h => h) (by rfl) hHeld ?_
    (try simp only [Act.put, List.setIfInBounds_toArray, List.set_cons_zero, List.set_cons_succ])
    refine skipQ (i := 12) (k := 73) rfl (by rfl) (by kernel_rfl) (by kernel_rfl) (by kernel_rfl) (fun _ _ _ h => h) (by rfl) hHeld ?_
    (try simp only [Act.put, List.setIfInBounds_toArray, List.set_cons_zero, List.set_cons_succ])
    refine skipQ (i := 13) (k := 74) rfl (by rfl) (by kernel_rfl) (by kernel_rfl) (by kernel_rfl) (fun _ _ _ h => h) (by rfl) hHeld ?_
    (try simp only [Act.put, List.setIfInBounds_toArray, List.set_cons_zero, List.set_cons_succ])
    refine skipQ (i := 14) (k := 75) rfl (by rfl) (by kernel_rfl) (by kernel_rfl) (by kernel_rfl) (fun _ _ _ h => h) (by rfl) hHeld ?_
    (try simp only [Act.put, List.setIfInBounds_toArray, List.set_cons_zero, List.set_cons_succ])
    refine skipQ (i := 15) (k := 76) rfl (by rfl) (by kernel_rfl) (by kernel_rfl) (by kernel_rfl) (fun _ _ _ h => h) (by rfl) hHeld ?_
    (try simp only [Act.put, List.setIfInBounds_toArray, List.set_cons_zero, List.set_cons_succ])
    refine skipQ (i := 16) (k := 77) rfl (by rfl) (by kernel_rfl) (by kernel_rfl) (by kernel_rfl) (fun _ _ _ h => h) (by rfl) hHeld ?_
    (try simp only [Act.put, List.setIfInBounds_toArray, List.set_cons_zero, List.set_cons_succ])
    refine skipQ (i := 17) (k := 78) rfl (by rfl) (by kernel_rfl) (by kernel_rfl) (by kernel_rfl) (fun _ _ _ h => h) (by rfl) hHeld ?_
    (try simp only [Act.put, List.setIfInBounds_toArray, List.set_cons_zero, List.set_cons_succ])
    refine skipQ (i := 18) (k := 79) rfl (by rfl) (by kernel_rfl) (by kernel_rfl) (by kernel_rfl) (fun _ _ _ h => h) (by rfl) hHeld ?_
    (try simp only [Act.put, List.setIfInBounds_toArray, List.set_cons_zero, List.set_cons_succ])
    refine takeQ (i := 19) (k := 80) (v := .bool false) rfl (by rfl) (by kernel_rfl) (by kernel_rfl) (by kernel_rfl) (fun _ _ _ h => h) (by rfl) ?_ hHeld ?_
    · intro w1 hSw; obtain ⟨⟨p0, p1, p2⟩, _⟩ := hSw; go_simp
    (try simp only [Act.put, List.setIfInBounds_toArray, List.set_cons_zero, List.set_cons_succ])
    refine takeQ (i := 20) (k := 81) (v := .bool false) rfl (by rfl) (by kernel_rfl) (by kernel_rfl) (by kernel_rfl) (fun _ _ _ h => h) (by rfl) ?_ hHeld ?_
    · intro w1 hSw; obtain ⟨⟨p0, p1, p2⟩, _⟩ := hSw; go_simp
    (try simp only [Act.put, List.setIfInBounds_toArray, List.set_cons_zero, List.set_cons_succ])
    refine wpAnyH_done (by kernel_rfl) ?_ _
    exact ⟨⟨hHeld.2, rfl⟩, by simp only [putAll, List.range', Act.put, List.setIfInBounds_toArray, List.set_cons_zero, List.set_cons_succ]; rfl⟩
end Go.Proofs.YtgcfognljkebjaaGreatDoor
namespace Go.Proofs.YtgcfognljkebjaaGreatDoor.fnStream
open Go.ChangeShapes Go.WideShapes Go.ChangeAt Go.RowKit Go.Joins
open Go.ChangeMaps (open_string shut_string)
set_option linter.unusedVariables false
set_option linter.unusedSimpArgs false

theorem own : ownKnob Tryz.prog.godebug = none := by kernel_rfl
theorem laidOut : laidOutB Tryz.prog = true := by kernel_rfl

theorem walk (w : World) (a0 : Option Addr) (len0 cap0 : Nat) (w0 : SrcRow w w.heap.size a0 len0) (a1 : Option Addr) (len1 cap1 : Nat) (w1 : SrcRow w w.heap.size a1 len1) (hm : MaxL w) (hp : TabP w) (hE : ErrV w) :
    Calls Tryz.prog 5 #[.slice a0 len0 cap0, .slice a1 len1 cap1] w fun e w' => e = .returned (.bool true) ∧ Below w.heap.size w w' := by
  exact fnstream_law w a0 len0 cap0 w0 a1 len1 cap1 w1 hm hp hE

theorem laid_eq : Rows.fnStreamRow.laid = sevLaid := by kernel_rfl
set_option maxRecDepth 100000 in
theorem contract (H : Type) (enc : TypeId × Value → H) (W : World) (base : Nat) (args : Array Value) (ds gs : List (DataW H)) (before : List MemPlace)
    (hval : ∀ (j : Nat) t v, Tryz.f5.params[j]? = some t → args[j]? = some v → Value.okWide Tryz.prog W .any base t v)
    (hW : DataW.Whole enc Tryz.prog Tryz.f5.params.toList Rows.fnStreamSpec.vars false W args.toList ds gs before) (hL : laidMetH Tryz.prog Rows.fnStreamRow.laid W) (hsh : W.ShapedOpen Tryz.prog) :
    Calls Tryz.prog 5 args W fun e W' => ∃ v, e = .returned v ∧ Rows.fnStreamSpec.post enc Tryz.prog Tryz.f5 false true false false W args v W' := by
  have hML : MaxL W := Tryz.laysM144.s1_3 W hsh
  have hW' := hW
  have hL' : laidMetH Tryz.prog sevLaid W := laid_eq ▸ hL
  obtain ⟨p, q, hA0, hV, rfl, hfz, hnd⟩ := hW
  have hA : DataW.TrodAll enc Tryz.prog W 0 (fun _ => true) true Tryz.f5.params.toList args.toList ds p := hA0
  rw [Tryz.params5] at hA hval
  obtain ⟨v0, vs0, d0_, ds0, p0, q0, hargs, rfl, rfl, h0, s0⟩ := trodAll_cons hA
  obtain ⟨v1, vs1, d1_, ds1, p1, q1, rfl, rfl, rfl, h1, s1⟩ := trodAll_cons s0
  obtain ⟨rfl, rfl, rfl⟩ := trodAll_nil s1
  obtain rfl : args = #[v0, v1] := by cases args; simp_all
  obtain ⟨rfl, rfl⟩ := trodVars_none hV
  obtain ⟨a0, len0, cap0, rfl⟩ := okWide_slice Tryz.underlying38 (hval 0 38 v0 rfl rfl)
  have k0 := h0
  have lt0 : ∀ x ∈ p0, x.block < W.heap.size := by obtain ⟨m, hm⟩ := k0; exact DataW.trod_lt m _ _ _ hm
  have w0 : SrcRow W W.heap.size a0 len0 := by
    obtain ⟨fuel, hf⟩ := h0
    rcases open_ints Tryz.underlying38 Tryz.underlying5 (by kernel_rfl) hf with ⟨hcs, _⟩ | ⟨x, l, c, zs, hcs, _, hl, hm, hz, _, hcell, hwz⟩
    · simp [Value.cells] at hcs
      obtain ⟨rfl, rfl, rfl⟩ := hcs
      exact srcRow_nil
    · simp [Value.cells] at hcs
      obtain ⟨rfl, rfl, rfl⟩ := hcs
      exact srcRow_of (by simp at hz; omega) hcell hwz
  obtain ⟨a1, len1, cap1, rfl⟩ := okWide_slice Tryz.underlying38 (hval 1 38 v1 rfl rfl)
  have k1 := h1
  have lt1 : ∀ x ∈ p1, x.block < W.heap.size := by obtain ⟨m, hm⟩ := k1; exact DataW.trod_lt m _ _ _ hm
  have w1 : SrcRow W W.heap.size a1 len1 := by
    obtain ⟨fuel, hf⟩ := h1
    rcases open_ints Tryz.underlying38 Tryz.underlying5 (by kernel_rfl) hf with ⟨hcs, _⟩ | ⟨x, l, c, zs, hcs, _, hl, hm, hz, _, hcell, hwz⟩
    · simp [Value.cells] at hcs
      obtain ⟨rfl, rfl, rfl⟩ := hcs
      exact srcRow_nil
    · simp [Value.cells] at hcs
      obtain ⟨rfl, rfl, rfl⟩ := hcs
      exact srcRow_of (by simp at hz; omega) hcell hwz
  clear hA0
  refine (walk W a0 len0 cap0 w0 a1 len1 cap1 w1 hML (tabP_of hL') (errV_of hL')).mono fun e W' ⟨he, hb⟩ => ?_
  subst he
  exact ⟨_, rfl, _, _, _, [], _, [], hW', trodAll_mk1 (shut_bool Tryz.underlying4 _), (trodAll_cons_mk (Below.trod laidOut (by kernel_rfl) (of_decide_eq_true (by kernel_rfl)) k0 hb lt0) (trodAll_cons_mk (Below.trod laidOut (by kernel_rfl) (of_decide_eq_true (by kernel_rfl)) k1 hb lt1) trodAll_mk0)), rfl, hb.frame _, fun h => by cases h⟩

theorem reads (os : Os) {H : Type} (enc : TypeId × Value → H) : ∃ places, DataW.whole enc Tryz.prog ((sevWorld os).forCall (fun _ _ => 0) ⟨#[], #[.slice none 0 0, .slice none 0 0], []⟩).memory Tryz.f5.params.toList Rows.fnStreamSpec.vars false #[(.slice none 0 0 : Value), (.slice none 0 0 : Value)].toList 8 = some ([.nil, .nil], [], places) :=
  ⟨[], by kernel_rfl⟩

set_option maxRecDepth 100000 in
theorem lifted (os : Os) (started : os.Started) (H : Type) (enc : TypeId × Value → H) (F : Stop.Interp) :
    ReturnsInHanded {} Tryz.checked os 5 .any ((OpenSpec.ofChange Rows.fnStreamSpec).preRow enc Tryz.prog Tryz.f5 Rows.fnStreamRow.domain false Rows.fnStreamRow.laid) (((OpenSpec.ofChange Rows.fnStreamSpec).at F).post enc Tryz.prog Tryz.f5 false true false false) := by
  obtain ⟨places, hx⟩ := reads os enc
  refine returnsInHanded_of_row (C := Tryz.checked) (s := OpenSpec.ofChange Rows.fnStreamSpec) own started (by kernel_rfl) Tryz.func5
    (witness_row_at (enc := enc) (C := Tryz.checked) false (sevWorld os) #[.slice none 0 0, .slice none 0 0] rfl (by kernel_rfl) (by kernel_rfl) (by kernel_rfl)
      (OpenSpec.preRow_of_cond 8 hx (by kernel_rfl) (fun k hk => by cases hk) (by kernel_rfl) (sev_met os _))) ?_
  intro W base args ds gs before hval hW _ _ _ hL hsh _
  exact contract H enc W base args ds gs before hval hW hL hsh

theorem said : Rows.FnStreamSaid :=
  OpenClaim.holds_of_cond 5 Tryz.f5 rfl rfl rfl rfl rfl rfl rfl ⟨rfl, rfl, rfl, rfl, rfl⟩ rfl rfl rfl rfl rfl (by kernel_rfl) Tryz.func5 (by kernel_rfl)
    (of_decide_eq_true (by kernel_rfl)) (by unfold Func.isWrapper; first | (rw [if_pos (by decide +kernel)]; kernel_rfl) | (rw [if_neg (by decide +kernel)]; exact ⟨rfl, rfl⟩))
    (fun os started H enc _ F => by rw [OpenClaim.pre_eq_preRow]; exact lifted os started H enc F)

theorem plain (f : FuncId) (fn : Func) (hf : Tryz.pinned.checked.prog.funcNamed "loop.example/g00387/laws.FnStream" = some f) (hfn : Tryz.pinned.checked.prog.funcs[f]? = some fn) :
    true = Tryz.pinned.checked.prog.looks [] ∧ ∀ (j : Nat) t, fn.params[j]? = some t → Tryz.pinned.checked.prog.wantsStandIn t = false := by
  obtain rfl : f = 5 := Option.some.inj ((show Tryz.prog.funcNamed "loop.example/g00387/laws.FnStream" = some 5 by kernel_rfl).symm.trans hf) |>.symm
  obtain rfl : fn = Tryz.f5 := (Option.some.inj (Tryz.func5.symm.trans hfn)).symm
  refine ⟨by kernel_rfl, fun j t ht => ?_⟩
  rw [Tryz.params5] at ht
  have hm : t ∈ #[38, 38] := Array.mem_of_getElem? ht
  have hm' : t = 38 := by simpa using hm
  subst hm'
  exact (show Tryz.prog.wantsStandIn 38 = false by kernel_rfl)

theorem proved : Rows.FnStreamCardSaid :=
  Claim7.holds_tied_plain_at .later [] _ _ _ _ said (fun _ h => by cases h) (by kernel_rfl) (fun _ h => by cases h) fnStream_row_tie rfl ⟨rfl, rfl⟩ (by kernel_rfl) rfl plain (by kernel_rfl)
end Go.Proofs.YtgcfognljkebjaaGreatDoor.fnStream
