/- What is drawn of stanzas: strings of at most 40 bytes, a number. -/
import Derived.Test.YtihjgkicmgomcaaPickDraws
import Derived.Test.YtihjgkicmgomcaaStReplyI
namespace Go.Proofs.Ytihjgkicmgomcaa
set_option linter.unusedSimpArgs false
set_option linter.unusedVariables false
open Go.RowKit

/-- A stanza whose strings have at most 40 bytes. -/
def StIn (v : Value) : Prop := ∃ (k t f o : ByteArray) (n : Int) (b : ByteArray), v = .agg #[.string k, .string t, .string f, .string o, .int .i64 n, .string b] ∧ (k.size ≤ 40 ∧ t.size ≤ 40 ∧ f.size ≤ 40 ∧ o.size ≤ 40 ∧ b.size ≤ 40) ∧ -1 ≤ n ∧ n ≤ 1000000001
theorem lists_st : (∀ s ∈ ([⟨#[]⟩, ⟨#[103, 101, 116]⟩, ⟨#[115, 101, 116]⟩, ⟨#[101, 114, 114, 111, 114]⟩, ⟨#[104, 101, 97, 100, 108, 105, 110, 101]⟩, ⟨#[103, 114, 111, 117, 112, 99, 104, 97, 116]⟩, ⟨#[99, 104, 97, 116]⟩] : List ByteArray), s.size ≤ 40) ∧ (∀ s ∈ ([⟨#[]⟩, ⟨#[97, 110, 110, 64, 97]⟩, ⟨#[98, 111, 98, 64, 98, 47, 104, 111, 109, 101]⟩, ⟨#[97]⟩, ⟨#[97, 110, 110, 64, 97, 47, 120]⟩, ⟨#[99, 64, 97, 46, 98]⟩] : List ByteArray), s.size ≤ 40) ∧ (∀ s ∈ ([⟨#[]⟩, ⟨#[104, 105]⟩, ⟨#[60, 38, 39, 34, 62]⟩, ⟨#[97, 32, 98]⟩] : List ByteArray), s.size ≤ 40) ∧ (∀ s ∈ ([⟨#[65, 64, 98]⟩, ⟨#[64]⟩, ⟨#[97, 47]⟩] : List ByteArray), s.size ≤ 40) ∧ (∀ s ∈ ([kPres, kMess, kIq, kDb] : List ByteArray), s.size ≤ 40) := by decide
theorem src_who (B g : Nat) (w : World) (hS : Src w B g) : Calls Try.prog 54 #[.pointer (some ⟨g, 0, none⟩)] w (Drew B g w (StrIn 40)) := by
  have hgw : g < w.heap.size := hS.lt
  have HS := Lib.hid hS
  clear hS
  go_enter Try.func54, Try.ntmps54
  go_wp2_with fail
  refine (src_pick B g w.heap.size 6 40 _ (by omega) (by omega) (HS.out.alloc _) (by omega) (strRow_at w 9 40 _ [⟨#[]⟩, ⟨#[97, 110, 110, 64, 97]⟩, ⟨#[98, 111, 98, 64, 98, 47, 104, 111, 109, 101]⟩, ⟨#[97]⟩, ⟨#[97, 110, 110, 64, 97, 47, 120]⟩, ⟨#[99, 64, 97, 46, 98]⟩] rfl lists_st.2.1)).mono ?_
  rintro e w1 ⟨_, rfl, ⟨l, rfl, hl⟩, hS1, hg1⟩
  go_wp2
  go_ret
  exact ⟨_, rfl, ⟨l, rfl, hl⟩, hS1, grown_same (grown_alloc (World.grownBy.refl w (some g)) _) hg1⟩
theorem src_set6 {W : World} {B g : Nat} (hS : Src W B g) (b : Nat) (hne : b ≠ g) (hB : B ≤ b) (x0 x1 x2 x3 x4 x5 : Value) : Src (put6 W b x0 x1 x2 x3 x4 x5) B g :=
  (((((hS.set b 0 x0 hne hB).set b 1 x1 hne hB).set b 2 x2 hne hB).set b 3 x3 hne hB).set b 4 x4 hne hB).set b 5 x5 hne hB
theorem grown_put6 {w W : World} {r : Option Nat} (hg : w.grownBy W r) (b : Nat) (hb : w.heap.size ≤ b) (x0 x1 x2 x3 x4 x5 : Value) : w.grownBy (put6 W b x0 x1 x2 x3 x4 x5) r :=
  grown_new (grown_new (grown_new (grown_new (grown_new (grown_new hg b 0 x0 hb) b 1 x1 hb) b 2 x2 hb) b 3 x3 hb) b 4 x4 hb) b 5 x5 hb
theorem st_done {w W : World} {B g : Nat} {k t f o : ByteArray} {n : Int} {b : ByteArray} (hS : Src W B g) (hg : w.grownBy W (some g)) (hgw : g < w.heap.size) (hB : B ≤ w.heap.size) (hz : k.size ≤ 40 ∧ t.size ≤ 40 ∧ f.size ≤ 40 ∧ o.size ≤ 40 ∧ b.size ≤ 40) (h1 : -1 ≤ n) (h2 : n ≤ 1000000001) :
    Drew B g w StIn (.returned (.agg #[.string k, .string t, .string f, .string o, .int .i64 n, .string b])) (put6 W w.heap.size (.string k) (.string t) (.string f) (.string o) (.int .i64 n) (.string b)) :=
  ⟨_, rfl, ⟨k, t, f, o, n, b, rfl, hz, h1, h2⟩, src_set6 hS _ (by omega) hB _ _ _ _ _ _, grown_put6 hg _ (Nat.le_refl _) _ _ _ _ _ _⟩

set_option maxRecDepth 100000 in
set_option maxHeartbeats 4000000 in
theorem src_st (B g : Nat) (w : World) (hS : Src w B g) :
    Calls Try.prog 39 #[.pointer (some ⟨g, 0, none⟩)] w (Drew B g w StIn) := by
  obtain ⟨i0, hi, y0, y1, y2⟩ := info_parts info_u8d
  have hgw : g < w.heap.size := hS.lt
  have hBg : B ≤ g := hS.1
  obtain ⟨q1, q2, q3, q4, q5⟩ := lists_st
  have Q1 := Lib.hid q1
  have Q3 := Lib.hid q3
  have Q4 := Lib.hid q4
  have Q5 := Lib.hid q5
  clear q1 q2 q3 q4 q5
  have HS := Lib.hid hS
  clear hS
  go_enter Try.func39, Try.ntmps39
  go_wp2_with fail
  refine (spec_kinds _).mono ?_
  rintro e w0 ⟨rfl, rfl⟩
  simp only [World.size_alloc]
  go_wp2_with fail
  refine (src_pick B g (w.heap.size + 1) 4 40 _ (by omega) (by omega) ((HS.out.alloc _).alloc _) (by omega) (strRow_at (w.alloc (.cells #[.string ⟨#[]⟩, .string ⟨#[]⟩, .string ⟨#[]⟩, .string ⟨#[]⟩, .int .i64 0, .string ⟨#[]⟩] 30)) 9 40 (w.heap.size + 1) [kPres, kMess, kIq, kDb] (World.size_alloc ..).symm Q5.out)).mono ?_
  rintro e w1 ⟨_, rfl, ⟨k, rfl, hk⟩, hS1, hg1⟩
  have hz1 := hg1.size
  try simp at hz1
  have G0 : (w.alloc (.cells #[.string ⟨#[]⟩, .string ⟨#[]⟩, .string ⟨#[]⟩, .string ⟨#[]⟩, .int .i64 0, .string ⟨#[]⟩] 30)).grownBy w1 (some g) := grown_same (grown_alloc (World.grownBy.refl _ _) _) hg1
  clear hg1
  go_wp2_with fail
  refine (src_pick B g w1.heap.size 7 40 _ (by omega) (by omega) (hS1.alloc _) (by omega) (strRow_at w1 9 40 _ [⟨#[]⟩, ⟨#[103, 101, 116]⟩, ⟨#[115, 101, 116]⟩, ⟨#[101, 114, 114, 111, 114]⟩, ⟨#[104, 101, 97, 100, 108, 105, 110, 101]⟩, ⟨#[103, 114, 111, 117, 112, 99, 104, 97, 116]⟩, ⟨#[99, 104, 97, 116]⟩] rfl Q1.out)).mono ?_
  rintro e w2 ⟨_, rfl, ⟨t, rfl, ht⟩, hS2, hg2⟩
  have hz2 := hg2.size
  try simp at hz2
  replace G0 := grown_same (grown_alloc G0 _) hg2
  clear hg2 hS1
  go_wp2_with fail
  refine (src_who B g _ hS2).mono ?_
  rintro e w3 ⟨_, rfl, ⟨f, rfl, hf⟩, hS3, hg3⟩
  have hz3 := hg3.size
  try simp at hz3
  replace G0 := grown_same G0 hg3
  clear hg3 hS2
  go_wp2_with fail
  refine (src_who B g _ hS3).mono ?_
  rintro e w4 ⟨_, rfl, ⟨o, rfl, ho⟩, hS4, hg4⟩
  have hz4 := hg4.size
  try simp at hz4
  replace G0 := grown_same G0 hg4
  clear hg4 hS3
  go_wp2_with fail
  refine (src_n B g 5 _ (by omega) hS4).mono ?_
  rintro e w5 ⟨_, rfl, ⟨n, rfl, n0, n1⟩, hS5, hg5⟩
  have hz5 := hg5.size
  try simp at hz5
  replace G0 := grown_same G0 hg5
  clear hg5 hS4
  go_wp2_with fail
  refine (src_pick B g w5.heap.size 4 40 _ (by omega) (by omega) (hS5.alloc _) (by omega) (strRow_at w5 9 40 _ [⟨#[]⟩, ⟨#[104, 105]⟩, ⟨#[60, 38, 39, 34, 62]⟩, ⟨#[97, 32, 98]⟩] rfl Q3.out)).mono ?_
  rintro e w6 ⟨_, rfl, ⟨b, rfl, hb⟩, hS6, hg6⟩
  have hz6 := hg6.size
  try simp at hz6
  replace G0 := grown_same (grown_alloc G0 _) hg6
  clear hg6 hS5
  go_wp2_with fail
  refine (src_one B g 12 _ (by omega) (hS6.alloc _)).mono ?_
  rintro e w7 ⟨_, rfl, ⟨q, rfl⟩, hS7, hg7⟩
  have hz7 := hg7.size
  try simp at hz7
  have hJ : Arr w7 w6.heap.size 30 [.string k, .string t, .string f, .string o, .int .i64 n, .string b] := (Arr.fresh w6 30 [.string k, .string t, .string f, .string o, .int .i64 n, .string b]).other hg7 (fun e => by injection e; omega)
  replace G0 := grown_same (grown_alloc G0 _) hg7
  clear hg7 hS6
  cases q
  · have hR : Arr w7 w.heap.size 30 [.string ⟨#[]⟩, .string ⟨#[]⟩, .string ⟨#[]⟩, .string ⟨#[]⟩, .int .i64 0, .string ⟨#[]⟩] := (Arr.fresh w 30 [.string ⟨#[]⟩, .string ⟨#[]⟩, .string ⟨#[]⟩, .string ⟨#[]⟩, .int .i64 0, .string ⟨#[]⟩]).other G0 (fun e => by injection e; omega)
    obtain ⟨⟨c0, c1, c2, c3, c4, c5⟩, d0, d1, d2, d3, d4, d5⟩ := arr_six hJ
    obtain ⟨⟨p0, p1, p2, p3, p4, p5⟩, f0, f1, f2, f3, f4, f5⟩ := arr_six hR
    have hne : w6.heap.size ≠ w.heap.size := by omega
    have HG := Lib.hid (grown_same (grown_alloc (World.grownBy.refl w (some g)) _) G0)
    have HSx := Lib.hid (hS7)
    clear hJ hR G0 hS7
    go_wp2
    exact bodyPost_ret (v := .agg #[.string k, .string t, .string f, .string o, .int .i64 n, .string b]) (by simp [results, Try.results39, go_sem, p0, p1, p2, p3, p4, p5]; try omega) rfl (st_done HSx.out HG.out hgw (by omega) ⟨hk, ht, hf, ho, hb⟩ (by omega) (by omega))
  · go_wp2_with fail
    refine (src_n B g 5 _ (by omega) hS7).mono ?_
    rintro e w8 ⟨_, rfl, ⟨m, rfl, m0, m1⟩, hS8, hg8⟩
    replace hJ := hJ.other hg8 (fun e => by injection e; omega)
    replace G0 := grown_same G0 hg8
    have hz8 := hg8.size
    clear hg8 hS7
    have m5 : m = 0 ∨ m = 1 ∨ m = 2 ∨ m = 3 ∨ m = 4 := by omega
    rcases m5 with rfl | rfl | rfl | rfl | rfl
    · have hR : Arr w8 w.heap.size 30 [.string ⟨#[]⟩, .string ⟨#[]⟩, .string ⟨#[]⟩, .string ⟨#[]⟩, .int .i64 0, .string ⟨#[]⟩] := (Arr.fresh w 30 [.string ⟨#[]⟩, .string ⟨#[]⟩, .string ⟨#[]⟩, .string ⟨#[]⟩, .int .i64 0, .string ⟨#[]⟩]).other G0 (fun e => by injection e; omega)
      obtain ⟨⟨c0, c1, c2, c3, c4, c5⟩, d0, d1, d2, d3, d4, d5⟩ := arr_six hJ
      obtain ⟨⟨p0, p1, p2, p3, p4, p5⟩, f0, f1, f2, f3, f4, f5⟩ := arr_six hR
      have hne : w6.heap.size ≠ w.heap.size := by omega
      have HG := Lib.hid (grown_new (grown_same (grown_alloc (World.grownBy.refl w (some g)) _) G0) w6.heap.size 0 (.string ⟨#[120]⟩) (by omega))
      have HSx := Lib.hid (hS8.set w6.heap.size 0 (.string ⟨#[120]⟩) (by omega) (by omega))
      clear hJ hR G0 hS8
      go_wp2
      exact bodyPost_ret (v := .agg #[.string ⟨#[120]⟩, .string t, .string f, .string o, .int .i64 n, .string b]) (by simp [results, Try.results39, go_sem, p0, p1, p2, p3, p4, p5]; try omega) rfl (st_done HSx.out HG.out hgw (by omega) ⟨(by decide), ht, hf, ho, hb⟩ (by omega) (by omega))
    · have hR : Arr w8 w.heap.size 30 [.string ⟨#[]⟩, .string ⟨#[]⟩, .string ⟨#[]⟩, .string ⟨#[]⟩, .int .i64 0, .string ⟨#[]⟩] := (Arr.fresh w 30 [.string ⟨#[]⟩, .string ⟨#[]⟩, .string ⟨#[]⟩, .string ⟨#[]⟩, .int .i64 0, .string ⟨#[]⟩]).other G0 (fun e => by injection e; omega)
      obtain ⟨⟨c0, c1, c2, c3, c4, c5⟩, d0, d1, d2, d3, d4, d5⟩ := arr_six hJ
      obtain ⟨⟨p0, p1, p2, p3, p4, p5⟩, f0, f1, f2, f3, f4, f5⟩ := arr_six hR
      have hne : w6.heap.size ≠ w.heap.size := by omega
      have HG := Lib.hid (grown_new (grown_same (grown_alloc (World.grownBy.refl w (some g)) _) G0) w6.heap.size 1 (.string ⟨#[65]⟩) (by omega))
      have HSx := Lib.hid (hS8.set w6.heap.size 1 (.string ⟨#[65]⟩) (by omega) (by omega))
      clear hJ hR G0 hS8
      go_wp2
      exact bodyPost_ret (v := .agg #[.string k, .string ⟨#[65]⟩, .string f, .string o, .int .i64 n, .string b]) (by simp [results, Try.results39, go_sem, p0, p1, p2, p3, p4, p5]; try omega) rfl (st_done HSx.out HG.out hgw (by omega) ⟨hk, (by decide), hf, ho, hb⟩ (by omega) (by omega))
    · go_wp2_with fail
      refine (src_pick B g w8.heap.size 3 40 _ (by omega) (by omega) (hS8.alloc _) (by omega) (strRow_at w8 9 40 _ [⟨#[65, 64, 98]⟩, ⟨#[64]⟩, ⟨#[97, 47]⟩] rfl Q4.out)).mono ?_
      rintro e w9 ⟨_, rfl, ⟨x, rfl, hx⟩, hS9, hg9⟩
      replace hJ := (hJ.alloc _).other hg9 (fun e => by injection e; omega)
      replace G0 := grown_same (grown_alloc G0 _) hg9
      have hz9 := hg9.size
      simp at hz9
      clear hg9 hS8
      have hR : Arr w9 w.heap.size 30 [.string ⟨#[]⟩, .string ⟨#[]⟩, .string ⟨#[]⟩, .string ⟨#[]⟩, .int .i64 0, .string ⟨#[]⟩] := (Arr.fresh w 30 [.string ⟨#[]⟩, .string ⟨#[]⟩, .string ⟨#[]⟩, .string ⟨#[]⟩, .int .i64 0, .string ⟨#[]⟩]).other G0 (fun e => by injection e; omega)
      obtain ⟨⟨c0, c1, c2, c3, c4, c5⟩, d0, d1, d2, d3, d4, d5⟩ := arr_six hJ
      obtain ⟨⟨p0, p1, p2, p3, p4, p5⟩, f0, f1, f2, f3, f4, f5⟩ := arr_six hR
      have hne : w6.heap.size ≠ w.heap.size := by omega
      have HG := Lib.hid (grown_new (grown_same (grown_alloc (World.grownBy.refl w (some g)) _) G0) w6.heap.size 2 (.string x) (by omega))
      have HSx := Lib.hid (hS9.set w6.heap.size 2 (.string x) (by omega) (by omega))
      clear hJ hR G0 hS9
      go_wp2
      exact bodyPost_ret (v := .agg #[.string k, .string t, .string x, .string o, .int .i64 n, .string b]) (by simp [results, Try.results39, go_sem, p0, p1, p2, p3, p4, p5]; try omega) rfl (st_done HSx.out HG.out hgw (by omega) ⟨hk, ht, hx, ho, hb⟩ (by omega) (by omega))
    · go_wp2_with fail
      refine (src_n B g 3 _ (by omega) (hS8.alloc _)).mono ?_
      rintro e w9 ⟨_, rfl, ⟨x, rfl, x0, x1⟩, hS9, hg9⟩
      replace hJ := (hJ.alloc _).other hg9 (fun e => by injection e; omega)
      have hI : Arr w9 w8.heap.size 2 [.int .i64 (-1), .int .i64 1000000000, .int .i64 1000000001] := (Arr.fresh w8 2 [.int .i64 (-1), .int .i64 1000000000, .int .i64 1000000001]).other hg9 (fun e => by injection e; omega)
      replace G0 := grown_same (grown_alloc G0 _) hg9
      have hz9 := hg9.size
      simp at hz9
      clear hg9 hS8
      have x3 : x = 0 ∨ x = 1 ∨ x = 2 := by omega
      obtain ⟨j0, j1, j2, _⟩ := arr_three hI
      clear hI
      rcases x3 with rfl | rfl | rfl
      · have hR : Arr w9 w.heap.size 30 [.string ⟨#[]⟩, .string ⟨#[]⟩, .string ⟨#[]⟩, .string ⟨#[]⟩, .int .i64 0, .string ⟨#[]⟩] := (Arr.fresh w 30 [.string ⟨#[]⟩, .string ⟨#[]⟩, .string ⟨#[]⟩, .string ⟨#[]⟩, .int .i64 0, .string ⟨#[]⟩]).other G0 (fun e => by injection e; omega)
        obtain ⟨⟨c0, c1, c2, c3, c4, c5⟩, d0, d1, d2, d3, d4, d5⟩ := arr_six hJ
        obtain ⟨⟨p0, p1, p2, p3, p4, p5⟩, f0, f1, f2, f3, f4, f5⟩ := arr_six hR
        have hne : w6.heap.size ≠ w.heap.size := by omega
        have HG := Lib.hid (grown_new (grown_same (grown_alloc (World.grownBy.refl w (some g)) _) G0) w6.heap.size 4 (.int .i64 (-1)) (by omega))
        have HSx := Lib.hid (hS9.set w6.heap.size 4 (.int .i64 (-1)) (by omega) (by omega))
        clear hJ hR G0 hS9
        go_wp2
        exact bodyPost_ret (v := .agg #[.string k, .string t, .string f, .string o, .int .i64 (-1), .string b]) (by simp [results, Try.results39, go_sem, p0, p1, p2, p3, p4, p5]; try omega) rfl (st_done HSx.out HG.out hgw (by omega) ⟨hk, ht, hf, ho, hb⟩ (by omega) (by omega))
      · have hR : Arr w9 w.heap.size 30 [.string ⟨#[]⟩, .string ⟨#[]⟩, .string ⟨#[]⟩, .string ⟨#[]⟩, .int .i64 0, .string ⟨#[]⟩] := (Arr.fresh w 30 [.string ⟨#[]⟩, .string ⟨#[]⟩, .string ⟨#[]⟩, .string ⟨#[]⟩, .int .i64 0, .string ⟨#[]⟩]).other G0 (fun e => by injection e; omega)
        obtain ⟨⟨c0, c1, c2, c3, c4, c5⟩, d0, d1, d2, d3, d4, d5⟩ := arr_six hJ
        obtain ⟨⟨p0, p1, p2, p3, p4, p5⟩, f0, f1, f2, f3, f4, f5⟩ := arr_six hR
        have hne : w6.heap.size ≠ w.heap.size := by omega
        have HG := Lib.hid (grown_new (grown_same (grown_alloc (World.grownBy.refl w (some g)) _) G0) w6.heap.size 4 (.int .i64 1000000000) (by omega))
        have HSx := Lib.hid (hS9.set w6.heap.size 4 (.int .i64 1000000000) (by omega) (by omega))
        clear hJ hR G0 hS9
        go_wp2
        exact bodyPost_ret (v := .agg #[.string k, .string t, .string f, .string o, .int .i64 1000000000, .string b]) (by simp [results, Try.results39, go_sem, p0, p1, p2, p3, p4, p5]; try omega) rfl (st_done HSx.out HG.out hgw (by omega) ⟨hk, ht, hf, ho, hb⟩ (by omega) (by omega))
      · have hR : Arr w9 w.heap.size 30 [.string ⟨#[]⟩, .string ⟨#[]⟩, .string ⟨#[]⟩, .string ⟨#[]⟩, .int .i64 0, .string ⟨#[]⟩] := (Arr.fresh w 30 [.string ⟨#[]⟩, .string ⟨#[]⟩, .string ⟨#[]⟩, .string ⟨#[]⟩, .int .i64 0, .string ⟨#[]⟩]).other G0 (fun e => by injection e; omega)
        obtain ⟨⟨c0, c1, c2, c3, c4, c5⟩, d0, d1, d2, d3, d4, d5⟩ := arr_six hJ
        obtain ⟨⟨p0, p1, p2, p3, p4, p5⟩, f0, f1, f2, f3, f4, f5⟩ := arr_six hR
        have hne : w6.heap.size ≠ w.heap.size := by omega
        have HG := Lib.hid (grown_new (grown_same (grown_alloc (World.grownBy.refl w (some g)) _) G0) w6.heap.size 4 (.int .i64 1000000001) (by omega))
        have HSx := Lib.hid (hS9.set w6.heap.size 4 (.int .i64 1000000001) (by omega) (by omega))
        clear hJ hR G0 hS9
        go_wp2
        exact bodyPost_ret (v := .agg #[.string k, .string t, .string f, .string o, .int .i64 1000000001, .string b]) (by simp [results, Try.results39, go_sem, p0, p1, p2, p3, p4, p5]; try omega) rfl (st_done HSx.out HG.out hgw (by omega) ⟨hk, ht, hf, ho, hb⟩ (by omega) (by omega))
    · have hmk : ∀ u : World, (Instr.makeSlice 22 (.int .i64 3) (.int .i64 3)).run Try.prog u = .ok (.slice (some ⟨u.heap.size, 0, none⟩) 3 3) (u.alloc (.cells (madeCells #[.int .u8 0] 3) 5)) := fun u => by
        have h := run_make (P := Try.prog) u 22 5 i0 (.int .u8 0) Try.underlying22 hi y0 .i64 .i64 3 3 (by omega) (Int.le_refl _) (by rw [y2]; omega) (by omega)
        simpa [y1, Value.cells] using h
      have hcv := run_string_made (P := Try.prog) w8 22 9 5 3 Try.underlying22 Try.underlying5 Try.underlying9
      obtain ⟨Z, hZ⟩ : ∃ Z, Z = strOf (List.replicate 3 0) := ⟨_, rfl⟩
      rw [← hZ] at hcv
      have HZ : Hid (∀ s ∈ ([⟨#[10]⟩, Z, ⟨#[127]⟩] : List ByteArray), s.size ≤ 40) := Lib.hid (by rw [hZ]; decide)
      clear hZ
      go_wp2_with fail
      refine (src_pick B g (w8.heap.size + 1) 3 40 _ (by omega) (by omega) ((hS8.alloc _).alloc _) (by omega) (strRow_at (w8.alloc (.cells (madeCells #[.int .u8 0] 3) 5)) 9 40 _ [⟨#[10]⟩, Z, ⟨#[127]⟩] (World.size_alloc ..).symm HZ.out)).mono ?_
      rintro e w9 ⟨_, rfl, ⟨x, rfl, hx⟩, hS9, hg9⟩
      replace hJ := ((hJ.alloc _).alloc _).other hg9 (fun e => by injection e; omega)
      replace G0 := grown_same (grown_alloc (grown_alloc G0 _) _) hg9
      have hz9 := hg9.size
      simp at hz9
      clear hg9 hS8 hmk hcv
      have hR : Arr w9 w.heap.size 30 [.string ⟨#[]⟩, .string ⟨#[]⟩, .string ⟨#[]⟩, .string ⟨#[]⟩, .int .i64 0, .string ⟨#[]⟩] := (Arr.fresh w 30 [.string ⟨#[]⟩, .string ⟨#[]⟩, .string ⟨#[]⟩, .string ⟨#[]⟩, .int .i64 0, .string ⟨#[]⟩]).other G0 (fun e => by injection e; omega)
      obtain ⟨⟨c0, c1, c2, c3, c4, c5⟩, d0, d1, d2, d3, d4, d5⟩ := arr_six hJ
      obtain ⟨⟨p0, p1, p2, p3, p4, p5⟩, f0, f1, f2, f3, f4, f5⟩ := arr_six hR
      have hne : w6.heap.size ≠ w.heap.size := by omega
      have HG := Lib.hid (grown_new (grown_same (grown_alloc (World.grownBy.refl w (some g)) _) G0) w6.heap.size 5 (.string x) (by omega))
      have HSx := Lib.hid (hS9.set w6.heap.size 5 (.string x) (by omega) (by omega))
      clear hJ hR G0 hS9
      go_wp2
      exact bodyPost_ret (v := .agg #[.string k, .string t, .string f, .string o, .int .i64 n, .string x]) (by simp [results, Try.results39, go_sem, p0, p1, p2, p3, p4, p5]; try omega) rfl (st_done HSx.out HG.out hgw (by omega) ⟨hk, ht, hf, ho, hx⟩ (by omega) (by omega))
end Go.Proofs.Ytihjgkicmgomcaa
