/- Several parts in one text: MbTake, MbTo, MbRouted, MbRouteI, MbLe, MbBegin, MbOn. -/
import Derived.Test.YtpjmcpfmnlfmdaaGreatQMbA
import Derived.Test.YtpjmcpfmnlfmdaaGreatQSeA
import Derived.Test.YtpjmcpfmnlfmdaaGreatQBase
import Derived.Test.YtpjmcpfmnlfmdaaGreatQSeB
namespace Go.Proofs.YtpjmcpfmnlfmdaaGreat
set_option linter.unusedSimpArgs false
set_option linter.unusedVariables false
open Go.RowKit Go.Joins

/-- The mailbox's box, the answer's. -/
def TkB (w W : World) (p1 : Option Addr) (n1 c1 : Nat) (p2 : Option Addr) (n2 c2 : Nat) (cs : List Value) : Prop := Arr W w.heap.size 33 [.slice p1 n1 c1, .slice p2 n2 c2] ∧ Arr W (w.heap.size + 1) 37 cs ∧ Below w.heap.size w W
theorem TkB.on {w W W2 : World} {p1 : Option Addr} {n1 c1 : Nat} {p2 : Option Addr} {n2 c2 : Nat} {cs : List Value} (h : TkB w W p1 n1 c1 p2 n2 c2 cs) (hb : Below W.heap.size W W2) : TkB w W2 p1 n1 c1 p2 n2 c2 cs := ⟨arr9_on h.1 hb, arr9_on h.2.1 hb, h.2.2.trans (hb.mono h.2.2.size)⟩
theorem TkB.two {w W : World} {p1 : Option Addr} {n1 c1 : Nat} {p2 : Option Addr} {n2 c2 : Nat} {cs : List Value} (h : TkB w W p1 n1 c1 p2 n2 c2 cs) : (W.cell? ⟨w.heap.size, 0, none⟩ = some (.slice p1 n1 c1) ∧ W.cell? ⟨w.heap.size, 1, none⟩ = some (.slice p2 n2 c2)) ∧ w.heap.size + 1 < W.heap.size := ⟨(arr9_two h.1).1, arr9_lt h.2.1⟩
theorem ten_all {w : World} {g t : Nat} {a0 a1 a2 a3 a4 a5 a6 a7 a8 a9 : Value} (h : Arr w g t [a0, a1, a2, a3, a4, a5, a6, a7, a8, a9]) : (w.cell? ⟨g, 0, none⟩ = some a0 ∧ w.cell? ⟨g, 1, none⟩ = some a1 ∧ w.cell? ⟨g, 2, none⟩ = some a2 ∧ w.cell? ⟨g, 3, none⟩ = some a3 ∧ w.cell? ⟨g, 4, none⟩ = some a4 ∧ w.cell? ⟨g, 5, none⟩ = some a5 ∧ w.cell? ⟨g, 6, none⟩ = some a6 ∧ w.cell? ⟨g, 7, none⟩ = some a7 ∧ w.cell? ⟨g, 8, none⟩ = some a8 ∧ w.cell? ⟨g, 9, none⟩ = some a9) ∧ w.frozen? ⟨g, 0, none⟩ = false ∧ w.frozen? ⟨g, 1, none⟩ = false ∧ w.frozen? ⟨g, 2, none⟩ = false ∧ w.frozen? ⟨g, 3, none⟩ = false ∧ w.frozen? ⟨g, 4, none⟩ = false ∧ w.frozen? ⟨g, 5, none⟩ = false ∧ w.frozen? ⟨g, 6, none⟩ = false ∧ w.frozen? ⟨g, 7, none⟩ = false ∧ w.frozen? ⟨g, 8, none⟩ = false ∧ w.frozen? ⟨g, 9, none⟩ = false :=
  ⟨⟨h.cell 0, h.cell 1, h.cell 2, h.cell 3, h.cell 4, h.cell 5, h.cell 6, h.cell 7, h.cell 8, h.cell 9⟩, h.free 0, h.free 1, h.free 2, h.free 3, h.free 4, h.free 5, h.free 6, h.free 7, h.free 8, h.free 9⟩
def put10 (w : World) (g : Nat) (b0 b1 b2 b3 b4 b5 b6 b7 b8 b9 : Value) : World := (((((((((w.setCell ⟨g, 0, none⟩ b0).setCell ⟨g, 1, none⟩ b1).setCell ⟨g, 2, none⟩ b2).setCell ⟨g, 3, none⟩ b3).setCell ⟨g, 4, none⟩ b4).setCell ⟨g, 5, none⟩ b5).setCell ⟨g, 6, none⟩ b6).setCell ⟨g, 7, none⟩ b7).setCell ⟨g, 8, none⟩ b8).setCell ⟨g, 9, none⟩ b9
theorem arr_put10 {w : World} {g t : Nat} {a0 a1 a2 a3 a4 a5 a6 a7 a8 a9 : Value} (h : Arr w g t [a0, a1, a2, a3, a4, a5, a6, a7, a8, a9]) (b0 b1 b2 b3 b4 b5 b6 b7 b8 b9 : Value) : Arr (put10 w g b0 b1 b2 b3 b4 b5 b6 b7 b8 b9) g t [b0, b1, b2, b3, b4, b5, b6, b7, b8, b9] :=
  (((((((((h.put 0 b0).put 1 b1).put 2 b2).put 3 b3).put 4 b4).put 5 b5).put 6 b6).put 7 b7).put 8 b8).put 9 b9
theorem below_put10 {D g : Nat} {w w1 : World} (h : Below D w w1) (hg : D ≤ g) (b0 b1 b2 b3 b4 b5 b6 b7 b8 b9 : Value) : Below D w (put10 w1 g b0 b1 b2 b3 b4 b5 b6 b7 b8 b9) :=
  (((((((((h.setCell (p := ⟨g, 0, none⟩) hg b0).setCell (p := ⟨g, 1, none⟩) hg b1).setCell (p := ⟨g, 2, none⟩) hg b2).setCell (p := ⟨g, 3, none⟩) hg b3).setCell (p := ⟨g, 4, none⟩) hg b4).setCell (p := ⟨g, 5, none⟩) hg b5).setCell (p := ⟨g, 6, none⟩) hg b6).setCell (p := ⟨g, 7, none⟩) hg b7).setCell (p := ⟨g, 8, none⟩) hg b8).setCell (p := ⟨g, 9, none⟩) hg b9
theorem own_put10 {α : Type} {enc : α → List Value} {w : World} {D e size g : Nat} {v : Value} {xs : List α} (h : OwnC enc w D e size v xs) (hg : g < D) (b0 b1 b2 b3 b4 b5 b6 b7 b8 b9 : Value) : OwnC enc (put10 w g b0 b1 b2 b3 b4 b5 b6 b7 b8 b9) D e size v xs :=
  (((((((((h.low (a := ⟨g, 0, none⟩) hg b0).low (a := ⟨g, 1, none⟩) hg b1).low (a := ⟨g, 2, none⟩) hg b2).low (a := ⟨g, 3, none⟩) hg b3).low (a := ⟨g, 4, none⟩) hg b4).low (a := ⟨g, 5, none⟩) hg b5).low (a := ⟨g, 6, none⟩) hg b6).low (a := ⟨g, 7, none⟩) hg b7).low (a := ⟨g, 8, none⟩) hg b8).low (a := ⟨g, 9, none⟩) hg b9
end Go.Proofs.YtpjmcpfmnlfmdaaGreat

namespace Go.Proofs.YtpjmcpfmnlfmdaaGreat
set_option linter.unusedSimpArgs false
set_option linter.unusedVariables false
open Go.RowKit Go.Joins

theorem to_nobody (v : Value) (r : ByteArray) (w : World) : Calls Tryz.prog 57 #[v, .string r] w fun e w' => StIs w.heap.size [] e w' ∧ Below w.heap.size w w' := by
  go_enter Tryz.func57, Tryz.ntmps57
  go_wp2
  go_ret
  exact ⟨⟨none, 0, rfl, ownC_nil _ _ _ _ _⟩, Below.refl _ _⟩
set_option maxHeartbeats 1000000 in
theorem to_named (xs : List SeL) (r : ByteArray) (p0 : Option Addr) (c : Nat) (w : World) (hn : xs.length ≤ 1000000) (hw : SzS xs) (hR : RowC seC 4 w p0 xs) :
    Calls Tryz.prog 59 #[.slice p0 xs.length c, .string r] w fun e w' => StIs w.heap.size (namedL r xs) e w' ∧ Below w.heap.size w w' := by
  have hb0 := (Below.refl w.heap.size w).alloc (Nat.le_refl _) (.cells #[.string r] 9)
  have i1 := resof_named xs p0 c (w.alloc (.cells #[.string r] 9)) r w.heap.size ((Arr.fresh w 9 [.string r]).cell 0) hn hw (hR.on hb0)
  unfold namedL
  unfold StIs at i1 ⊢
  clear hR hn hw
  go_enter Tryz.func59, Tryz.ntmps59
  go_wp2_with (go_at_call 67; go_fit i1; rintro e w1 ⟨⟨p1, k1, rfl, hv⟩, hb⟩)
  go_ret
  exact ⟨⟨p1, k1, rfl, hv.mono (by simp)⟩, hb0.trans (hb.mono hb0.size)⟩
set_option maxHeartbeats 1000000 in
theorem to_bound (xs : List SeL) (r : ByteArray) (p0 : Option Addr) (c : Nat) (w : World) (hn : xs.length ≤ 1000000) (hw : SzS xs) (hR : RowC seC 4 w p0 xs) :
    Calls Tryz.prog 66 #[.slice p0 xs.length c, .string r] w fun e w' => StIs w.heap.size (boundL r xs) e w' ∧ Below w.heap.size w w' := by
  have hb0 := (Below.refl w.heap.size w).alloc (Nat.le_refl _) (.cells #[.string r] 9)
  have i1 := resof_bound xs p0 c (w.alloc (.cells #[.string r] 9)) r w.heap.size ((Arr.fresh w 9 [.string r]).cell 0) hn hw (hR.on hb0)
  unfold boundL
  unfold StIs at i1 ⊢
  clear hR hn hw
  go_enter Tryz.func66, Tryz.ntmps66
  go_wp2_with (go_at_call 67; go_fit i1; rintro e w1 ⟨⟨p1, k1, rfl, hv⟩, hb⟩)
  go_ret
  exact ⟨⟨p1, k1, rfl, hv.mono (by simp)⟩, hb0.trans (hb.mono hb0.size)⟩
set_option maxHeartbeats 1000000 in
theorem to_nb (xs : List SeL) (r : ByteArray) (p0 : Option Addr) (c : Nat) (w : World) (hn : xs.length ≤ 1000000) (hw : SzS xs) (hR : RowC seC 4 w p0 xs) :
    Calls Tryz.prog 58 #[.slice p0 xs.length c, .string r] w fun e w' => StIs w.heap.size (nbL r xs) e w' ∧ Below w.heap.size w w' := by
  have i1 := to_named xs r p0 c w hn hw hR
  have i2 := fun W h => impl_best xs p0 c W (by omega) (se_max hw) hw h
  have HP := Lib.hid (fun W (h : Below w.heap.size w W) => hR.on h)
  unfold nbL
  obtain ⟨L, hL⟩ : ∃ L, namedL r xs = L := ⟨_, rfl⟩
  rw [hL] at i1 ⊢
  unfold StIs at i1 i2 ⊢
  clear hR hn hw hL
  by_cases h0 : L.length = 0
  · rw [if_pos h0]
    rw [h0] at i1
    go_enter Tryz.func58, Tryz.ntmps58
    go_wp2_with (first
      | (go_at_call 59; go_fit i1; rintro e w1 ⟨⟨p1, k1, rfl, hv⟩, hb⟩; have HB1 := Lib.hid hb; clear hb hv)
      | (go_at_call 89; go_fit (i2 _ (HP.out _ HB1.out)); rintro e w2 ⟨⟨p2, k2, rfl, hv⟩, hb⟩; have HB2 := Lib.hid (HB1.out.trans (hb.mono HB1.out.size)); have HV2 := Lib.hid (hv.mono HB1.out.size); clear hb hv))
    go_ret
    exact ⟨⟨p2, k2, rfl, HV2.out⟩, HB2.out⟩
  · rw [if_neg h0]
    have h1 : ((L.length : Int) != 0) = true := by simpa using h0
    have h2 : ¬ (L.length : Int) = 0 := by omega
    go_enter Tryz.func58, Tryz.ntmps58
    go_wp2_with (first
      | (go_at_call 59; go_fit i1; rintro e w1 ⟨⟨p1, k1, rfl, hv⟩, hb⟩; have HB1 := Lib.hid hb; have HV1 := Lib.hid hv; clear hb hv))
    go_ret
    exact ⟨⟨p1, k1, rfl, HV1.out⟩, HB1.out⟩
set_option maxHeartbeats 1000000 in
theorem to_pres (xs : List SeL) (r : ByteArray) (p0 : Option Addr) (c : Nat) (w : World) (hn : xs.length ≤ 1000000) (hw : SzS xs) (hR : RowC seC 4 w p0 xs) :
    Calls Tryz.prog 42 #[.slice p0 xs.length c, .string r] w fun e w' => StIs w.heap.size (presL r xs) e w' ∧ Below w.heap.size w w' := by
  have i1 := to_named xs r p0 c w hn hw hR
  have i2 := resof_on xs p0 c w hn hw hR
  unfold presL onL
  unfold StIs at i1 i2 ⊢
  clear hR hn hw
  by_cases h0 : r.size = 0
  · rw [if_pos h0]
    have e0 := empty_size.2 h0
    go_enter Tryz.func42, Tryz.ntmps42
    go_wp2_with (go_at_call 67; go_fit i2; rintro e w1 ⟨⟨p1, k1, rfl, hv⟩, hb⟩)
    go_ret
    exact ⟨⟨p1, k1, rfl, hv⟩, hb⟩
  · rw [if_neg h0]
    obtain ⟨e0, e1⟩ := nonempty_facts h0
    go_enter Tryz.func42, Tryz.ntmps42
    go_wp2_with (go_at_call 59; go_fit i1; rintro e w1 ⟨⟨p1, k1, rfl, hv⟩, hb⟩)
    go_ret
    exact ⟨⟨p1, k1, rfl, hv⟩, hb⟩
theorem rest_none (q1 : Option Addr) (n1 l1 : Nat) (q2 : Option Addr) (n2 l2 : Nat) (s : MsL) (w : World) :
    Calls Tryz.prog 43 #[.agg #[.slice q1 n1 l1, .slice q2 n2 l2], msV s] w fun e w' => e = .returned (msV zMs) ∧ Below w.heap.size w w' := by
  unfold msV
  go_enter Tryz.func43, Tryz.ntmps43
  go_wp2
  exact bodyPost_ret (v := msV zMs) (by simp [results, Tryz.results43, go_sem, msV, zMs]) rfl ⟨rfl, (((Below.refl _ _).alloc (Nat.le_refl _) _).alloc (by simp) _).alloc (by simp; omega) _⟩
/-- The three boxes of a function that says what is left. -/
def RsB (w W : World) (q1 : Option Addr) (n1 l1 : Nat) (q2 : Option Addr) (n2 l2 : Nat) (s : MsL) : Prop := Arr W w.heap.size 33 [.slice q1 n1 l1, .slice q2 n2 l2] ∧ Arr W (w.heap.size + 1) 35 [.string s.k, .string s.t, .string s.f, .string s.o, .int .i64 s.n, .string s.b] ∧ Arr W (w.heap.size + 1 + 1) 35 [.string ⟨#[]⟩, .string ⟨#[]⟩, .string ⟨#[]⟩, .string ⟨#[]⟩, .int .i64 0, .string ⟨#[]⟩] ∧ Below w.heap.size w W
theorem RsB.on {w W W2 : World} {q1 : Option Addr} {n1 l1 : Nat} {q2 : Option Addr} {n2 l2 : Nat} {s : MsL} (h : RsB w W q1 n1 l1 q2 n2 l2 s) (hb : Below W.heap.size W W2) : RsB w W2 q1 n1 l1 q2 n2 l2 s := ⟨arr9_on h.1 hb, arr9_on h.2.1 hb, arr9_on h.2.2.1 hb, h.2.2.2.trans (hb.mono h.2.2.2.size)⟩
theorem rsb_start (w : World) (q1 : Option Addr) (n1 l1 : Nat) (q2 : Option Addr) (n2 l2 : Nat) (s : MsL) : RsB w (((w.alloc (.cells #[.slice q1 n1 l1, .slice q2 n2 l2] 33)).alloc (.cells #[.string s.k, .string s.t, .string s.f, .string s.o, .int .i64 s.n, .string s.b] 35)).alloc (.cells #[.string ⟨#[]⟩, .string ⟨#[]⟩, .string ⟨#[]⟩, .string ⟨#[]⟩, .int .i64 0, .string ⟨#[]⟩] 35)) q1 n1 l1 q2 n2 l2 s := by
  have h2 := Arr.fresh (w.alloc (.cells #[.slice q1 n1 l1, .slice q2 n2 l2] 33)) 35 [.string s.k, .string s.t, .string s.f, .string s.o, .int .i64 s.n, .string s.b]
  have h3 := Arr.fresh ((w.alloc (.cells #[.slice q1 n1 l1, .slice q2 n2 l2] 33)).alloc (.cells #[.string s.k, .string s.t, .string s.f, .string s.o, .int .i64 s.n, .string s.b] 35)) 35 [.string ⟨#[]⟩, .string ⟨#[]⟩, .string ⟨#[]⟩, .string ⟨#[]⟩, .int .i64 0, .string ⟨#[]⟩]
  rw [World.size_alloc] at h2
  rw [World.size_alloc, World.size_alloc] at h3
  exact ⟨arr9_on (arr9_on (Arr.fresh w 33 [.slice q1 n1 l1, .slice q2 n2 l2]) ((Below.refl _ _).alloc (Nat.le_refl _) _)) ((Below.refl _ _).alloc (Nat.le_refl _) _), arr9_on h2 ((Below.refl _ _).alloc (Nat.le_refl _) _), h3, (((Below.refl _ _).alloc (Nat.le_refl _) _).alloc (by simp) _).alloc (by simp; omega) _⟩
set_option maxHeartbeats 1000000 in
theorem rest_unav (q1 : Option Addr) (n1 l1 : Nat) (q2 : Option Addr) (n2 l2 : Nat) (s : MsL) (w : World) (hs : s.le 1048576) (hm : MaxL w) :
    Calls Tryz.prog 60 #[.agg #[.slice q1 n1 l1, .slice q2 n2 l2], msV s] w fun e w' => e = .returned (msV (fltM s unavS)) ∧ Below w.heap.size w w' := by
  obtain ⟨s0, s1, s2, s3, s4⟩ := hs
  have i1 := fun W hm => impl_fault s.k s.t s.f s.o s.n s.b unavS W (by omega) (by omega) (by omega) (by omega) (by omega) (by decide) hm
  rw [fltV_M] at i1
  obtain ⟨y, hy⟩ : ∃ y, fltM s unavS = y := ⟨_, rfl⟩
  rw [hy] at i1 ⊢
  have HS := Lib.hid (rsb_start w q1 n1 l1 q2 n2 l2 s)
  have HM := Lib.hid (fun W (h : Below w.heap.size w W) => hm.below h hm.pos)
  unfold msV at i1 ⊢
  unfold unavS at i1
  clear hm hy s0 s1 s2 s3 s4
  go_enter Tryz.func60, Tryz.ntmps60
  go_wp2_with (go_at_call 91; go_fit (i1 _ (HM.out _ HS.out.2.2.2)); rintro e w1 ⟨rfl, hb⟩; have HS1 := Lib.hid (HS.out.on hb); clear hb; obtain ⟨⟨c0, c1, c2, c3, c4, c5⟩, f0, f1, f2, f3, f4, f5⟩ := arr_six0 HS1.out.2.2.1)
  have hE := arr_put6 HS1.out.2.2.1 (.string y.k) (.string y.t) (.string y.f) (.string y.o) (.int .i64 y.n) (.string y.b)
  exact bodyPost_ret (v := .agg #[.string y.k, .string y.t, .string y.f, .string y.o, .int .i64 y.n, .string y.b]) (results_cell_row (P := Tryz.prog) Tryz.results60 _ _ (w.heap.size + 1 + 1) 35 _ (0, 0) _ rfl hE Tryz.underlying35 rfl (by kernel_rfl)) rfl ⟨rfl, below_put6 HS1.out.2.2.2 (by omega) _ _ _ _ _ _⟩
set_option maxHeartbeats 1000000 in
theorem rest_full (ys : List MsL) (q1 : Option Addr) (n1 l1 : Nat) (q2 : Option Addr) (n2 l2 : Nat) (s : MsL) (w : World) (hs : s.le 1048576) (hy : ys.length = n2) (hm : MaxL w) :
    Calls Tryz.prog 61 #[.agg #[.slice q1 n1 l1, .slice q2 n2 l2], msV s] w fun e w' => e = .returned (msV (fullM ys s)) ∧ Below w.heap.size w w' := by
  obtain ⟨s0, s1, s2, s3, s4⟩ := hs
  have i1 := fun W hm => impl_fault s.k s.t s.f s.o s.n s.b fullS W (by omega) (by omega) (by omega) (by omega) (by omega) (by decide) hm
  rw [fltV_M] at i1
  unfold fullM
  rw [hy]
  obtain ⟨y, hyy⟩ : ∃ y, fltM s fullS = y := ⟨_, rfl⟩
  rw [hyy] at i1 ⊢
  have HS := Lib.hid (rsb_start w q1 n1 l1 q2 n2 l2 s)
  have HM := Lib.hid (fun W (h : Below w.heap.size w W) => hm.below h hm.pos)
  unfold msV at i1 ⊢
  unfold fullS at i1
  clear hm hy hyy s0 s1 s2 s3 s4
  by_cases h5 : n2 = 5
  · subst h5
    rw [if_pos rfl]
    go_enter Tryz.func61, Tryz.ntmps61
    go_wp2_with (go_at_call 91; go_fit (i1 _ (HM.out _ HS.out.2.2.2)); rintro e w1 ⟨rfl, hb⟩; have HS1 := Lib.hid (HS.out.on hb); clear hb; obtain ⟨⟨c0, c1, c2, c3, c4, c5⟩, f0, f1, f2, f3, f4, f5⟩ := arr_six0 HS1.out.2.2.1)
    have hE := arr_put6 HS1.out.2.2.1 (.string y.k) (.string y.t) (.string y.f) (.string y.o) (.int .i64 y.n) (.string y.b)
    exact bodyPost_ret (v := .agg #[.string y.k, .string y.t, .string y.f, .string y.o, .int .i64 y.n, .string y.b]) (results_cell_row (P := Tryz.prog) Tryz.results61 _ _ (w.heap.size + 1 + 1) 35 _ (0, 0) _ rfl hE Tryz.underlying35 rfl (by kernel_rfl)) rfl ⟨rfl, below_put6 HS1.out.2.2.2 (by omega) _ _ _ _ _ _⟩
  · rw [if_neg h5]
    have h6 : ((n2 : Int) == 5) = false := by simp; omega
    have h7 : ¬ (n2 : Int) = 5 := by omega
    clear h5
    go_enter Tryz.func61, Tryz.ntmps61
    go_wp2
    exact bodyPost_ret (v := .agg #[.string s.k, .string s.t, .string s.f, .string s.o, .int .i64 s.n, .string s.b]) (by simp [results, Tryz.results61, go_sem]) rfl ⟨rfl, (((Below.refl _ _).alloc (Nat.le_refl _) _).alloc (by simp) _).alloc (by simp; omega) _⟩
end Go.Proofs.YtpjmcpfmnlfmdaaGreat

namespace Go.Proofs.YtpjmcpfmnlfmdaaGreat
set_option linter.unusedSimpArgs false
set_option linter.unusedVariables false
open Go.RowKit Go.Joins

theorem adr_fit (s : ByteArray) : ∃ l d r c, jidReadV s = jo l d r c ∧ (addrE s = true → (l.toList == []) = !adrB s) ∧ (adrB s = true → l = locA s ∧ r = resA s) := by
  unfold jidReadV
  by_cases hb : 20000 < s.size
  · rw [if_pos hb]
    have hA := addr_big hb
    exact ⟨_, _, _, _, rfl, fun _ => by unfold adrB; rw [hA]; rw [is_empty]; rfl, fun h => by unfold adrB at h; rw [hA] at h; cases h⟩
  · rw [if_neg hb]
    cases hg : goodR s.data.toList
    · rw [if_neg (by decide)]
      have hA := addr_bad hg
      exact ⟨_, _, _, _, rfl, fun _ => by unfold adrB; rw [hA]; rw [is_empty]; rfl, fun h => by unfold adrB at h; rw [hA] at h; cases h⟩
    · rw [if_pos rfl]
      refine ⟨_, _, _, _, rfl, fun h => ?_, fun h => ⟨rfl, rfl⟩⟩
      rw [is_empty]
      unfold addrE at h
      unfold adrB locA
      rcases Bool.or_eq_true _ _ ▸ h with h0 | h0
      · have h1 : s.data.toList = [] := List.eq_nil_of_length_eq_zero (by rw [size_data]; simpa using h0)
        rw [h1]
        have h2 : (strOf (readL []).1).size = 0 := by rfl
        rw [h2]
        simp
      · rw [h0, Bool.true_and]
        by_cases h3 : (strOf (readL s.data.toList).1).size = 0
        · rw [h3]; rfl
        · rw [decide_eq_false h3, decide_eq_true (by omega)]; rfl
theorem jid_field (l d r : ByteArray) (c : Int) (W : World) : (Instr.field 84 (.agg #[.string l, .string d, .string r, .int .i64 c]) 0).run Tryz.prog W = .ok (.agg #[.string l, .string d, .string r]) W := by kernel_rfl
theorem own_cell10 {α : Type} {enc : α → List Value} {W : World} {B e size b i : Nat} {v u : Value} {xs : List α} (ho : OwnC enc W B e size v xs) (hne : ∀ j, v.ownBlock = some j → b ≠ j) : OwnC enc (W.setCell ⟨b, i, none⟩ u) B e size v xs := by
  refine ⟨ho.1, ?_⟩
  rcases ho.2 with h0 | ⟨j, c, cur, h1, h2, h3, h4⟩
  · exact .inl h0
  · exact .inr ⟨j, c, cur, h1, h2, (heap_setCell_other W ⟨b, i, none⟩ j u (fun e => hne j (by rw [h1]; rfl) e.symm)).trans h3, h4⟩
/-- The boxes of routed: the mailbox, the stanza, the treatment, the answer. -/
def RtB (w W : World) (p1 : Option Addr) (n1 c1 : Nat) (p2 : Option Addr) (n2 c2 : Nat) (s : MsL) (f1 f2 : Nat) : Prop := Arr W w.heap.size 33 [.slice p1 n1 c1, .slice p2 n2 c2] ∧ Arr W (w.heap.size + 1) 35 [.string s.k, .string s.t, .string s.f, .string s.o, .int .i64 s.n, .string s.b] ∧ Arr W (w.heap.size + 1 + 1) 59 [.func (.func f1) #[] #[], .func (.func f2) #[] #[]] ∧ Arr W (w.heap.size + 1 + 1 + 1) 37 [.slice none 0 0, .slice none 0 0, .slice none 0 0, .string ⟨#[]⟩, .string ⟨#[]⟩, .string ⟨#[]⟩, .string ⟨#[]⟩, .int .i64 0, .string ⟨#[]⟩, .int .i64 0] ∧ Below w.heap.size w W
theorem RtB.on {w W W2 : World} {p1 : Option Addr} {n1 c1 : Nat} {p2 : Option Addr} {n2 c2 : Nat} {s : MsL} {f1 f2 : Nat} (h : RtB w W p1 n1 c1 p2 n2 c2 s f1 f2) (hb : Below W.heap.size W W2) : RtB w W2 p1 n1 c1 p2 n2 c2 s f1 f2 := ⟨arr9_on h.1 hb, arr9_on h.2.1 hb, arr9_on h.2.2.1 hb, arr9_on h.2.2.2.1 hb, h.2.2.2.2.trans (hb.mono h.2.2.2.2.size)⟩
theorem RtB.grow {w W W2 : World} {p1 : Option Addr} {n1 c1 : Nat} {p2 : Option Addr} {n2 c2 : Nat} {s : MsL} {f1 f2 : Nat} {r : Option Nat} (h : RtB w W p1 n1 c1 p2 n2 c2 s f1 f2) (hg : W.grownBy W2 r) (hr : ∀ k, r = some k → w.heap.size + 4 ≤ k) : RtB w W2 p1 n1 c1 p2 n2 c2 s f1 f2 :=
  ⟨arr_beside10 h.1 hg (fun k hk => by have := hr k hk; omega), arr_beside10 h.2.1 hg (fun k hk => by have := hr k hk; omega), arr_beside10 h.2.2.1 hg (fun k hk => by have := hr k hk; omega), arr_beside10 h.2.2.2.1 hg (fun k hk => by have := hr k hk; omega), h.2.2.2.2.grown hg h.2.2.2.2.size (fun k hk => by have := hr k hk; omega)⟩
theorem RtB.put {w W : World} {p1 : Option Addr} {n1 c1 : Nat} {p2 : Option Addr} {n2 c2 : Nat} {s : MsL} {f1 f2 : Nat} (h : RtB w W p1 n1 c1 p2 n2 c2 s f1 f2) {b i : Nat} (u : Value) (hb : w.heap.size + 4 ≤ b) : RtB w (W.setCell ⟨b, i, none⟩ u) p1 n1 c1 p2 n2 c2 s f1 f2 :=
  ⟨arr_other h.1 _ _ _ (by omega), arr_other h.2.1 _ _ _ (by omega), arr_other h.2.2.1 _ _ _ (by omega), arr_other h.2.2.2.1 _ _ _ (by omega), h.2.2.2.2.setCell (p := ⟨b, i, none⟩) (by show w.heap.size ≤ b; omega) u⟩
theorem RtB.big {w W : World} {p1 : Option Addr} {n1 c1 : Nat} {p2 : Option Addr} {n2 c2 : Nat} {s : MsL} {f1 f2 : Nat} (h : RtB w W p1 n1 c1 p2 n2 c2 s f1 f2) : w.heap.size + 4 ≤ W.heap.size := by have := arr9_lt h.2.2.2.1; omega
theorem rtb_start (w : World) (p1 : Option Addr) (n1 c1 : Nat) (p2 : Option Addr) (n2 c2 : Nat) (s : MsL) (f1 f2 : Nat) : RtB w ((((w.alloc (.cells #[.slice p1 n1 c1, .slice p2 n2 c2] 33)).alloc (.cells #[.string s.k, .string s.t, .string s.f, .string s.o, .int .i64 s.n, .string s.b] 35)).alloc (.cells #[.func (.func f1) #[] #[], .func (.func f2) #[] #[]] 59)).alloc (.cells #[.slice none 0 0, .slice none 0 0, .slice none 0 0, .string ⟨#[]⟩, .string ⟨#[]⟩, .string ⟨#[]⟩, .string ⟨#[]⟩, .int .i64 0, .string ⟨#[]⟩, .int .i64 0] 37)) p1 n1 c1 p2 n2 c2 s f1 f2 := by
  have h1 := Arr.fresh (w.alloc (.cells #[.slice p1 n1 c1, .slice p2 n2 c2] 33)) 35 [.string s.k, .string s.t, .string s.f, .string s.o, .int .i64 s.n, .string s.b]
  have h2 := Arr.fresh ((w.alloc (.cells #[.slice p1 n1 c1, .slice p2 n2 c2] 33)).alloc (.cells #[.string s.k, .string s.t, .string s.f, .string s.o, .int .i64 s.n, .string s.b] 35)) 59 [.func (.func f1) #[] #[], .func (.func f2) #[] #[]]
  have h3 := Arr.fresh (((w.alloc (.cells #[.slice p1 n1 c1, .slice p2 n2 c2] 33)).alloc (.cells #[.string s.k, .string s.t, .string s.f, .string s.o, .int .i64 s.n, .string s.b] 35)).alloc (.cells #[.func (.func f1) #[] #[], .func (.func f2) #[] #[]] 59)) 37 [.slice none 0 0, .slice none 0 0, .slice none 0 0, .string ⟨#[]⟩, .string ⟨#[]⟩, .string ⟨#[]⟩, .string ⟨#[]⟩, .int .i64 0, .string ⟨#[]⟩, .int .i64 0]
  simp only [World.size_alloc] at h1 h2 h3
  have al : ∀ (W : World) (o : Obj), Below W.heap.size W (W.alloc o) := fun W o => (Below.refl _ _).alloc (Nat.le_refl _) _
  exact ⟨arr9_on (arr9_on (arr9_on (Arr.fresh w 33 [.slice p1 n1 c1, .slice p2 n2 c2]) (al _ _)) (al _ _)) (al _ _), arr9_on (arr9_on h1 (al _ _)) (al _ _), arr9_on h2 (al _ _), h3, ((((Below.refl _ _).alloc (Nat.le_refl _) _).alloc (by simp) _).alloc (by simp; omega) _).alloc (by simp; omega) _⟩
/-- What routed answers. -/
noncomputable def rtdR (k : ByteArray) (xs : List SeL) (ys : List MsL) (s : MsL) (tl : List ByteArray) (y : MsL) : RoL :=
  open Classical in if routB k xs ys s = true then (if tl.length ≠ 0 then ⟨xs, ys, tl, zMs, 0⟩ else if y = s then ⟨xs, ys ++ [s], [], zMs, 0⟩ else ⟨xs, ys, [], y, 0⟩) else illM 1
theorem arr_far10 {w : World} {g g2 t : Nat} {cs : List Value} (h : Arr w g t cs) (hne : g ≠ g2) (b0 b1 b2 b3 b4 b5 b6 b7 b8 b9 : Value) : Arr (put10 w g2 b0 b1 b2 b3 b4 b5 b6 b7 b8 b9) g t cs :=
  arr_other (arr_other (arr_other (arr_other (arr_other (arr_other (arr_other (arr_other (arr_other (arr_other h _ _ _ hne) _ _ _ hne) _ _ _ hne) _ _ _ hne) _ _ _ hne) _ _ _ hne) _ _ _ hne) _ _ _ hne) _ _ _ hne) _ _ _ hne
theorem own_far10 {α : Type} {enc : α → List Value} {W : World} {B e size b : Nat} {v : Value} {xs : List α} (h : OwnC enc W B e size v xs) (hne : ∀ j, v.ownBlock = some j → b ≠ j) (b0 b1 b2 b3 b4 b5 b6 b7 b8 b9 : Value) : OwnC enc (put10 W b b0 b1 b2 b3 b4 b5 b6 b7 b8 b9) B e size v xs :=
  own_cell10 (own_cell10 (own_cell10 (own_cell10 (own_cell10 (own_cell10 (own_cell10 (own_cell10 (own_cell10 (own_cell10 h hne) hne) hne) hne) hne) hne) hne) hne) hne) hne
def put6b (w : World) (g : Nat) (a b c d e f : Value) : World := (((((w.setCell ⟨g, 3, none⟩ a).setCell ⟨g, 4, none⟩ b).setCell ⟨g, 5, none⟩ c).setCell ⟨g, 6, none⟩ d).setCell ⟨g, 7, none⟩ e).setCell ⟨g, 8, none⟩ f
theorem own_put6b {α : Type} {enc : α → List Value} {W : World} {B e size b : Nat} {v : Value} {xs : List α} (h : OwnC enc W B e size v xs) (hne : ∀ j, v.ownBlock = some j → b ≠ j) (x0 x1 x2 x3 x4 x5 : Value) : OwnC enc (put6b W b x0 x1 x2 x3 x4 x5) B e size v xs :=
  own_cell10 (own_cell10 (own_cell10 (own_cell10 (own_cell10 (own_cell10 h hne) hne) hne) hne) hne) hne
theorem RtB.put6b {w W : World} {p1 : Option Addr} {n1 c1 : Nat} {p2 : Option Addr} {n2 c2 : Nat} {s : MsL} {f1 f2 : Nat} (h : RtB w W p1 n1 c1 p2 n2 c2 s f1 f2) {b : Nat} (hb : w.heap.size + 4 ≤ b) (x0 x1 x2 x3 x4 x5 : Value) : RtB w (Go.Proofs.YtpjmcpfmnlfmdaaGreat.put6b W b x0 x1 x2 x3 x4 x5) p1 n1 c1 p2 n2 c2 s f1 f2 :=
  (((((h.put x0 hb).put x1 hb).put x2 hb).put x3 hb).put x4 hb).put x5 hb
theorem RtB.put10 {w W : World} {p1 : Option Addr} {n1 c1 : Nat} {p2 : Option Addr} {n2 c2 : Nat} {s : MsL} {f1 f2 : Nat} (h : RtB w W p1 n1 c1 p2 n2 c2 s f1 f2) {b : Nat} (hb : w.heap.size + 4 ≤ b) (b0 b1 b2 b3 b4 b5 b6 b7 b8 b9 : Value) : RtB w (Go.Proofs.YtpjmcpfmnlfmdaaGreat.put10 W b b0 b1 b2 b3 b4 b5 b6 b7 b8 b9) p1 n1 c1 p2 n2 c2 s f1 f2 :=
  (((((((((h.put b0 hb).put b1 hb).put b2 hb).put b3 hb).put b4 hb).put b5 hb).put b6 hb).put b7 hb).put b8 hb).put b9 hb
theorem arr_3j {w : World} {g t : Nat} {a b c : Value} (h : Arr w g t [a, b, c]) : (w.cell? ⟨g, 0, none⟩ = some a ∧ w.cell? ⟨g, 1, none⟩ = some b ∧ w.cell? ⟨g, 2, none⟩ = some c) ∧ g < w.heap.size := ⟨⟨h.cell 0, h.cell 1, h.cell 2⟩, arr9_lt h⟩
set_option maxRecDepth 100000 in
set_option maxHeartbeats 8000000 in
theorem impl_routed (k : ByteArray) (xs : List SeL) (ys : List MsL) (p1 p2 : Option Addr) (n1 n2 c1 c2 : Nat) (s : MsL) (tl : List ByteArray) (y : MsL) (f1 f2 : Nat) (w : World) (hx : xs.length = n1) (hy : ys.length = n2) (hn1 : n1 ≤ 1048576) (hn2 : n2 ≤ 1048576) (hw : SzS xs) (hw2 : SzM ys) (hs : s.le 1048576) (hR1 : RowC seC 4 w p1 xs) (hR2 : RowC msC 6 w p2 ys) (hm : MaxL w)
    (hcmp : routB k xs ys s = true → y = s ∨ (y.k.toList == s.k.toList) = false ∨ (y.k.toList == s.k.toList) = true ∧ (y.t.toList == s.t.toList) = false)
    (hcall1 : ∀ args W, (callFunc f1 args).run Tryz.prog W = .ok (.enter f1 args) W) (hcall2 : ∀ args W, (callFunc f2 args).run Tryz.prog W = .ok (.enter f2 args) W)
    (h1 : ∀ W, routB k xs ys s = true → RowC seC 4 W p1 xs → Calls Tryz.prog f1 #[.slice p1 n1 c1, .string (resA s.o)] W fun e w' => StIs W.heap.size tl e w' ∧ Below W.heap.size W w')
    (h2 : ∀ W, routB k xs ys s = true → MaxL W → Calls Tryz.prog f2 #[.agg #[.slice p1 n1 c1, .slice p2 n2 c2], msV s] W fun e w' => e = .returned (msV y) ∧ Below W.heap.size W w') :
    Calls Tryz.prog 29 #[.agg #[.slice p1 n1 c1, .slice p2 n2 c2], .agg #[.string s.k, .string s.t, .string s.f, .string s.o, .int .i64 s.n, .string s.b], .string k, .agg #[.func (.func f1) #[] #[], .func (.func f2) #[] #[]]] w fun e w' => RoIs w.heap.size (rtdR k xs ys s tl y) e w' ∧ Below w.heap.size w w' := by
  obtain ⟨z0, z1, z2, z3, z4⟩ := hs
  obtain ⟨l, d, r, c, hjv, hl1, hl2⟩ := adr_fit s.o
  have i1 := fun W hm => impl_read s.o W (by unfold maxLen; omega) hm
  rw [hjv] at i1
  unfold jo at i1
  have fld := fun W => jid_field l d r c W
  have i2 := fun W h1 h2 hm => impl_mbright xs ys p1 p2 n1 n2 c1 c2 W hx hy hn1 hn2 hw hw2 h1 h2 hm
  have i3 := fun W hm => impl_stright s.k s.t s.f s.o s.n s.b W (by unfold maxLen; omega) (by unfold maxLen; omega) (by unfold maxLen; omega) (by unfold maxLen; omega) hm
  have HR := Lib.hid (rtb_start w p1 n1 c1 p2 n2 c2 s f1 f2)
  have HM := Lib.hid (fun W (h : Below w.heap.size w W) => hm.below h hm.pos)
  have HP1 := Lib.hid (fun W (h : Below w.heap.size w W) => hR1.on h)
  have HP2 := Lib.hid (fun W (h : Below w.heap.size w W) => hR2.on h)
  cases hmb : mbB xs ys
  · rw [show rtdR k xs ys s tl y = illM 1 by unfold rtdR routB; rw [hmb]; rfl]
    rw [hmb] at i2
    clear hmb hx hy hw hw2 hR1 hR2 hm h1 h2 hjv hl1 hl2 i3 hcmp
    go_enter Tryz.func29, Tryz.ntmps29
    go_wp2_with (first
      | (go_at_call 52; go_fit (i1 _ (HM.out _ HR.out.2.2.2.2)); rintro e w1 ⟨rfl, hb⟩; have HR1 := Lib.hid (HR.out.on hb); have HR1a := Lib.hid (HR1.out.on ((Below.refl _ _).alloc (Nat.le_refl _) (.cells #[.string l, .string d, .string r] 74))); have HJ1a := Lib.hid (Arr.fresh w1 74 [.string l, .string d, .string r]); clear hb; obtain ⟨⟨m0, m1⟩, _⟩ := arr9_two HR1.out.1; obtain ⟨⟨s0, s1, s2, s3, s4, s5⟩, _⟩ := arr_six0 HR1.out.2.1; obtain ⟨⟨t0, t1⟩, _⟩ := arr9_two HR1.out.2.2.1; obtain ⟨⟨r0, r1, r2, r3, r4, r5, r6, r7, r8, r9⟩, u0, u1, u2, u3, u4, u5, u6, u7, u8, u9⟩ := ten_all HR1.out.2.2.2.1; have hzA := arr9_lt HR1.out.1; have hzB := arr9_lt HR1.out.2.1; have hzC := arr9_lt HR1.out.2.2.1; have hzD := arr9_lt HR1.out.2.2.2.1)
      | (go_at_call 53; go_fit (i2 _ (HP1.out _ HR1a.out.2.2.2.2) (HP2.out _ HR1a.out.2.2.2.2) (HM.out _ HR1a.out.2.2.2.2)); rintro e w2 ⟨rfl, hb⟩; have HR2 := Lib.hid (HR1a.out.on hb); have HJ2 := Lib.hid (arr9_on HJ1a.out hb); clear hb; obtain ⟨⟨m0, m1⟩, _⟩ := arr9_two HR2.out.1; obtain ⟨⟨s0, s1, s2, s3, s4, s5⟩, _⟩ := arr_six0 HR2.out.2.1; obtain ⟨⟨t0, t1⟩, _⟩ := arr9_two HR2.out.2.2.1; obtain ⟨⟨r0, r1, r2, r3, r4, r5, r6, r7, r8, r9⟩, u0, u1, u2, u3, u4, u5, u6, u7, u8, u9⟩ := ten_all HR2.out.2.2.2.1; have hzA := arr9_lt HR2.out.1; have hzB := arr9_lt HR2.out.2.1; have hzC := arr9_lt HR2.out.2.2.1; have hzD := arr9_lt HR2.out.2.2.2.1; obtain ⟨⟨j0, j1, j2⟩, _⟩ := arr_3j HJ2.out))
    exact bodyPost_ret (v := .agg #[.slice none 0 0, .slice none 0 0, .slice none 0 0, .string ⟨#[]⟩, .string ⟨#[]⟩, .string ⟨#[]⟩, .string ⟨#[]⟩, .int .i64 0, .string ⟨#[]⟩, .int .i64 1]) (results_cell_row (P := Tryz.prog) Tryz.results29 _ _ (w.heap.size + 1 + 1 + 1) 37 _ (0, 0) _ rfl (arr_put10 HR2.out.2.2.2.1 (.slice none 0 0) (.slice none 0 0) (.slice none 0 0) (.string ⟨#[]⟩) (.string ⟨#[]⟩) (.string ⟨#[]⟩) (.string ⟨#[]⟩) (.int .i64 0) (.string ⟨#[]⟩) (.int .i64 1)) Tryz.underlying37 rfl (by kernel_rfl)) rfl ⟨ro_ill _ _ _, below_put10 HR2.out.2.2.2.2 (by omega) (.slice none 0 0) (.slice none 0 0) (.slice none 0 0) (.string ⟨#[]⟩) (.string ⟨#[]⟩) (.string ⟨#[]⟩) (.string ⟨#[]⟩) (.int .i64 0) (.string ⟨#[]⟩) (.int .i64 1)⟩
  rw [hmb] at i2
  cases hst : stB s.k s.t s.f s.o s.n s.b
  · rw [show rtdR k xs ys s tl y = illM 1 by unfold rtdR routB msB; rw [hmb, hst]; rfl]
    rw [hst] at i3
    clear hmb hst hx hy hw hw2 hR1 hR2 hm h1 h2 hjv hl1 hl2 hcmp
    go_enter Tryz.func29, Tryz.ntmps29
    go_wp2_with (first
      | (go_at_call 52; go_fit (i1 _ (HM.out _ HR.out.2.2.2.2)); rintro e w1 ⟨rfl, hb⟩; have HR1 := Lib.hid (HR.out.on hb); have HR1a := Lib.hid (HR1.out.on ((Below.refl _ _).alloc (Nat.le_refl _) (.cells #[.string l, .string d, .string r] 74))); have HJ1a := Lib.hid (Arr.fresh w1 74 [.string l, .string d, .string r]); clear hb; obtain ⟨⟨m0, m1⟩, _⟩ := arr9_two HR1.out.1; obtain ⟨⟨s0, s1, s2, s3, s4, s5⟩, _⟩ := arr_six0 HR1.out.2.1; obtain ⟨⟨t0, t1⟩, _⟩ := arr9_two HR1.out.2.2.1; obtain ⟨⟨r0, r1, r2, r3, r4, r5, r6, r7, r8, r9⟩, u0, u1, u2, u3, u4, u5, u6, u7, u8, u9⟩ := ten_all HR1.out.2.2.2.1; have hzA := arr9_lt HR1.out.1; have hzB := arr9_lt HR1.out.2.1; have hzC := arr9_lt HR1.out.2.2.1; have hzD := arr9_lt HR1.out.2.2.2.1)
      | (go_at_call 53; go_fit (i2 _ (HP1.out _ HR1a.out.2.2.2.2) (HP2.out _ HR1a.out.2.2.2.2) (HM.out _ HR1a.out.2.2.2.2)); rintro e w2 ⟨rfl, hb⟩; have HR2 := Lib.hid (HR1a.out.on hb); have HJ2 := Lib.hid (arr9_on HJ1a.out hb); clear hb; obtain ⟨⟨m0, m1⟩, _⟩ := arr9_two HR2.out.1; obtain ⟨⟨s0, s1, s2, s3, s4, s5⟩, _⟩ := arr_six0 HR2.out.2.1; obtain ⟨⟨t0, t1⟩, _⟩ := arr9_two HR2.out.2.2.1; obtain ⟨⟨r0, r1, r2, r3, r4, r5, r6, r7, r8, r9⟩, u0, u1, u2, u3, u4, u5, u6, u7, u8, u9⟩ := ten_all HR2.out.2.2.2.1; have hzA := arr9_lt HR2.out.1; have hzB := arr9_lt HR2.out.2.1; have hzC := arr9_lt HR2.out.2.2.1; have hzD := arr9_lt HR2.out.2.2.2.1; obtain ⟨⟨j0, j1, j2⟩, _⟩ := arr_3j HJ2.out)
      | (go_at_call 54; have _ := HR2; go_fit (i3 _ (HM.out _ HR2.out.2.2.2.2)); rintro e w3 ⟨rfl, hb⟩; have HR3 := Lib.hid (HR2.out.on hb); have HJ3 := Lib.hid (arr9_on HJ2.out hb); clear hb; obtain ⟨⟨m0, m1⟩, _⟩ := arr9_two HR3.out.1; obtain ⟨⟨s0, s1, s2, s3, s4, s5⟩, _⟩ := arr_six0 HR3.out.2.1; obtain ⟨⟨t0, t1⟩, _⟩ := arr9_two HR3.out.2.2.1; obtain ⟨⟨r0, r1, r2, r3, r4, r5, r6, r7, r8, r9⟩, u0, u1, u2, u3, u4, u5, u6, u7, u8, u9⟩ := ten_all HR3.out.2.2.2.1; have hzA := arr9_lt HR3.out.1; have hzB := arr9_lt HR3.out.2.1; have hzC := arr9_lt HR3.out.2.2.1; have hzD := arr9_lt HR3.out.2.2.2.1; obtain ⟨⟨j0, j1, j2⟩, _⟩ := arr_3j HJ3.out))
    exact bodyPost_ret (v := .agg #[.slice none 0 0, .slice none 0 0, .slice none 0 0, .string ⟨#[]⟩, .string ⟨#[]⟩, .string ⟨#[]⟩, .string ⟨#[]⟩, .int .i64 0, .string ⟨#[]⟩, .int .i64 1]) (results_cell_row (P := Tryz.prog) Tryz.results29 _ _ (w.heap.size + 1 + 1 + 1) 37 _ (0, 0) _ rfl (arr_put10 HR3.out.2.2.2.1 (.slice none 0 0) (.slice none 0 0) (.slice none 0 0) (.string ⟨#[]⟩) (.string ⟨#[]⟩) (.string ⟨#[]⟩) (.string ⟨#[]⟩) (.int .i64 0) (.string ⟨#[]⟩) (.int .i64 1)) Tryz.underlying37 rfl (by kernel_rfl)) rfl ⟨ro_ill _ _ _, below_put10 HR3.out.2.2.2.2 (by omega) (.slice none 0 0) (.slice none 0 0) (.slice none 0 0) (.string ⟨#[]⟩) (.string ⟨#[]⟩) (.string ⟨#[]⟩) (.string ⟨#[]⟩) (.int .i64 0) (.string ⟨#[]⟩) (.int .i64 1)⟩
  rw [hst] at i3
  cases hkk : (s.k.toList == k.toList)
  · rw [show rtdR k xs ys s tl y = illM 1 by unfold rtdR routB msB; rw [hmb, hst, hkk]; rfl]
    clear hmb hst hx hy hw hw2 hR1 hR2 hm h1 h2 hjv hl1 hl2 hcmp
    go_enter Tryz.func29, Tryz.ntmps29
    go_wp2_with (first
      | (go_at_call 52; go_fit (i1 _ (HM.out _ HR.out.2.2.2.2)); rintro e w1 ⟨rfl, hb⟩; have HR1 := Lib.hid (HR.out.on hb); have HR1a := Lib.hid (HR1.out.on ((Below.refl _ _).alloc (Nat.le_refl _) (.cells #[.string l, .string d, .string r] 74))); have HJ1a := Lib.hid (Arr.fresh w1 74 [.string l, .string d, .string r]); clear hb; obtain ⟨⟨m0, m1⟩, _⟩ := arr9_two HR1.out.1; obtain ⟨⟨s0, s1, s2, s3, s4, s5⟩, _⟩ := arr_six0 HR1.out.2.1; obtain ⟨⟨t0, t1⟩, _⟩ := arr9_two HR1.out.2.2.1; obtain ⟨⟨r0, r1, r2, r3, r4, r5, r6, r7, r8, r9⟩, u0, u1, u2, u3, u4, u5, u6, u7, u8, u9⟩ := ten_all HR1.out.2.2.2.1; have hzA := arr9_lt HR1.out.1; have hzB := arr9_lt HR1.out.2.1; have hzC := arr9_lt HR1.out.2.2.1; have hzD := arr9_lt HR1.out.2.2.2.1)
      | (go_at_call 53; go_fit (i2 _ (HP1.out _ HR1a.out.2.2.2.2) (HP2.out _ HR1a.out.2.2.2.2) (HM.out _ HR1a.out.2.2.2.2)); rintro e w2 ⟨rfl, hb⟩; have HR2 := Lib.hid (HR1a.out.on hb); have HJ2 := Lib.hid (arr9_on HJ1a.out hb); clear hb; obtain ⟨⟨m0, m1⟩, _⟩ := arr9_two HR2.out.1; obtain ⟨⟨s0, s1, s2, s3, s4, s5⟩, _⟩ := arr_six0 HR2.out.2.1; obtain ⟨⟨t0, t1⟩, _⟩ := arr9_two HR2.out.2.2.1; obtain ⟨⟨r0, r1, r2, r3, r4, r5, r6, r7, r8, r9⟩, u0, u1, u2, u3, u4, u5, u6, u7, u8, u9⟩ := ten_all HR2.out.2.2.2.1; have hzA := arr9_lt HR2.out.1; have hzB := arr9_lt HR2.out.2.1; have hzC := arr9_lt HR2.out.2.2.1; have hzD := arr9_lt HR2.out.2.2.2.1; obtain ⟨⟨j0, j1, j2⟩, _⟩ := arr_3j HJ2.out)
      | (go_at_call 54; have _ := HR2; go_fit (i3 _ (HM.out _ HR2.out.2.2.2.2)); rintro e w3 ⟨rfl, hb⟩; have HR3 := Lib.hid (HR2.out.on hb); have HJ3 := Lib.hid (arr9_on HJ2.out hb); clear hb; obtain ⟨⟨m0, m1⟩, _⟩ := arr9_two HR3.out.1; obtain ⟨⟨s0, s1, s2, s3, s4, s5⟩, _⟩ := arr_six0 HR3.out.2.1; obtain ⟨⟨t0, t1⟩, _⟩ := arr9_two HR3.out.2.2.1; obtain ⟨⟨r0, r1, r2, r3, r4, r5, r6, r7, r8, r9⟩, u0, u1, u2, u3, u4, u5, u6, u7, u8, u9⟩ := ten_all HR3.out.2.2.2.1; have hzA := arr9_lt HR3.out.1; have hzB := arr9_lt HR3.out.2.1; have hzC := arr9_lt HR3.out.2.2.1; have hzD := arr9_lt HR3.out.2.2.2.1; obtain ⟨⟨j0, j1, j2⟩, _⟩ := arr_3j HJ3.out))
    exact bodyPost_ret (v := .agg #[.slice none 0 0, .slice none 0 0, .slice none 0 0, .string ⟨#[]⟩, .string ⟨#[]⟩, .string ⟨#[]⟩, .string ⟨#[]⟩, .int .i64 0, .string ⟨#[]⟩, .int .i64 1]) (results_cell_row (P := Tryz.prog) Tryz.results29 _ _ (w.heap.size + 1 + 1 + 1) 37 _ (0, 0) _ rfl (arr_put10 HR3.out.2.2.2.1 (.slice none 0 0) (.slice none 0 0) (.slice none 0 0) (.string ⟨#[]⟩) (.string ⟨#[]⟩) (.string ⟨#[]⟩) (.string ⟨#[]⟩) (.int .i64 0) (.string ⟨#[]⟩) (.int .i64 1)) Tryz.underlying37 rfl (by kernel_rfl)) rfl ⟨ro_ill _ _ _, below_put10 HR3.out.2.2.2.2 (by omega) (.slice none 0 0) (.slice none 0 0) (.slice none 0 0) (.string ⟨#[]⟩) (.string ⟨#[]⟩) (.string ⟨#[]⟩) (.string ⟨#[]⟩) (.int .i64 0) (.string ⟨#[]⟩) (.int .i64 1)⟩
  have hle : (l.toList == []) = !adrB s.o := hl1 (by unfold stB at hst; simp only [Bool.and_eq_true] at hst; exact hst.1.1.2)
  cases had : adrB s.o
  · rw [show rtdR k xs ys s tl y = illM 1 by unfold rtdR routB msB; rw [hmb, hst, hkk, had]; rfl]
    rw [had] at hle
    have hl0 : l = ⟨#[]⟩ := ba_ext (by simpa using hle)
    subst hl0
    clear hmb hst hx hy hw hw2 hR1 hR2 hm h1 h2 hjv hl1 hl2 hle had hcmp
    go_enter Tryz.func29, Tryz.ntmps29
    go_wp2_with (first
      | (go_at_call 52; go_fit (i1 _ (HM.out _ HR.out.2.2.2.2)); rintro e w1 ⟨rfl, hb⟩; have HR1 := Lib.hid (HR.out.on hb); have HR1a := Lib.hid (HR1.out.on ((Below.refl _ _).alloc (Nat.le_refl _) (.cells #[.string ⟨#[]⟩, .string d, .string r] 74))); have HJ1a := Lib.hid (Arr.fresh w1 74 [.string ⟨#[]⟩, .string d, .string r]); clear hb; obtain ⟨⟨m0, m1⟩, _⟩ := arr9_two HR1.out.1; obtain ⟨⟨s0, s1, s2, s3, s4, s5⟩, _⟩ := arr_six0 HR1.out.2.1; obtain ⟨⟨t0, t1⟩, _⟩ := arr9_two HR1.out.2.2.1; obtain ⟨⟨r0, r1, r2, r3, r4, r5, r6, r7, r8, r9⟩, u0, u1, u2, u3, u4, u5, u6, u7, u8, u9⟩ := ten_all HR1.out.2.2.2.1; have hzA := arr9_lt HR1.out.1; have hzB := arr9_lt HR1.out.2.1; have hzC := arr9_lt HR1.out.2.2.1; have hzD := arr9_lt HR1.out.2.2.2.1)
      | (go_at_call 53; go_fit (i2 _ (HP1.out _ HR1a.out.2.2.2.2) (HP2.out _ HR1a.out.2.2.2.2) (HM.out _ HR1a.out.2.2.2.2)); rintro e w2 ⟨rfl, hb⟩; have HR2 := Lib.hid (HR1a.out.on hb); have HJ2 := Lib.hid (arr9_on HJ1a.out hb); clear hb; obtain ⟨⟨m0, m1⟩, _⟩ := arr9_two HR2.out.1; obtain ⟨⟨s0, s1, s2, s3, s4, s5⟩, _⟩ := arr_six0 HR2.out.2.1; obtain ⟨⟨t0, t1⟩, _⟩ := arr9_two HR2.out.2.2.1; obtain ⟨⟨r0, r1, r2, r3, r4, r5, r6, r7, r8, r9⟩, u0, u1, u2, u3, u4, u5, u6, u7, u8, u9⟩ := ten_all HR2.out.2.2.2.1; have hzA := arr9_lt HR2.out.1; have hzB := arr9_lt HR2.out.2.1; have hzC := arr9_lt HR2.out.2.2.1; have hzD := arr9_lt HR2.out.2.2.2.1; obtain ⟨⟨j0, j1, j2⟩, _⟩ := arr_3j HJ2.out)
      | (go_at_call 54; have _ := HR2; go_fit (i3 _ (HM.out _ HR2.out.2.2.2.2)); rintro e w3 ⟨rfl, hb⟩; have HR3 := Lib.hid (HR2.out.on hb); have HJ3 := Lib.hid (arr9_on HJ2.out hb); clear hb; obtain ⟨⟨m0, m1⟩, _⟩ := arr9_two HR3.out.1; obtain ⟨⟨s0, s1, s2, s3, s4, s5⟩, _⟩ := arr_six0 HR3.out.2.1; obtain ⟨⟨t0, t1⟩, _⟩ := arr9_two HR3.out.2.2.1; obtain ⟨⟨r0, r1, r2, r3, r4, r5, r6, r7, r8, r9⟩, u0, u1, u2, u3, u4, u5, u6, u7, u8, u9⟩ := ten_all HR3.out.2.2.2.1; have hzA := arr9_lt HR3.out.1; have hzB := arr9_lt HR3.out.2.1; have hzC := arr9_lt HR3.out.2.2.1; have hzD := arr9_lt HR3.out.2.2.2.1; obtain ⟨⟨j0, j1, j2⟩, _⟩ := arr_3j HJ3.out))
    exact bodyPost_ret (v := .agg #[.slice none 0 0, .slice none 0 0, .slice none 0 0, .string ⟨#[]⟩, .string ⟨#[]⟩, .string ⟨#[]⟩, .string ⟨#[]⟩, .int .i64 0, .string ⟨#[]⟩, .int .i64 1]) (results_cell_row (P := Tryz.prog) Tryz.results29 _ _ (w.heap.size + 1 + 1 + 1) 37 _ (0, 0) _ rfl (arr_put10 HR3.out.2.2.2.1 (.slice none 0 0) (.slice none 0 0) (.slice none 0 0) (.string ⟨#[]⟩) (.string ⟨#[]⟩) (.string ⟨#[]⟩) (.string ⟨#[]⟩) (.int .i64 0) (.string ⟨#[]⟩) (.int .i64 1)) Tryz.underlying37 rfl (by kernel_rfl)) rfl ⟨ro_ill _ _ _, below_put10 HR3.out.2.2.2.2 (by omega) (.slice none 0 0) (.slice none 0 0) (.slice none 0 0) (.string ⟨#[]⟩) (.string ⟨#[]⟩) (.string ⟨#[]⟩) (.string ⟨#[]⟩) (.int .i64 0) (.string ⟨#[]⟩) (.int .i64 1)⟩
  have hrt : routB k xs ys s = true := by unfold routB msB; rw [hmb, hst, hkk, had]; rfl
  obtain ⟨e1, e2⟩ := hl2 had
  subst e2
  rw [had] at hle
  have hle2 : (l.toList == []) = false := hle
  have hle3 : l.toList ≠ [] := by simpa using hle2
  have i4 := fun W h1 h2 => impl_mbcopy xs ys p1 p2 n1 n2 c1 c2 W hx hy hn1 hn2 hw hw2 h1 h2
  have i5 := fun W => impl_stcopy s.k s.t s.f s.o s.n s.b W (by omega) (by omega) (by omega) (by omega) (by omega)
  replace hcmp := hcmp hrt
  have i6 := fun W h => h1 W hrt h
  have i7 := fun W h => h2 W hrt h
  unfold StIs at i6
  unfold msV at i7
  have h5 := (mb_parts hmb).2.1
  have HX := Lib.hid hx
  have HY := Lib.hid hy
  have hRT : rtdR k xs ys s tl y = (open Classical in if tl.length ≠ 0 then ⟨xs, ys, tl, zMs, 0⟩ else if y = s then ⟨xs, ys ++ [s], [], zMs, 0⟩ else ⟨xs, ys, [], y, 0⟩) := by unfold rtdR; rw [if_pos hrt]
  rw [hRT]
  obtain ⟨R, hRR⟩ : ∃ R, (open Classical in if tl.length ≠ 0 then (⟨xs, ys, tl, zMs, 0⟩ : RoL) else if y = s then ⟨xs, ys ++ [s], [], zMs, 0⟩ else ⟨xs, ys, [], y, 0⟩) = R := ⟨_, rfl⟩
  rw [hRR]
  have HRR := Lib.hid hRR
  have hm5 : n2 ≤ 5 := by rw [← hy]; exact h5
  clear hmb hst hx hy hw hw2 hR1 hR2 hm h1 h2 hjv hl1 hl2 hle had hrt hRT hRR e1 h5
  go_enter Tryz.func29, Tryz.ntmps29
  go_wp2_with (first
    | (go_at_call 52; go_fit (i1 _ (HM.out _ HR.out.2.2.2.2)); rintro e w1 ⟨rfl, hb⟩; have HR1 := Lib.hid (HR.out.on hb); have HR1a := Lib.hid (HR1.out.on ((Below.refl _ _).alloc (Nat.le_refl _) (.cells #[.string l, .string d, .string (resA s.o)] 74))); have HJ1a := Lib.hid (Arr.fresh w1 74 [.string l, .string d, .string (resA s.o)]); clear hb; obtain ⟨⟨m0, m1⟩, _⟩ := arr9_two HR1.out.1; obtain ⟨⟨s0, s1, s2, s3, s4, s5⟩, _⟩ := arr_six0 HR1.out.2.1; obtain ⟨⟨t0, t1⟩, _⟩ := arr9_two HR1.out.2.2.1; obtain ⟨⟨r0, r1, r2, r3, r4, r5, r6, r7, r8, r9⟩, u0, u1, u2, u3, u4, u5, u6, u7, u8, u9⟩ := ten_all HR1.out.2.2.2.1; have hzA := arr9_lt HR1.out.1; have hzB := arr9_lt HR1.out.2.1; have hzC := arr9_lt HR1.out.2.2.1; have hzD := arr9_lt HR1.out.2.2.2.1)
    | (go_at_call 53; go_fit (i2 _ (HP1.out _ HR1a.out.2.2.2.2) (HP2.out _ HR1a.out.2.2.2.2) (HM.out _ HR1a.out.2.2.2.2)); rintro e w2 ⟨rfl, hb⟩; have HR2 := Lib.hid (HR1a.out.on hb); have HJ2 := Lib.hid (arr9_on HJ1a.out hb); clear hb; obtain ⟨⟨m0, m1⟩, _⟩ := arr9_two HR2.out.1; obtain ⟨⟨s0, s1, s2, s3, s4, s5⟩, _⟩ := arr_six0 HR2.out.2.1; obtain ⟨⟨t0, t1⟩, _⟩ := arr9_two HR2.out.2.2.1; obtain ⟨⟨r0, r1, r2, r3, r4, r5, r6, r7, r8, r9⟩, u0, u1, u2, u3, u4, u5, u6, u7, u8, u9⟩ := ten_all HR2.out.2.2.2.1; have hzA := arr9_lt HR2.out.1; have hzB := arr9_lt HR2.out.2.1; have hzC := arr9_lt HR2.out.2.2.1; have hzD := arr9_lt HR2.out.2.2.2.1; obtain ⟨⟨j0, j1, j2⟩, _⟩ := arr_3j HJ2.out)
    | (go_at_call 54; have _ := HR2; go_fit (i3 _ (HM.out _ HR2.out.2.2.2.2)); rintro e w3 ⟨rfl, hb⟩; have HR3 := Lib.hid (HR2.out.on hb); have HJ3 := Lib.hid (arr9_on HJ2.out hb); clear hb; obtain ⟨⟨m0, m1⟩, _⟩ := arr9_two HR3.out.1; obtain ⟨⟨s0, s1, s2, s3, s4, s5⟩, _⟩ := arr_six0 HR3.out.2.1; obtain ⟨⟨t0, t1⟩, _⟩ := arr9_two HR3.out.2.2.1; obtain ⟨⟨r0, r1, r2, r3, r4, r5, r6, r7, r8, r9⟩, u0, u1, u2, u3, u4, u5, u6, u7, u8, u9⟩ := ten_all HR3.out.2.2.2.1; have hzA := arr9_lt HR3.out.1; have hzB := arr9_lt HR3.out.2.1; have hzC := arr9_lt HR3.out.2.2.1; have hzD := arr9_lt HR3.out.2.2.2.1; obtain ⟨⟨j0, j1, j2⟩, _⟩ := arr_3j HJ3.out))
  refine region_join [36, 37, 38, 39, 40, 41, 42, 43, 44, 45, 10] (fun vs W => ∃ b q1 l1 q2 l2 q3 l3, vs 10 = .pointer (some ⟨b, 0, none⟩) ∧ w.heap.size + 4 ≤ b ∧ Arr W b 37 [.slice q1 n1 l1, .slice q2 n2 l2, .slice q3 tl.length l3, .string ⟨#[]⟩, .string ⟨#[]⟩, .string ⟨#[]⟩, .string ⟨#[]⟩, .int .i64 0, .string ⟨#[]⟩, .int .i64 0] ∧ RtB w W p1 n1 c1 p2 n2 c2 s f1 f2 ∧ OwnC seC W (w.heap.size + 4) 70 4 (.slice q1 n1 l1) xs ∧ OwnC msC W (w.heap.size + 4) 35 6 (.slice q2 n2 l2) ys ∧ OwnC strC W (w.heap.size + 4) 9 1 (.slice q3 tl.length l3) tl) ?_ ?_
  · refine wp_region_held_drew (S := fun W => (RtB w W p1 n1 c1 p2 n2 c2 s f1 f2 ∧ Arr W w1.heap.size 74 [.string l, .string d, .string (resA s.o)])) (by kernel_rfl) ⟨HR3.out.on (Below.refl _ _).drew, arr9_on HJ3.out (Below.refl _ _).drew⟩ (fun hHeld => ?_)
    have HS0 := Lib.hid (And.intro (HR3.out.on (Below.refl _ _).drew) (arr9_on HJ3.out (Below.refl _ _).drew))
    generalize World.drew _ = wd at HS0 hHeld ⊢
    refine takeQ (i := 0) (k := 36) (v := .agg #[.slice p1 n1 c1, .slice p2 n2 c2]) rfl (by rfl) (by kernel_rfl) (by kernel_rfl) (by kernel_rfl) (fun _ _ _ h => h) (by rfl) ?_ hHeld ?_
    · intro w1 hSw; obtain ⟨⟨m0, m1⟩, _⟩ := arr9_two hSw.1.1; obtain ⟨⟨t0, t1⟩, _⟩ := arr9_two hSw.1.2.2.1; obtain ⟨⟨j0, j1, j2⟩, _⟩ := arr_3j hSw.2; go_simp
    (try simp only [Act.put, List.setIfInBounds_toArray, List.set_cons_zero, List.set_cons_succ])
    refine takeQ (i := 2) (k := 38) (v := .pointer (some ⟨w.heap.size + 1 + 1, 0, none⟩)) rfl (by rfl) (by kernel_rfl) (by kernel_rfl) (by kernel_rfl) (fun _ _ _ h => h) (by rfl) ?_ hHeld ?_
    · intro w1 hSw; obtain ⟨⟨m0, m1⟩, _⟩ := arr9_two hSw.1.1; obtain ⟨⟨t0, t1⟩, _⟩ := arr9_two hSw.1.2.2.1; obtain ⟨⟨j0, j1, j2⟩, _⟩ := arr_3j hSw.2; go_simp
    (try simp only [Act.put, List.setIfInBounds_toArray, List.set_cons_zero, List.set_cons_succ])
    refine takeQ (i := 3) (k := 39) (v := .func (.func f1) #[] #[]) rfl (by rfl) (by kernel_rfl) (by kernel_rfl) (by kernel_rfl) (fun _ _ _ h => h) (by rfl) ?_ hHeld ?_
    · intro w1 hSw; obtain ⟨⟨m0, m1⟩, _⟩ := arr9_two hSw.1.1; obtain ⟨⟨t0, t1⟩, _⟩ := arr9_two hSw.1.2.2.1; obtain ⟨⟨j0, j1, j2⟩, _⟩ := arr_3j hSw.2; go_simp
    (try simp only [Act.put, List.setIfInBounds_toArray, List.set_cons_zero, List.set_cons_succ])
    refine takeQ (i := 4) (k := 40) (v := .pointer (some ⟨w.heap.size, 0, none⟩)) rfl (by rfl) (by kernel_rfl) (by kernel_rfl) (by kernel_rfl) (fun _ _ _ h => h) (by rfl) ?_ hHeld ?_
    · intro w1 hSw; obtain ⟨⟨m0, m1⟩, _⟩ := arr9_two hSw.1.1; obtain ⟨⟨t0, t1⟩, _⟩ := arr9_two hSw.1.2.2.1; obtain ⟨⟨j0, j1, j2⟩, _⟩ := arr_3j hSw.2; go_simp
    (try simp only [Act.put, List.setIfInBounds_toArray, List.set_cons_zero, List.set_cons_succ])
    refine takeQ (i := 5) (k := 41) (v := .slice p1 n1 c1) rfl (by rfl) (by kernel_rfl) (by kernel_rfl) (by kernel_rfl) (fun _ _ _ h => h) (by rfl) ?_ hHeld ?_
    · intro w1 hSw; obtain ⟨⟨m0, m1⟩, _⟩ := arr9_two hSw.1.1; obtain ⟨⟨t0, t1⟩, _⟩ := arr9_two hSw.1.2.2.1; obtain ⟨⟨j0, j1, j2⟩, _⟩ := arr_3j hSw.2; go_simp
    (try simp only [Act.put, List.setIfInBounds_toArray, List.set_cons_zero, List.set_cons_succ])
    refine takeQ (i := 6) (k := 42) (v := .pointer (some ⟨w1.heap.size, 2, none⟩)) rfl (by rfl) (by kernel_rfl) (by kernel_rfl) (by kernel_rfl) (fun _ _ _ h => h) (by rfl) ?_ hHeld ?_
    · intro w1 hSw; obtain ⟨⟨m0, m1⟩, _⟩ := arr9_two hSw.1.1; obtain ⟨⟨t0, t1⟩, _⟩ := arr9_two hSw.1.2.2.1; obtain ⟨⟨j0, j1, j2⟩, _⟩ := arr_3j hSw.2; go_simp
    (try simp only [Act.put, List.setIfInBounds_toArray, List.set_cons_zero, List.set_cons_succ])
    refine takeQ (i := 7) (k := 43) (v := .string (resA s.o)) rfl (by rfl) (by kernel_rfl) (by kernel_rfl) (by kernel_rfl) (fun _ _ _ h => h) (by rfl) ?_ hHeld ?_
    · intro w1 hSw; obtain ⟨⟨m0, m1⟩, _⟩ := arr9_two hSw.1.1; obtain ⟨⟨t0, t1⟩, _⟩ := arr9_two hSw.1.2.2.1; obtain ⟨⟨j0, j1, j2⟩, _⟩ := arr_3j hSw.2; go_simp
    (try simp only [Act.put, List.setIfInBounds_toArray, List.set_cons_zero, List.set_cons_succ])
    refine wpAnyH_ready (rs := [1, 10]) (by kernel_rfl) (by simp) ?_
    refine AllReadyH.cons rfl (fun K hK => ?_) (AllReadyH.cons rfl (fun K hK => ?_) AllReadyH.nil)
    · skip
      rw [if_pos (by rfl)]
      go_simp
      go_fit (i4 _ (HP1.out _ HS0.out.1.2.2.2.2) (HP2.out _ HS0.out.1.2.2.2.2))
      rintro e W1 ⟨⟨q1, l1, q2, l2, rfl, hv1, hv2⟩, hb⟩
      have HS2 := Lib.hid (And.intro (HS0.out.1.on hb) (arr9_on HS0.out.2 hb))
      have HC3 := Lib.hid (And.intro (hv1.mono HS0.out.1.big) (hv2.mono HS0.out.1.big))
      clear hb hv1 hv2
      refine hK.out _ _ HS2.out (fun hHeld => ?_)
      clear hK K
      (try simp only [Act.put, List.setIfInBounds_toArray, List.set_cons_zero, List.set_cons_succ])
      refine wpAnyH_ready (rs := [8, 10]) (by kernel_rfl) (by simp) ?_
      refine AllReadyH.cons rfl (fun K hK => ?_) (AllReadyH.cons rfl (fun K hK => ?_) AllReadyH.nil)
      · skip
        rw [if_pos (by rfl)]
        go_simp
        (try (rw [hcall1]; go_simp))
        go_fit (i6 _ (HP1.out _ HS2.out.1.2.2.2.2))
        rintro e W4 ⟨⟨q3, l3, rfl, hv⟩, hb⟩
        have HS5 := Lib.hid (And.intro (HS2.out.1.on hb) (arr9_on HS2.out.2 hb))
        have HC6 := Lib.hid (And.intro (HC3.out.1.on hb) (HC3.out.2.on hb))
        have HT7 := Lib.hid (hv.mono HS2.out.1.big)
        clear hb hv
        refine hK.out _ _ HS5.out (fun hHeld => ?_)
        clear hK K
        (try simp only [Act.put, List.setIfInBounds_toArray, List.set_cons_zero, List.set_cons_succ])
        refine takeQ (i := 9) (k := 45) (v := .agg #[.slice q1 n1 l1, .slice q2 n2 l2, .slice q3 tl.length l3, .string ⟨#[]⟩, .string ⟨#[]⟩, .string ⟨#[]⟩, .string ⟨#[]⟩, .int .i64 0, .string ⟨#[]⟩, .int .i64 0]) rfl (by rfl) (by kernel_rfl) (by kernel_rfl) (by kernel_rfl) (fun _ _ _ h => h) (by rfl) ?_ hHeld ?_
        · intro w1 hSw; go_simp
        (try simp only [Act.put, List.setIfInBounds_toArray, List.set_cons_zero, List.set_cons_succ])
        refine wpAnyH_ready (rs := [10]) (by kernel_rfl) (by simp) ?_
        refine AllReadyH.cons rfl (fun K hK => ?_) AllReadyH.nil
        rw [if_pos (by rfl)]
        go_simp
        have hb : Below W4.heap.size W4 (W4.alloc (.cells #[.slice none 0 0, .slice none 0 0, .slice none 0 0, .string ⟨#[]⟩, .string ⟨#[]⟩, .string ⟨#[]⟩, .string ⟨#[]⟩, .int .i64 0, .string ⟨#[]⟩, .int .i64 0] 37)) := (Below.refl _ _).alloc (Nat.le_refl _) _
        have HS9 := Lib.hid (And.intro (HS5.out.1.on hb) (arr9_on HS5.out.2 hb))
        have HA10 := Lib.hid (Arr.fresh W4 37 [.slice none 0 0, .slice none 0 0, .slice none 0 0, .string ⟨#[]⟩, .string ⟨#[]⟩, .string ⟨#[]⟩, .string ⟨#[]⟩, .int .i64 0, .string ⟨#[]⟩, .int .i64 0])
        have HC11 := Lib.hid (And.intro (HC6.out.1.on hb) (HC6.out.2.on hb))
        have HT12 := Lib.hid (HT7.out.on hb)
        have hq13 : w.heap.size + 4 ≤ W4.heap.size := HS5.out.1.big
        have hq14 : w1.heap.size < W4.heap.size := arr9_lt HS5.out.2
        clear hb
        refine hK.out _ _ HS9.out (fun hHeld => ?_)
        clear hK K
        (try simp only [Act.put, List.setIfInBounds_toArray, List.set_cons_zero, List.set_cons_succ])
        generalize W4.heap.size = b15 at HA10 hq13 hq14 ⊢
        generalize W4.alloc (.cells #[.slice none 0 0, .slice none 0 0, .slice none 0 0, .string ⟨#[]⟩, .string ⟨#[]⟩, .string ⟨#[]⟩, .string ⟨#[]⟩, .int .i64 0, .string ⟨#[]⟩, .int .i64 0] 37) = W8 at HS9 HA10 HC11 HT12 hHeld ⊢
        obtain ⟨⟨x0, x1, x2, x3, x4, x5, x6, x7, x8, x9⟩, y0, y1, y2, y3, y4, y5, y6, y7, y8, y9⟩ := ten_all HA10.out
        refine wpAnyH_ready (rs := [11]) (by kernel_rfl) (by simp) ?_
        refine AllReadyH.cons rfl (fun K hK => ?_) AllReadyH.nil
        rw [if_pos (by rfl)]
        go_simp
        have hE := arr_put10 HA10.out (.slice q1 n1 l1) (.slice q2 n2 l2) (.slice q3 tl.length l3) (.string ⟨#[]⟩) (.string ⟨#[]⟩) (.string ⟨#[]⟩) (.string ⟨#[]⟩) (.int .i64 0) (.string ⟨#[]⟩) (.int .i64 0)
        have hRf := RtB.put10 HS9.out.1 hq13 (.slice q1 n1 l1) (.slice q2 n2 l2) (.slice q3 tl.length l3) (.string ⟨#[]⟩) (.string ⟨#[]⟩) (.string ⟨#[]⟩) (.string ⟨#[]⟩) (.int .i64 0) (.string ⟨#[]⟩) (.int .i64 0)
        have hJf := arr_far10 HS9.out.2 (show w1.heap.size ≠ b15 by omega) (.slice q1 n1 l1) (.slice q2 n2 l2) (.slice q3 tl.length l3) (.string ⟨#[]⟩) (.string ⟨#[]⟩) (.string ⟨#[]⟩) (.string ⟨#[]⟩) (.int .i64 0) (.string ⟨#[]⟩) (.int .i64 0)
        have hc1 := own_far10 HC11.out.1 (own_ne10 HC11.out.1 HA10.out (by decide)) (.slice q1 n1 l1) (.slice q2 n2 l2) (.slice q3 tl.length l3) (.string ⟨#[]⟩) (.string ⟨#[]⟩) (.string ⟨#[]⟩) (.string ⟨#[]⟩) (.int .i64 0) (.string ⟨#[]⟩) (.int .i64 0)
        have hc2 := own_far10 HC11.out.2 (own_ne10 HC11.out.2 HA10.out (by decide)) (.slice q1 n1 l1) (.slice q2 n2 l2) (.slice q3 tl.length l3) (.string ⟨#[]⟩) (.string ⟨#[]⟩) (.string ⟨#[]⟩) (.string ⟨#[]⟩) (.int .i64 0) (.string ⟨#[]⟩) (.int .i64 0)
        have hc3 := own_far10 HT12.out (own_ne10 HT12.out HA10.out (by decide)) (.slice q1 n1 l1) (.slice q2 n2 l2) (.slice q3 tl.length l3) (.string ⟨#[]⟩) (.string ⟨#[]⟩) (.string ⟨#[]⟩) (.string ⟨#[]⟩) (.int .i64 0) (.string ⟨#[]⟩) (.int .i64 0)
        refine hK.out _ _ ⟨hRf, hJf⟩ (fun hHeld => ?_)
        clear hK K
        (try simp only [Act.put, List.setIfInBounds_toArray, List.set_cons_zero, List.set_cons_succ])
        refine wpAnyH_done (by kernel_rfl) ?_ _
        exact ⟨⟨b15, q1, l1, q2, l2, q3, l3, rfl, hq13, hE, hRf, hc1, hc2, hc3⟩, by simp only [putAll, Act.put, List.setIfInBounds_toArray, List.set_cons_zero, List.set_cons_succ]; rfl⟩
      · skip
        rw [if_pos (by rfl)]
        go_simp
        have hb : Below W1.heap.size W1 (W1.alloc (.cells #[.slice none 0 0, .slice none 0 0, .slice none 0 0, .string ⟨#[]⟩, .string ⟨#[]⟩, .string ⟨#[]⟩, .string ⟨#[]⟩, .int .i64 0, .string ⟨#[]⟩, .int .i64 0] 37)) := (Below.refl _ _).alloc (Nat.le_refl _) _
        have HS17 := Lib.hid (And.intro (HS2.out.1.on hb) (arr9_on HS2.out.2 hb))
        have HA18 := Lib.hid (Arr.fresh W1 37 [.slice none 0 0, .slice none 0 0, .slice none 0 0, .string ⟨#[]⟩, .string ⟨#[]⟩, .string ⟨#[]⟩, .string ⟨#[]⟩, .int .i64 0, .string ⟨#[]⟩, .int .i64 0])
        have HC19 := Lib.hid (And.intro (HC3.out.1.on hb) (HC3.out.2.on hb))
        have hq20 : w.heap.size + 4 ≤ W1.heap.size := HS2.out.1.big
        have hq21 : w1.heap.size < W1.heap.size := arr9_lt HS2.out.2
        clear hb
        refine hK.out _ _ HS17.out (fun hHeld => ?_)
        clear hK K
        (try simp only [Act.put, List.setIfInBounds_toArray, List.set_cons_zero, List.set_cons_succ])
        generalize W1.heap.size = b22 at HA18 hq20 hq21 ⊢
        generalize W1.alloc (.cells #[.slice none 0 0, .slice none 0 0, .slice none 0 0, .string ⟨#[]⟩, .string ⟨#[]⟩, .string ⟨#[]⟩, .string ⟨#[]⟩, .int .i64 0, .string ⟨#[]⟩, .int .i64 0] 37) = W16 at HS17 HA18 HC19 hHeld ⊢
        refine wpAnyH_ready (rs := [8]) (by kernel_rfl) (by simp) ?_
        refine AllReadyH.cons rfl (fun K hK => ?_) AllReadyH.nil
        rw [if_pos (by rfl)]
        go_simp
        (try (rw [hcall1]; go_simp))
        go_fit (i6 _ (HP1.out _ HS17.out.1.2.2.2.2))
        rintro e W23 ⟨⟨q3, l3, rfl, hv⟩, hb⟩
        have HS24 := Lib.hid (And.intro (HS17.out.1.on hb) (arr9_on HS17.out.2 hb))
        have HC25 := Lib.hid (And.intro (HC19.out.1.on hb) (HC19.out.2.on hb))
        have HT26 := Lib.hid (hv.mono HS17.out.1.big)
        have HA27 := Lib.hid (arr9_on HA18.out hb)
        clear hb hv
        refine hK.out _ _ HS24.out (fun hHeld => ?_)
        clear hK K
        (try simp only [Act.put, List.setIfInBounds_toArray, List.set_cons_zero, List.set_cons_succ])
        refine takeQ (i := 9) (k := 45) (v := .agg #[.slice q1 n1 l1, .slice q2 n2 l2, .slice q3 tl.length l3, .string ⟨#[]⟩, .string ⟨#[]⟩, .string ⟨#[]⟩, .string ⟨#[]⟩, .int .i64 0, .string ⟨#[]⟩, .int .i64 0]) rfl (by rfl) (by kernel_rfl) (by kernel_rfl) (by kernel_rfl) (fun _ _ _ h => h) (by rfl) ?_ hHeld ?_
        · intro w1 hSw; go_simp
        (try simp only [Act.put, List.setIfInBounds_toArray, List.set_cons_zero, List.set_cons_succ])
        obtain ⟨⟨x0, x1, x2, x3, x4, x5, x6, x7, x8, x9⟩, y0, y1, y2, y3, y4, y5, y6, y7, y8, y9⟩ := ten_all HA27.out
        refine wpAnyH_ready (rs := [11]) (by kernel_rfl) (by simp) ?_
        refine AllReadyH.cons rfl (fun K hK => ?_) AllReadyH.nil
        rw [if_pos (by rfl)]
        go_simp
        have hE := arr_put10 HA27.out (.slice q1 n1 l1) (.slice q2 n2 l2) (.slice q3 tl.length l3) (.string ⟨#[]⟩) (.string ⟨#[]⟩) (.string ⟨#[]⟩) (.string ⟨#[]⟩) (.int .i64 0) (.string ⟨#[]⟩) (.int .i64 0)
        have hRf := RtB.put10 HS24.out.1 hq20 (.slice q1 n1 l1) (.slice q2 n2 l2) (.slice q3 tl.length l3) (.string ⟨#[]⟩) (.string ⟨#[]⟩) (.string ⟨#[]⟩) (.string ⟨#[]⟩) (.int .i64 0) (.string ⟨#[]⟩) (.int .i64 0)
        have hJf := arr_far10 HS24.out.2 (show w1.heap.size ≠ b22 by omega) (.slice q1 n1 l1) (.slice q2 n2 l2) (.slice q3 tl.length l3) (.string ⟨#[]⟩) (.string ⟨#[]⟩) (.string ⟨#[]⟩) (.string ⟨#[]⟩) (.int .i64 0) (.string ⟨#[]⟩) (.int .i64 0)
        have hc1 := own_far10 HC25.out.1 (own_ne10 HC25.out.1 HA27.out (by decide)) (.slice q1 n1 l1) (.slice q2 n2 l2) (.slice q3 tl.length l3) (.string ⟨#[]⟩) (.string ⟨#[]⟩) (.string ⟨#[]⟩) (.string ⟨#[]⟩) (.int .i64 0) (.string ⟨#[]⟩) (.int .i64 0)
        have hc2 := own_far10 HC25.out.2 (own_ne10 HC25.out.2 HA27.out (by decide)) (.slice q1 n1 l1) (.slice q2 n2 l2) (.slice q3 tl.length l3) (.string ⟨#[]⟩) (.string ⟨#[]⟩) (.string ⟨#[]⟩) (.string ⟨#[]⟩) (.int .i64 0) (.string ⟨#[]⟩) (.int .i64 0)
        have hc3 := own_far10 HT26.out (own_ne10 HT26.out HA27.out (by decide)) (.slice q1 n1 l1) (.slice q2 n2 l2) (.slice q3 tl.length l3) (.string ⟨#[]⟩) (.string ⟨#[]⟩) (.string ⟨#[]⟩) (.string ⟨#[]⟩) (.int .i64 0) (.string ⟨#[]⟩) (.int .i64 0)
        refine hK.out _ _ ⟨hRf, hJf⟩ (fun hHeld => ?_)
        clear hK K
        (try simp only [Act.put, List.setIfInBounds_toArray, List.set_cons_zero, List.set_cons_succ])
        refine wpAnyH_done (by kernel_rfl) ?_ _
        exact ⟨⟨b22, q1, l1, q2, l2, q3, l3, rfl, hq20, hE, hRf, hc1, hc2, hc3⟩, by simp only [putAll, Act.put, List.setIfInBounds_toArray, List.set_cons_zero, List.set_cons_succ]; rfl⟩
    · skip
      rw [if_pos (by rfl)]
      go_simp
      have hb : Below wd.heap.size wd (wd.alloc (.cells #[.slice none 0 0, .slice none 0 0, .slice none 0 0, .string ⟨#[]⟩, .string ⟨#[]⟩, .string ⟨#[]⟩, .string ⟨#[]⟩, .int .i64 0, .string ⟨#[]⟩, .int .i64 0] 37)) := (Below.refl _ _).alloc (Nat.le_refl _) _
      have HS29 := Lib.hid (And.intro (HS0.out.1.on hb) (arr9_on HS0.out.2 hb))
      have HA30 := Lib.hid (Arr.fresh wd 37 [.slice none 0 0, .slice none 0 0, .slice none 0 0, .string ⟨#[]⟩, .string ⟨#[]⟩, .string ⟨#[]⟩, .string ⟨#[]⟩, .int .i64 0, .string ⟨#[]⟩, .int .i64 0])
      have hq31 : w.heap.size + 4 ≤ wd.heap.size := HS0.out.1.big
      have hq32 : w1.heap.size < wd.heap.size := arr9_lt HS0.out.2
      clear hb
      refine hK.out _ _ HS29.out (fun hHeld => ?_)
      clear hK K
      (try simp only [Act.put, List.setIfInBounds_toArray, List.set_cons_zero, List.set_cons_succ])
      generalize wd.heap.size = b33 at HA30 hq31 hq32 ⊢
      generalize wd.alloc (.cells #[.slice none 0 0, .slice none 0 0, .slice none 0 0, .string ⟨#[]⟩, .string ⟨#[]⟩, .string ⟨#[]⟩, .string ⟨#[]⟩, .int .i64 0, .string ⟨#[]⟩, .int .i64 0] 37) = W28 at HS29 HA30 hHeld ⊢
      refine wpAnyH_ready (rs := [1]) (by kernel_rfl) (by simp) ?_
      refine AllReadyH.cons rfl (fun K hK => ?_) AllReadyH.nil
      rw [if_pos (by rfl)]
      go_simp
      go_fit (i4 _ (HP1.out _ HS29.out.1.2.2.2.2) (HP2.out _ HS29.out.1.2.2.2.2))
      rintro e W34 ⟨⟨q1, l1, q2, l2, rfl, hv1, hv2⟩, hb⟩
      have HS35 := Lib.hid (And.intro (HS29.out.1.on hb) (arr9_on HS29.out.2 hb))
      have HC36 := Lib.hid (And.intro (hv1.mono HS29.out.1.big) (hv2.mono HS29.out.1.big))
      have HA37 := Lib.hid (arr9_on HA30.out hb)
      clear hb hv1 hv2
      refine hK.out _ _ HS35.out (fun hHeld => ?_)
      clear hK K
      (try simp only [Act.put, List.setIfInBounds_toArray, List.set_cons_zero, List.set_cons_succ])
      refine wpAnyH_ready (rs := [8]) (by kernel_rfl) (by simp) ?_
      refine AllReadyH.cons rfl (fun K hK => ?_) AllReadyH.nil
      rw [if_pos (by rfl)]
      go_simp
      (try (rw [hcall1]; go_simp))
      go_fit (i6 _ (HP1.out _ HS35.out.1.2.2.2.2))
      rintro e W38 ⟨⟨q3, l3, rfl, hv⟩, hb⟩
      have HS39 := Lib.hid (And.intro (HS35.out.1.on hb) (arr9_on HS35.out.2 hb))
      have HC40 := Lib.hid (And.intro (HC36.out.1.on hb) (HC36.out.2.on hb))
      have HT41 := Lib.hid (hv.mono HS35.out.1.big)
      have HA42 := Lib.hid (arr9_on HA37.out hb)
      clear hb hv
      refine hK.out _ _ HS39.out (fun hHeld => ?_)
      clear hK K
      (try simp only [Act.put, List.setIfInBounds_toArray, List.set_cons_zero, List.set_cons_succ])
      refine takeQ (i := 9) (k := 45) (v := .agg #[.slice q1 n1 l1, .slice q2 n2 l2, .slice q3 tl.length l3, .string ⟨#[]⟩, .string ⟨#[]⟩, .string ⟨#[]⟩, .string ⟨#[]⟩, .int .i64 0, .string ⟨#[]⟩, .int .i64 0]) rfl (by rfl) (by kernel_rfl) (by kernel_rfl) (by kernel_rfl) (fun _ _ _ h => h) (by rfl) ?_ hHeld ?_
      · intro w1 hSw; go_simp
      (try simp only [Act.put, List.setIfInBounds_toArray, List.set_cons_zero, List.set_cons_succ])
      obtain ⟨⟨x0, x1, x2, x3, x4, x5, x6, x7, x8, x9⟩, y0, y1, y2, y3, y4, y5, y6, y7, y8, y9⟩ := ten_all HA42.out
      refine wpAnyH_ready (rs := [11]) (by kernel_rfl) (by simp) ?_
      refine AllReadyH.cons rfl (fun K hK => ?_) AllReadyH.nil
      rw [if_pos (by rfl)]
      go_simp
      have hE := arr_put10 HA42.out (.slice q1 n1 l1) (.slice q2 n2 l2) (.slice q3 tl.length l3) (.string ⟨#[]⟩) (.string ⟨#[]⟩) (.string ⟨#[]⟩) (.string ⟨#[]⟩) (.int .i64 0) (.string ⟨#[]⟩) (.int .i64 0)
      have hRf := RtB.put10 HS39.out.1 hq31 (.slice q1 n1 l1) (.slice q2 n2 l2) (.slice q3 tl.length l3) (.string ⟨#[]⟩) (.string ⟨#[]⟩) (.string ⟨#[]⟩) (.string ⟨#[]⟩) (.int .i64 0) (.string ⟨#[]⟩) (.int .i64 0)
      have hJf := arr_far10 HS39.out.2 (show w1.heap.size ≠ b33 by omega) (.slice q1 n1 l1) (.slice q2 n2 l2) (.slice q3 tl.length l3) (.string ⟨#[]⟩) (.string ⟨#[]⟩) (.string ⟨#[]⟩) (.string ⟨#[]⟩) (.int .i64 0) (.string ⟨#[]⟩) (.int .i64 0)
      have hc1 := own_far10 HC40.out.1 (own_ne10 HC40.out.1 HA42.out (by decide)) (.slice q1 n1 l1) (.slice q2 n2 l2) (.slice q3 tl.length l3) (.string ⟨#[]⟩) (.string ⟨#[]⟩) (.string ⟨#[]⟩) (.string ⟨#[]⟩) (.int .i64 0) (.string ⟨#[]⟩) (.int .i64 0)
      have hc2 := own_far10 HC40.out.2 (own_ne10 HC40.out.2 HA42.out (by decide)) (.slice q1 n1 l1) (.slice q2 n2 l2) (.slice q3 tl.length l3) (.string ⟨#[]⟩) (.string ⟨#[]⟩) (.string ⟨#[]⟩) (.string ⟨#[]⟩) (.int .i64 0) (.string ⟨#[]⟩) (.int .i64 0)
      have hc3 := own_far10 HT41.out (own_ne10 HT41.out HA42.out (by decide)) (.slice q1 n1 l1) (.slice q2 n2 l2) (.slice q3 tl.length l3) (.string ⟨#[]⟩) (.string ⟨#[]⟩) (.string ⟨#[]⟩) (.string ⟨#[]⟩) (.int .i64 0) (.string ⟨#[]⟩) (.int .i64 0)
      refine hK.out _ _ ⟨hRf, hJf⟩ (fun hHeld => ?_)
      clear hK K
      (try simp only [Act.put, List.setIfInBounds_toArray, List.set_cons_zero, List.set_cons_succ])
      refine wpAnyH_done (by kernel_rfl) ?_ _
      exact ⟨⟨b33, q1, l1, q2, l2, q3, l3, rfl, hq31, hE, hRf, hc1, hc2, hc3⟩, by simp only [putAll, Act.put, List.setIfInBounds_toArray, List.set_cons_zero, List.set_cons_succ]; rfl⟩
  · rintro vs W4 ⟨b, q1, l1, q2, l2, q3, l3, e10, hb4, hE, hRf, hc1, hc2, hc3⟩
    have HR4 := Lib.hid hRf
    have HE4 := Lib.hid hE
    have HC4 := Lib.hid (And.intro hc1 (And.intro hc2 hc3))
    simp only [putAll, Act.put, List.setIfInBounds_toArray, List.set_cons_zero, List.set_cons_succ, e10]
    clear e10 hE hRf hc1 hc2 hc3 HR3 HJ3 HR2 HJ2 HR1 HR1a HJ1a HR j0 j1 j2
    clear m0 m1 s0 s1 s2 s3 s4 s5 t0 t1 r0 r1 r2 r3 r4 r5 r6 r7 r8 r9 u0 u1 u2 u3 u4 u5 u6 u7 u8 u9 hzA hzB hzC hzD
    obtain ⟨⟨x0, x1, x2, x3, x4, x5, x6, x7, x8, x9⟩, y0, y1, y2, y3, y4, y5, y6, y7, y8, y9⟩ := ten_all HE4.out
    obtain ⟨⟨m0, m1⟩, _⟩ := arr9_two HR4.out.1; obtain ⟨⟨s0, s1, s2, s3, s4, s5⟩, _⟩ := arr_six0 HR4.out.2.1; obtain ⟨⟨t0, t1⟩, _⟩ := arr9_two HR4.out.2.2.1; obtain ⟨⟨r0, r1, r2, r3, r4, r5, r6, r7, r8, r9⟩, u0, u1, u2, u3, u4, u5, u6, u7, u8, u9⟩ := ten_all HR4.out.2.2.2.1; have hzA := arr9_lt HR4.out.1; have hzB := arr9_lt HR4.out.2.1; have hzC := arr9_lt HR4.out.2.2.1; have hzD := arr9_lt HR4.out.2.2.2.1
    have hzb := arr9_lt HE4.out
    have hbn : ¬ b = w.heap.size + 1 + 1 + 1 := by omega
    have hbn2 : ¬ w.heap.size + 1 + 1 + 1 = b := by omega
    by_cases htl : tl.length = 0
    rotate_left
    · obtain rfl : R = ⟨xs, ys, tl, zMs, 0⟩ := by rw [← HRR.out]; exact if_pos htl
      have ht1 : ((tl.length : Int) != 0) = true := by simpa using htl
      have ht2 : ¬ (tl.length : Int) = 0 := by omega
      go_wp2
      exact bodyPost_ret (v := .agg #[.slice q1 n1 l1, .slice q2 n2 l2, .slice q3 tl.length l3, .string ⟨#[]⟩, .string ⟨#[]⟩, .string ⟨#[]⟩, .string ⟨#[]⟩, .int .i64 0, .string ⟨#[]⟩, .int .i64 0]) (results_cell_row (P := Tryz.prog) Tryz.results29 _ _ (w.heap.size + 1 + 1 + 1) 37 _ (0, 0) _ rfl (arr_put10 HR4.out.2.2.2.1 (.slice q1 n1 l1) (.slice q2 n2 l2) (.slice q3 tl.length l3) (.string ⟨#[]⟩) (.string ⟨#[]⟩) (.string ⟨#[]⟩) (.string ⟨#[]⟩) (.int .i64 0) (.string ⟨#[]⟩) (.int .i64 0)) Tryz.underlying37 rfl (by kernel_rfl)) rfl
        ⟨⟨q1, l1, q2, l2, q3, l3, by unfold roV; rw [HX.out, HY.out]; rfl, by rw [HX.out]; exact (own_put10 HC4.out.1 (by omega) (.slice q1 n1 l1) (.slice q2 n2 l2) (.slice q3 tl.length l3) (.string ⟨#[]⟩) (.string ⟨#[]⟩) (.string ⟨#[]⟩) (.string ⟨#[]⟩) (.int .i64 0) (.string ⟨#[]⟩) (.int .i64 0)).mono (by omega), by rw [HY.out]; exact (own_put10 HC4.out.2.1 (by omega) (.slice q1 n1 l1) (.slice q2 n2 l2) (.slice q3 tl.length l3) (.string ⟨#[]⟩) (.string ⟨#[]⟩) (.string ⟨#[]⟩) (.string ⟨#[]⟩) (.int .i64 0) (.string ⟨#[]⟩) (.int .i64 0)).mono (by omega), (own_put10 HC4.out.2.2 (by omega) (.slice q1 n1 l1) (.slice q2 n2 l2) (.slice q3 tl.length l3) (.string ⟨#[]⟩) (.string ⟨#[]⟩) (.string ⟨#[]⟩) (.string ⟨#[]⟩) (.int .i64 0) (.string ⟨#[]⟩) (.int .i64 0)).mono (by omega)⟩, below_put10 HR4.out.2.2.2.2 (by omega) (.slice q1 n1 l1) (.slice q2 n2 l2) (.slice q3 tl.length l3) (.string ⟨#[]⟩) (.string ⟨#[]⟩) (.string ⟨#[]⟩) (.string ⟨#[]⟩) (.int .i64 0) (.string ⟨#[]⟩) (.int .i64 0)⟩
    · have hR2 : R = (open Classical in if y = s then (⟨xs, ys ++ [s], [], zMs, 0⟩ : RoL) else ⟨xs, ys, [], y, 0⟩) := by rw [← HRR.out]; exact if_neg (by simpa using htl)
      have HTL : Hid (tl = []) := Lib.hid (List.eq_nil_of_length_eq_zero htl)
      rw [htl] at x2 HE4 HC4
      clear htl HRR
      rcases hcmp with hys | hcm
      · obtain rfl : R = ⟨xs, ys ++ [s], [], zMs, 0⟩ := by rw [hR2]; exact if_pos hys
        rw [hys] at i7
        clear hR2 hys
        go_wp2_with (first | (go_fit (i7 _ (HM.out _ HR4.out.2.2.2.2)); rintro e W5 ⟨rfl, hb⟩; have HR5 := Lib.hid (HR4.out.on hb); have HE5 := Lib.hid (arr9_on HE4.out hb); have HC5 := Lib.hid (And.intro (HC4.out.1.on hb) (And.intro (HC4.out.2.1.on hb) (HC4.out.2.2.on hb))); clear hb; obtain ⟨⟨x0, x1, x2, x3, x4, x5, x6, x7, x8, x9⟩, y0, y1, y2, y3, y4, y5, y6, y7, y8, y9⟩ := ten_all HE5.out; obtain ⟨⟨m0, m1⟩, _⟩ := arr9_two HR5.out.1; obtain ⟨⟨s0, s1, s2, s3, s4, s5⟩, _⟩ := arr_six0 HR5.out.2.1; obtain ⟨⟨t0, t1⟩, _⟩ := arr9_two HR5.out.2.2.1; obtain ⟨⟨r0, r1, r2, r3, r4, r5, r6, r7, r8, r9⟩, u0, u1, u2, u3, u4, u5, u6, u7, u8, u9⟩ := ten_all HR5.out.2.2.2.1; have hzA := arr9_lt HR5.out.1; have hzB := arr9_lt HR5.out.2.1; have hzC := arr9_lt HR5.out.2.2.1; have hzD := arr9_lt HR5.out.2.2.2.1; have hzb := arr9_lt HE5.out))
        have HRa := Lib.hid (HR5.out.on ((Below.refl _ _).alloc (Nat.le_refl _) (.cells #[.string s.k, .string s.t, .string s.f, .string s.o, .int .i64 s.n, .string s.b] 35)))
        have HEa := Lib.hid (arr9_on HE5.out ((Below.refl _ _).alloc (Nat.le_refl _) (.cells #[.string s.k, .string s.t, .string s.f, .string s.o, .int .i64 s.n, .string s.b] 35)))
        have HCa := Lib.hid (And.intro (HC5.out.1.alloc (.cells #[.string s.k, .string s.t, .string s.f, .string s.o, .int .i64 s.n, .string s.b] 35)) (And.intro (HC5.out.2.1.alloc (.cells #[.string s.k, .string s.t, .string s.f, .string s.o, .int .i64 s.n, .string s.b] 35)) (HC5.out.2.2.alloc (.cells #[.string s.k, .string s.t, .string s.f, .string s.o, .int .i64 s.n, .string s.b] 35))))
        refine region_join [59, 60, 61, 62, 63, 64, 65, 66, 67] (fun vs W => ∃ q4 l4, RtB w W p1 n1 c1 p2 n2 c2 s f1 f2 ∧ Arr W b 37 [.slice q1 n1 l1, .slice q4 (n2 + 1) l4, .slice q3 0 l3, .string ⟨#[]⟩, .string ⟨#[]⟩, .string ⟨#[]⟩, .string ⟨#[]⟩, .int .i64 0, .string ⟨#[]⟩, .int .i64 0] ∧ OwnC msC W (w.heap.size + 4) 35 6 (.slice q4 (n2 + 1) l4) (ys ++ [s]) ∧ OwnC seC W (w.heap.size + 4) 70 4 (.slice q1 n1 l1) xs ∧ OwnC strC W (w.heap.size + 4) 9 1 (.slice q3 0 l3) tl) ?_ ?_
        · refine wp_region_held_drew (S := fun W => RtB w W p1 n1 c1 p2 n2 c2 s f1 f2) (by kernel_rfl) (HRa.out.on (Below.refl _ _).drew) (fun hHeld => ?_)
          have HRd := Lib.hid (HRa.out.on (Below.refl _ _).drew)
          have HEd := Lib.hid (arr9_on HEa.out (Below.refl _ _).drew)
          have HCd := Lib.hid (And.intro (HCa.out.1.on (Below.refl _ _).drew) (And.intro (HCa.out.2.1.on (Below.refl _ _).drew) (HCa.out.2.2.on (Below.refl _ _).drew)))
          generalize World.drew _ = wd at HRd HEd HCd hHeld ⊢
          clear x0 x1 x2 x3 x4 x5 x6 x7 x8 x9 y0 y1 y2 y3 y4 y5 y6 y7 y8 y9 hzb
          refine takeQ (i := 0) (k := 59) (v := .pointer (some ⟨b, 0, none⟩)) rfl (by rfl) (by kernel_rfl) (by kernel_rfl) (by kernel_rfl) (fun _ _ _ h => h) (by rfl) ?_ hHeld ?_
          · intro w1 hSw; go_simp
          (try simp only [Act.put, List.setIfInBounds_toArray, List.set_cons_zero, List.set_cons_succ])
          refine takeQ (i := 1) (k := 60) (v := .pointer (some ⟨b, 1, none⟩)) rfl (by rfl) (by kernel_rfl) (by kernel_rfl) (by kernel_rfl) (fun _ _ _ h => h) (by rfl) ?_ hHeld ?_
          · intro w1 hSw; go_simp
          (try simp only [Act.put, List.setIfInBounds_toArray, List.set_cons_zero, List.set_cons_succ])
          refine takeQ (i := 3) (k := 62) (v := .agg #[.string s.k, .string s.t, .string s.f, .string s.o, .int .i64 s.n, .string s.b]) rfl (by rfl) (by kernel_rfl) (by kernel_rfl) (by kernel_rfl) (fun _ _ _ h => h) (by rfl) ?_ hHeld ?_
          · intro w1 hSw; obtain ⟨⟨s0, s1, s2, s3, s4, s5⟩, _⟩ := arr_six0 hSw.2.1; go_simp
          (try simp only [Act.put, List.setIfInBounds_toArray, List.set_cons_zero, List.set_cons_succ])
          refine wpAnyH_ready (rs := [2, 4]) (by kernel_rfl) (by simp) ?_
          refine AllReadyH.cons rfl (fun K hK => ?_) (AllReadyH.cons rfl (fun K hK => ?_) AllReadyH.nil)
          · skip
            rw [if_pos (by rfl)]
            obtain ⟨⟨x0, x1, x2, x3, x4, x5, x6, x7, x8, x9⟩, y0, y1, y2, y3, y4, y5, y6, y7, y8, y9⟩ := ten_all HEd.out
            go_simp
            clear x0 x1 x2 x3 x4 x5 x6 x7 x8 x9 y0 y1 y2 y3 y4 y5 y6 y7 y8 y9
            refine hK.out _ _ HRd.out (fun hHeld => ?_)
            clear hK K
            (try simp only [Act.put, List.setIfInBounds_toArray, List.set_cons_zero, List.set_cons_succ])
            refine wpAnyH_ready (rs := [4]) (by kernel_rfl) (by simp) ?_
            refine AllReadyH.cons rfl (fun K hK => ?_) AllReadyH.nil
            rw [if_pos (by rfl)]
            go_simp
            go_fit (i5 _)
            rintro e W43 ⟨rfl, hb⟩
            have HR44 := Lib.hid (HRd.out.on hb)
            have HE45 := Lib.hid (arr9_on HEd.out hb)
            have HC46 := Lib.hid (And.intro (HCd.out.1.on hb) (And.intro (HCd.out.2.1.on hb) (HCd.out.2.2.on hb)))
            clear hb
            refine hK.out _ _ HR44.out (fun hHeld => ?_)
            clear hK K
            (try simp only [Act.put, List.setIfInBounds_toArray, List.set_cons_zero, List.set_cons_succ])
            refine wpAnyH_ready (rs := [5]) (by kernel_rfl) (by simp) ?_
            refine AllReadyH.cons rfl (fun K hK => ?_) AllReadyH.nil
            rw [if_pos (by rfl)]
            go_simp
            have hb : Below W43.heap.size W43 (W43.alloc (.cells #[.string s.k, .string s.t, .string s.f, .string s.o, .int .i64 s.n, .string s.b] 35)) := (Below.refl _ _).alloc (Nat.le_refl _) _
            have HR48 := Lib.hid (HR44.out.on hb)
            have HE49 := Lib.hid (arr9_on HE45.out hb)
            have HC50 := Lib.hid (And.intro (HC46.out.1.on hb) (And.intro (HC46.out.2.1.on hb) (HC46.out.2.2.on hb)))
            have HA51 : Hid (Arr (W43.alloc (.cells #[.string s.k, .string s.t, .string s.f, .string s.o, .int .i64 s.n, .string s.b] 35)) W43.heap.size 35 (msC s)) := Lib.hid (Arr.fresh W43 35 (msC s))
            clear hb
            refine hK.out _ _ HR48.out (fun hHeld => ?_)
            clear hK K
            (try simp only [Act.put, List.setIfInBounds_toArray, List.set_cons_zero, List.set_cons_succ])
            generalize W43.heap.size = bb52 at HA51 ⊢
            generalize W43.alloc (.cells #[.string s.k, .string s.t, .string s.f, .string s.o, .int .i64 s.n, .string s.b] 35) = W47 at HR48 HE49 HC50 HA51 hHeld ⊢
            refine wpAnyH_ready (rs := [6]) (by kernel_rfl) (by simp) ?_
            refine AllReadyH.cons rfl (fun K hK => ?_) AllReadyH.nil
            rw [if_pos (by rfl)]
            refine wp_app_oneM _ _ rfl (w.heap.size + 4) _ ys rfl HC50.out.2.1 bb52 s rfl HA51.out (by rw [HY.out]; omega) HR48.out.big ?_
            intro v7 W7 hv hg
            obtain ⟨q4, l4, e4⟩ := own_shape10 hv (n := n2 + 1) (by rw [List.length_append, HY.out]; rfl)
            subst e4
            have HV7 := Lib.hid hv
            have HR7 := Lib.hid (HR48.out.grow hg (fun q hq => own_base HC50.out.2.1 q hq))
            have HE7 := Lib.hid (arr_beside10 HE49.out hg (own_ne10 HC50.out.2.1 HE49.out (by decide)))
            have HC7 := Lib.hid (And.intro (own_beside HC50.out.1 hg (own_two HC50.out.2.1 HC50.out.1 (by decide))) (own_beside HC50.out.2.2 hg (own_two HC50.out.2.1 HC50.out.2.2 (by decide))))
            clear hv hg
            refine hK.out _ _ HR7.out (fun hHeld => ?_)
            clear hK K
            (try simp only [Act.put, List.setIfInBounds_toArray, List.set_cons_zero, List.set_cons_succ])
            refine takeQ (i := 7) (k := 66) (v := .pointer (some ⟨b, 0, none⟩)) rfl (by rfl) (by kernel_rfl) (by kernel_rfl) (by kernel_rfl) (fun _ _ _ h => h) (by rfl) ?_ hHeld ?_
            · intro w1 hSw; go_simp
            (try simp only [Act.put, List.setIfInBounds_toArray, List.set_cons_zero, List.set_cons_succ])
            refine takeQ (i := 8) (k := 67) (v := .pointer (some ⟨b, 1, none⟩)) rfl (by rfl) (by kernel_rfl) (by kernel_rfl) (by kernel_rfl) (fun _ _ _ h => h) (by rfl) ?_ hHeld ?_
            · intro w1 hSw; go_simp
            (try simp only [Act.put, List.setIfInBounds_toArray, List.set_cons_zero, List.set_cons_succ])
            obtain ⟨⟨x0, x1, x2, x3, x4, x5, x6, x7, x8, x9⟩, y0, y1, y2, y3, y4, y5, y6, y7, y8, y9⟩ := ten_all HE7.out
            refine wpAnyH_ready (rs := [9]) (by kernel_rfl) (by simp) ?_
            refine AllReadyH.cons rfl (fun K hK => ?_) AllReadyH.nil
            rw [if_pos (by rfl)]
            go_simp
            have HR8 := Lib.hid (RtB.put HR7.out (b := b) (i := 1) (.slice q4 (n2 + 1) l4) hb4)
            have HE8 := Lib.hid (HE7.out.put 1 (.slice q4 (n2 + 1) l4))
            have HV8 := Lib.hid (own_cell10 (i := 1) (u := .slice q4 (n2 + 1) l4) HV7.out (own_ne10 HV7.out HE7.out (by decide)))
            have HC8 := Lib.hid (And.intro (own_cell10 (i := 1) (u := .slice q4 (n2 + 1) l4) HC7.out.1 (own_ne10 HC7.out.1 HE7.out (by decide))) (own_cell10 (i := 1) (u := .slice q4 (n2 + 1) l4) HC7.out.2 (own_ne10 HC7.out.2 HE7.out (by decide))))
            refine hK.out _ _ HR8.out (fun hHeld => ?_)
            clear hK K
            (try simp only [Act.put, List.setIfInBounds_toArray, List.set_cons_zero, List.set_cons_succ])
            refine wpAnyH_done (by kernel_rfl) ?_ _
            exact ⟨⟨q4, l4, HR8.out, HE8.out, HV8.out, HC8.out.1, HC8.out.2⟩, by simp only [putAll, Act.put, List.setIfInBounds_toArray, List.set_cons_zero, List.set_cons_succ]; rfl⟩
          · skip
            rw [if_pos (by rfl)]
            go_simp
            go_fit (i5 _)
            rintro e W53 ⟨rfl, hb⟩
            have HR54 := Lib.hid (HRd.out.on hb)
            have HE55 := Lib.hid (arr9_on HEd.out hb)
            have HC56 := Lib.hid (And.intro (HCd.out.1.on hb) (And.intro (HCd.out.2.1.on hb) (HCd.out.2.2.on hb)))
            clear hb
            refine hK.out _ _ HR54.out (fun hHeld => ?_)
            clear hK K
            (try simp only [Act.put, List.setIfInBounds_toArray, List.set_cons_zero, List.set_cons_succ])
            refine wpAnyH_ready (rs := [2, 5]) (by kernel_rfl) (by simp) ?_
            refine AllReadyH.cons rfl (fun K hK => ?_) (AllReadyH.cons rfl (fun K hK => ?_) AllReadyH.nil)
            · skip
              rw [if_pos (by rfl)]
              obtain ⟨⟨x0, x1, x2, x3, x4, x5, x6, x7, x8, x9⟩, y0, y1, y2, y3, y4, y5, y6, y7, y8, y9⟩ := ten_all HE55.out
              go_simp
              clear x0 x1 x2 x3 x4 x5 x6 x7 x8 x9 y0 y1 y2 y3 y4 y5 y6 y7 y8 y9
              refine hK.out _ _ HR54.out (fun hHeld => ?_)
              clear hK K
              (try simp only [Act.put, List.setIfInBounds_toArray, List.set_cons_zero, List.set_cons_succ])
              refine wpAnyH_ready (rs := [5]) (by kernel_rfl) (by simp) ?_
              refine AllReadyH.cons rfl (fun K hK => ?_) AllReadyH.nil
              rw [if_pos (by rfl)]
              go_simp
              have hb : Below W53.heap.size W53 (W53.alloc (.cells #[.string s.k, .string s.t, .string s.f, .string s.o, .int .i64 s.n, .string s.b] 35)) := (Below.refl _ _).alloc (Nat.le_refl _) _
              have HR58 := Lib.hid (HR54.out.on hb)
              have HE59 := Lib.hid (arr9_on HE55.out hb)
              have HC60 := Lib.hid (And.intro (HC56.out.1.on hb) (And.intro (HC56.out.2.1.on hb) (HC56.out.2.2.on hb)))
              have HA61 : Hid (Arr (W53.alloc (.cells #[.string s.k, .string s.t, .string s.f, .string s.o, .int .i64 s.n, .string s.b] 35)) W53.heap.size 35 (msC s)) := Lib.hid (Arr.fresh W53 35 (msC s))
              clear hb
              refine hK.out _ _ HR58.out (fun hHeld => ?_)
              clear hK K
              (try simp only [Act.put, List.setIfInBounds_toArray, List.set_cons_zero, List.set_cons_succ])
              generalize W53.heap.size = bb62 at HA61 ⊢
              generalize W53.alloc (.cells #[.string s.k, .string s.t, .string s.f, .string s.o, .int .i64 s.n, .string s.b] 35) = W57 at HR58 HE59 HC60 HA61 hHeld ⊢
              refine wpAnyH_ready (rs := [6]) (by kernel_rfl) (by simp) ?_
              refine AllReadyH.cons rfl (fun K hK => ?_) AllReadyH.nil
              rw [if_pos (by rfl)]
              refine wp_app_oneM _ _ rfl (w.heap.size + 4) _ ys rfl HC60.out.2.1 bb62 s rfl HA61.out (by rw [HY.out]; omega) HR58.out.big ?_
              intro v7 W7 hv hg
              obtain ⟨q4, l4, e4⟩ := own_shape10 hv (n := n2 + 1) (by rw [List.length_append, HY.out]; rfl)
              subst e4
              have HV7 := Lib.hid hv
              have HR7 := Lib.hid (HR58.out.grow hg (fun q hq => own_base HC60.out.2.1 q hq))
              have HE7 := Lib.hid (arr_beside10 HE59.out hg (own_ne10 HC60.out.2.1 HE59.out (by decide)))
              have HC7 := Lib.hid (And.intro (own_beside HC60.out.1 hg (own_two HC60.out.2.1 HC60.out.1 (by decide))) (own_beside HC60.out.2.2 hg (own_two HC60.out.2.1 HC60.out.2.2 (by decide))))
              clear hv hg
              refine hK.out _ _ HR7.out (fun hHeld => ?_)
              clear hK K
              (try simp only [Act.put, List.setIfInBounds_toArray, List.set_cons_zero, List.set_cons_succ])
              refine takeQ (i := 7) (k := 66) (v := .pointer (some ⟨b, 0, none⟩)) rfl (by rfl) (by kernel_rfl) (by kernel_rfl) (by kernel_rfl) (fun _ _ _ h => h) (by rfl) ?_ hHeld ?_
              · intro w1 hSw; go_simp
              (try simp only [Act.put, List.setIfInBounds_toArray, List.set_cons_zero, List.set_cons_succ])
              refine takeQ (i := 8) (k := 67) (v := .pointer (some ⟨b, 1, none⟩)) rfl (by rfl) (by kernel_rfl) (by kernel_rfl) (by kernel_rfl) (fun _ _ _ h => h) (by rfl) ?_ hHeld ?_
              · intro w1 hSw; go_simp
              (try simp only [Act.put, List.setIfInBounds_toArray, List.set_cons_zero, List.set_cons_succ])
              obtain ⟨⟨x0, x1, x2, x3, x4, x5, x6, x7, x8, x9⟩, y0, y1, y2, y3, y4, y5, y6, y7, y8, y9⟩ := ten_all HE7.out
              refine wpAnyH_ready (rs := [9]) (by kernel_rfl) (by simp) ?_
              refine AllReadyH.cons rfl (fun K hK => ?_) AllReadyH.nil
              rw [if_pos (by rfl)]
              go_simp
              have HR8 := Lib.hid (RtB.put HR7.out (b := b) (i := 1) (.slice q4 (n2 + 1) l4) hb4)
              have HE8 := Lib.hid (HE7.out.put 1 (.slice q4 (n2 + 1) l4))
              have HV8 := Lib.hid (own_cell10 (i := 1) (u := .slice q4 (n2 + 1) l4) HV7.out (own_ne10 HV7.out HE7.out (by decide)))
              have HC8 := Lib.hid (And.intro (own_cell10 (i := 1) (u := .slice q4 (n2 + 1) l4) HC7.out.1 (own_ne10 HC7.out.1 HE7.out (by decide))) (own_cell10 (i := 1) (u := .slice q4 (n2 + 1) l4) HC7.out.2 (own_ne10 HC7.out.2 HE7.out (by decide))))
              refine hK.out _ _ HR8.out (fun hHeld => ?_)
              clear hK K
              (try simp only [Act.put, List.setIfInBounds_toArray, List.set_cons_zero, List.set_cons_succ])
              refine wpAnyH_done (by kernel_rfl) ?_ _
              exact ⟨⟨q4, l4, HR8.out, HE8.out, HV8.out, HC8.out.1, HC8.out.2⟩, by simp only [putAll, Act.put, List.setIfInBounds_toArray, List.set_cons_zero, List.set_cons_succ]; rfl⟩
            · skip
              rw [if_pos (by rfl)]
              go_simp
              have hb : Below W53.heap.size W53 (W53.alloc (.cells #[.string s.k, .string s.t, .string s.f, .string s.o, .int .i64 s.n, .string s.b] 35)) := (Below.refl _ _).alloc (Nat.le_refl _) _
              have HR64 := Lib.hid (HR54.out.on hb)
              have HE65 := Lib.hid (arr9_on HE55.out hb)
              have HC66 := Lib.hid (And.intro (HC56.out.1.on hb) (And.intro (HC56.out.2.1.on hb) (HC56.out.2.2.on hb)))
              have HA67 : Hid (Arr (W53.alloc (.cells #[.string s.k, .string s.t, .string s.f, .string s.o, .int .i64 s.n, .string s.b] 35)) W53.heap.size 35 (msC s)) := Lib.hid (Arr.fresh W53 35 (msC s))
              clear hb
              refine hK.out _ _ HR64.out (fun hHeld => ?_)
              clear hK K
              (try simp only [Act.put, List.setIfInBounds_toArray, List.set_cons_zero, List.set_cons_succ])
              generalize W53.heap.size = bb68 at HA67 ⊢
              generalize W53.alloc (.cells #[.string s.k, .string s.t, .string s.f, .string s.o, .int .i64 s.n, .string s.b] 35) = W63 at HR64 HE65 HC66 HA67 hHeld ⊢
              refine wpAnyH_ready (rs := [2]) (by kernel_rfl) (by simp) ?_
              refine AllReadyH.cons rfl (fun K hK => ?_) AllReadyH.nil
              rw [if_pos (by rfl)]
              obtain ⟨⟨x0, x1, x2, x3, x4, x5, x6, x7, x8, x9⟩, y0, y1, y2, y3, y4, y5, y6, y7, y8, y9⟩ := ten_all HE65.out
              go_simp
              clear x0 x1 x2 x3 x4 x5 x6 x7 x8 x9 y0 y1 y2 y3 y4 y5 y6 y7 y8 y9
              refine hK.out _ _ HR64.out (fun hHeld => ?_)
              clear hK K
              (try simp only [Act.put, List.setIfInBounds_toArray, List.set_cons_zero, List.set_cons_succ])
              refine wpAnyH_ready (rs := [6]) (by kernel_rfl) (by simp) ?_
              refine AllReadyH.cons rfl (fun K hK => ?_) AllReadyH.nil
              rw [if_pos (by rfl)]
              refine wp_app_oneM _ _ rfl (w.heap.size + 4) _ ys rfl HC66.out.2.1 bb68 s rfl HA67.out (by rw [HY.out]; omega) HR64.out.big ?_
              intro v7 W7 hv hg
              obtain ⟨q4, l4, e4⟩ := own_shape10 hv (n := n2 + 1) (by rw [List.length_append, HY.out]; rfl)
              subst e4
              have HV7 := Lib.hid hv
              have HR7 := Lib.hid (HR64.out.grow hg (fun q hq => own_base HC66.out.2.1 q hq))
              have HE7 := Lib.hid (arr_beside10 HE65.out hg (own_ne10 HC66.out.2.1 HE65.out (by decide)))
              have HC7 := Lib.hid (And.intro (own_beside HC66.out.1 hg (own_two HC66.out.2.1 HC66.out.1 (by decide))) (own_beside HC66.out.2.2 hg (own_two HC66.out.2.1 HC66.out.2.2 (by decide))))
              clear hv hg
              refine hK.out _ _ HR7.out (fun hHeld => ?_)
              clear hK K
              (try simp only [Act.put, List.setIfInBounds_toArray, List.set_cons_zero, List.set_cons_succ])
              refine takeQ (i := 7) (k := 66) (v := .pointer (some ⟨b, 0, none⟩)) rfl (by rfl) (by kernel_rfl) (by kernel_rfl) (by kernel_rfl) (fun _ _ _ h => h) (by rfl) ?_ hHeld ?_
              · intro w1 hSw; go_simp
              (try simp only [Act.put, List.setIfInBounds_toArray, List.set_cons_zero, List.set_cons_succ])
              refine takeQ (i := 8) (k := 67) (v := .pointer (some ⟨b, 1, none⟩)) rfl (by rfl) (by kernel_rfl) (by kernel_rfl) (by kernel_rfl) (fun _ _ _ h => h) (by rfl) ?_ hHeld ?_
              · intro w1 hSw; go_simp
              (try simp only [Act.put, List.setIfInBounds_toArray, List.set_cons_zero, List.set_cons_succ])
              obtain ⟨⟨x0, x1, x2, x3, x4, x5, x6, x7, x8, x9⟩, y0, y1, y2, y3, y4, y5, y6, y7, y8, y9⟩ := ten_all HE7.out
              refine wpAnyH_ready (rs := [9]) (by kernel_rfl) (by simp) ?_
              refine AllReadyH.cons rfl (fun K hK => ?_) AllReadyH.nil
              rw [if_pos (by rfl)]
              go_simp
              have HR8 := Lib.hid (RtB.put HR7.out (b := b) (i := 1) (.slice q4 (n2 + 1) l4) hb4)
              have HE8 := Lib.hid (HE7.out.put 1 (.slice q4 (n2 + 1) l4))
              have HV8 := Lib.hid (own_cell10 (i := 1) (u := .slice q4 (n2 + 1) l4) HV7.out (own_ne10 HV7.out HE7.out (by decide)))
              have HC8 := Lib.hid (And.intro (own_cell10 (i := 1) (u := .slice q4 (n2 + 1) l4) HC7.out.1 (own_ne10 HC7.out.1 HE7.out (by decide))) (own_cell10 (i := 1) (u := .slice q4 (n2 + 1) l4) HC7.out.2 (own_ne10 HC7.out.2 HE7.out (by decide))))
              refine hK.out _ _ HR8.out (fun hHeld => ?_)
              clear hK K
              (try simp only [Act.put, List.setIfInBounds_toArray, List.set_cons_zero, List.set_cons_succ])
              refine wpAnyH_done (by kernel_rfl) ?_ _
              exact ⟨⟨q4, l4, HR8.out, HE8.out, HV8.out, HC8.out.1, HC8.out.2⟩, by simp only [putAll, Act.put, List.setIfInBounds_toArray, List.set_cons_zero, List.set_cons_succ]; rfl⟩
        · rintro vs W9 ⟨q4, l4, hR9, hE9, hV9, hC9, hT9⟩
          have HR9 := Lib.hid hR9
          have HE9 := Lib.hid hE9
          have HV9 := Lib.hid (And.intro hV9 (And.intro hC9 hT9))
          simp only [putAll, Act.put, List.setIfInBounds_toArray, List.set_cons_zero, List.set_cons_succ]
          clear hR9 hE9 hV9 hC9 hT9 x0 x1 x2 x3 x4 x5 x6 x7 x8 x9 y0 y1 y2 y3 y4 y5 y6 y7 y8 y9 m0 m1 s0 s1 s2 s3 s4 s5 t0 t1 r0 r1 r2 r3 r4 r5 r6 r7 r8 r9 u0 u1 u2 u3 u4 u5 u6 u7 u8 u9 hzA hzB hzC hzD hzb
          obtain ⟨⟨x0, x1, x2, x3, x4, x5, x6, x7, x8, x9⟩, y0, y1, y2, y3, y4, y5, y6, y7, y8, y9⟩ := ten_all HE9.out; obtain ⟨⟨m0, m1⟩, _⟩ := arr9_two HR9.out.1; obtain ⟨⟨s0, s1, s2, s3, s4, s5⟩, _⟩ := arr_six0 HR9.out.2.1; obtain ⟨⟨t0, t1⟩, _⟩ := arr9_two HR9.out.2.2.1; obtain ⟨⟨r0, r1, r2, r3, r4, r5, r6, r7, r8, r9⟩, u0, u1, u2, u3, u4, u5, u6, u7, u8, u9⟩ := ten_all HR9.out.2.2.2.1; have hzA := arr9_lt HR9.out.1; have hzB := arr9_lt HR9.out.2.1; have hzC := arr9_lt HR9.out.2.2.1; have hzD := arr9_lt HR9.out.2.2.2.1; have hzb := arr9_lt HE9.out
          go_wp2
          have hyl : (ys ++ [s]).length = n2 + 1 := by rw [List.length_append, HY.out]; rfl
          obtain rfl := HTL.out
          exact bodyPost_ret (v := .agg #[.slice q1 n1 l1, .slice q4 (n2 + 1) l4, .slice q3 0 l3, .string ⟨#[]⟩, .string ⟨#[]⟩, .string ⟨#[]⟩, .string ⟨#[]⟩, .int .i64 0, .string ⟨#[]⟩, .int .i64 0]) (results_cell_row (P := Tryz.prog) Tryz.results29 _ _ (w.heap.size + 1 + 1 + 1) 37 _ (0, 0) _ rfl (arr_put10 HR9.out.2.2.2.1 (.slice q1 n1 l1) (.slice q4 (n2 + 1) l4) (.slice q3 0 l3) (.string ⟨#[]⟩) (.string ⟨#[]⟩) (.string ⟨#[]⟩) (.string ⟨#[]⟩) (.int .i64 0) (.string ⟨#[]⟩) (.int .i64 0)) Tryz.underlying37 rfl (by kernel_rfl)) rfl
            ⟨⟨q1, l1, q4, l4, q3, l3, by unfold roV; rw [HX.out, hyl]; rfl, by rw [HX.out]; exact (own_put10 HV9.out.2.1 (by omega) (.slice q1 n1 l1) (.slice q4 (n2 + 1) l4) (.slice q3 0 l3) (.string ⟨#[]⟩) (.string ⟨#[]⟩) (.string ⟨#[]⟩) (.string ⟨#[]⟩) (.int .i64 0) (.string ⟨#[]⟩) (.int .i64 0)).mono (by omega), by rw [hyl]; exact (own_put10 HV9.out.1 (by omega) (.slice q1 n1 l1) (.slice q4 (n2 + 1) l4) (.slice q3 0 l3) (.string ⟨#[]⟩) (.string ⟨#[]⟩) (.string ⟨#[]⟩) (.string ⟨#[]⟩) (.int .i64 0) (.string ⟨#[]⟩) (.int .i64 0)).mono (by omega), (own_put10 HV9.out.2.2 (by omega) (.slice q1 n1 l1) (.slice q4 (n2 + 1) l4) (.slice q3 0 l3) (.string ⟨#[]⟩) (.string ⟨#[]⟩) (.string ⟨#[]⟩) (.string ⟨#[]⟩) (.int .i64 0) (.string ⟨#[]⟩) (.int .i64 0)).mono (by omega)⟩, below_put10 HR9.out.2.2.2.2 (by omega) (.slice q1 n1 l1) (.slice q4 (n2 + 1) l4) (.slice q3 0 l3) (.string ⟨#[]⟩) (.string ⟨#[]⟩) (.string ⟨#[]⟩) (.string ⟨#[]⟩) (.int .i64 0) (.string ⟨#[]⟩) (.int .i64 0)⟩
      · obtain rfl : R = ⟨xs, ys, [], y, 0⟩ := by rw [hR2]; exact if_neg (fun e => by subst e; rcases hcm with h | ⟨_, h⟩ <;> simp at h)
        clear hR2
        have hfin : ∀ W5 : World, RtB w W5 p1 n1 c1 p2 n2 c2 s f1 f2 → Arr W5 b 37 [.slice q1 n1 l1, .slice q2 n2 l2, .slice q3 0 l3, .string ⟨#[]⟩, .string ⟨#[]⟩, .string ⟨#[]⟩, .string ⟨#[]⟩, .int .i64 0, .string ⟨#[]⟩, .int .i64 0] → (OwnC seC W5 (w.heap.size + 4) 70 4 (.slice q1 n1 l1) xs ∧ OwnC msC W5 (w.heap.size + 4) 35 6 (.slice q2 n2 l2) ys ∧ OwnC strC W5 (w.heap.size + 4) 9 1 (.slice q3 0 l3) tl) → ∀ W6, W6 = put6b W5 b (.string y.k) (.string y.t) (.string y.f) (.string y.o) (.int .i64 y.n) (.string y.b) → RtB w W6 p1 n1 c1 p2 n2 c2 s f1 f2 ∧ OwnC seC W6 (w.heap.size + 4) 70 4 (.slice q1 n1 l1) xs ∧ OwnC msC W6 (w.heap.size + 4) 35 6 (.slice q2 n2 l2) ys ∧ OwnC strC W6 (w.heap.size + 4) 9 1 (.slice q3 0 l3) tl := by
          rintro W5 hR hE ⟨h1, h2, h3⟩ W6 rfl
          exact ⟨hR.put6b hb4 _ _ _ _ _ _, own_put6b h1 (own_ne10 h1 hE (by decide)) _ _ _ _ _ _, own_put6b h2 (own_ne10 h2 hE (by decide)) _ _ _ _ _ _, own_put6b h3 (own_ne10 h3 hE (by decide)) _ _ _ _ _ _⟩
        have HFIN := Lib.hid hfin
        clear hfin
        rcases hcm with hcm | ⟨hcm, hcm2⟩
        · go_wp2_with (first | (go_fit (i7 _ (HM.out _ HR4.out.2.2.2.2)); rintro e W5 ⟨rfl, hb⟩; have HR5 := Lib.hid (HR4.out.on hb); have HE5 := Lib.hid (arr9_on HE4.out hb); have HC5 := Lib.hid (And.intro (HC4.out.1.on hb) (And.intro (HC4.out.2.1.on hb) (HC4.out.2.2.on hb))); clear hb; obtain ⟨⟨x0, x1, x2, x3, x4, x5, x6, x7, x8, x9⟩, y0, y1, y2, y3, y4, y5, y6, y7, y8, y9⟩ := ten_all HE5.out; obtain ⟨⟨m0, m1⟩, _⟩ := arr9_two HR5.out.1; obtain ⟨⟨s0, s1, s2, s3, s4, s5⟩, _⟩ := arr_six0 HR5.out.2.1; obtain ⟨⟨t0, t1⟩, _⟩ := arr9_two HR5.out.2.2.1; obtain ⟨⟨r0, r1, r2, r3, r4, r5, r6, r7, r8, r9⟩, u0, u1, u2, u3, u4, u5, u6, u7, u8, u9⟩ := ten_all HR5.out.2.2.2.1; have hzA := arr9_lt HR5.out.1; have hzB := arr9_lt HR5.out.2.1; have hzC := arr9_lt HR5.out.2.2.1; have hzD := arr9_lt HR5.out.2.2.2.1; have hzb := arr9_lt HE5.out))
          obtain ⟨hR6, k1, k2, k3⟩ := HFIN.out _ HR5.out HE5.out HC5.out _ rfl
          obtain rfl := HTL.out
          have hA := arr9_on (arr_put10 hR6.2.2.2.1 (.slice q1 n1 l1) (.slice q2 n2 l2) (.slice q3 0 l3) (.string y.k) (.string y.t) (.string y.f) (.string y.o) (.int .i64 y.n) (.string y.b) (.int .i64 0)) ((Below.refl _ _).alloc (Nat.le_refl _) (.cells #[.string y.k, .string y.t, .string y.f, .string y.o, .int .i64 y.n, .string y.b] 35))
          have hBw := below_put10 hR6.2.2.2.2 (show w.heap.size ≤ w.heap.size + 1 + 1 + 1 by omega) (.slice q1 n1 l1) (.slice q2 n2 l2) (.slice q3 0 l3) (.string y.k) (.string y.t) (.string y.f) (.string y.o) (.int .i64 y.n) (.string y.b) (.int .i64 0)
          exact bodyPost_ret (v := .agg #[.slice q1 n1 l1, .slice q2 n2 l2, .slice q3 0 l3, .string y.k, .string y.t, .string y.f, .string y.o, .int .i64 y.n, .string y.b, .int .i64 0]) (results_cell_row (P := Tryz.prog) Tryz.results29 _ _ (w.heap.size + 1 + 1 + 1) 37 _ (0, 0) _ rfl hA Tryz.underlying37 rfl (by kernel_rfl)) rfl
            ⟨⟨q1, l1, q2, l2, q3, l3, by unfold roV; rw [HX.out, HY.out]; rfl, by rw [HX.out]; exact ((own_put10 k1 (by omega) (.slice q1 n1 l1) (.slice q2 n2 l2) (.slice q3 0 l3) (.string y.k) (.string y.t) (.string y.f) (.string y.o) (.int .i64 y.n) (.string y.b) (.int .i64 0)).alloc (.cells #[.string y.k, .string y.t, .string y.f, .string y.o, .int .i64 y.n, .string y.b] 35)).mono (by omega), by rw [HY.out]; exact ((own_put10 k2 (by omega) (.slice q1 n1 l1) (.slice q2 n2 l2) (.slice q3 0 l3) (.string y.k) (.string y.t) (.string y.f) (.string y.o) (.int .i64 y.n) (.string y.b) (.int .i64 0)).alloc (.cells #[.string y.k, .string y.t, .string y.f, .string y.o, .int .i64 y.n, .string y.b] 35)).mono (by omega), ((own_put10 k3 (by omega) (.slice q1 n1 l1) (.slice q2 n2 l2) (.slice q3 0 l3) (.string y.k) (.string y.t) (.string y.f) (.string y.o) (.int .i64 y.n) (.string y.b) (.int .i64 0)).alloc (.cells #[.string y.k, .string y.t, .string y.f, .string y.o, .int .i64 y.n, .string y.b] 35)).mono (by omega)⟩, hBw.alloc hBw.size (.cells #[.string y.k, .string y.t, .string y.f, .string y.o, .int .i64 y.n, .string y.b] 35)⟩
        · go_wp2_with (first | (go_fit (i7 _ (HM.out _ HR4.out.2.2.2.2)); rintro e W5 ⟨rfl, hb⟩; have HR5 := Lib.hid (HR4.out.on hb); have HE5 := Lib.hid (arr9_on HE4.out hb); have HC5 := Lib.hid (And.intro (HC4.out.1.on hb) (And.intro (HC4.out.2.1.on hb) (HC4.out.2.2.on hb))); clear hb; obtain ⟨⟨x0, x1, x2, x3, x4, x5, x6, x7, x8, x9⟩, y0, y1, y2, y3, y4, y5, y6, y7, y8, y9⟩ := ten_all HE5.out; obtain ⟨⟨m0, m1⟩, _⟩ := arr9_two HR5.out.1; obtain ⟨⟨s0, s1, s2, s3, s4, s5⟩, _⟩ := arr_six0 HR5.out.2.1; obtain ⟨⟨t0, t1⟩, _⟩ := arr9_two HR5.out.2.2.1; obtain ⟨⟨r0, r1, r2, r3, r4, r5, r6, r7, r8, r9⟩, u0, u1, u2, u3, u4, u5, u6, u7, u8, u9⟩ := ten_all HR5.out.2.2.2.1; have hzA := arr9_lt HR5.out.1; have hzB := arr9_lt HR5.out.2.1; have hzC := arr9_lt HR5.out.2.2.1; have hzD := arr9_lt HR5.out.2.2.2.1; have hzb := arr9_lt HE5.out))
          obtain ⟨hR6, k1, k2, k3⟩ := HFIN.out _ HR5.out HE5.out HC5.out _ rfl
          obtain rfl := HTL.out
          have hA := arr9_on (arr_put10 hR6.2.2.2.1 (.slice q1 n1 l1) (.slice q2 n2 l2) (.slice q3 0 l3) (.string y.k) (.string y.t) (.string y.f) (.string y.o) (.int .i64 y.n) (.string y.b) (.int .i64 0)) ((Below.refl _ _).alloc (Nat.le_refl _) (.cells #[.string y.k, .string y.t, .string y.f, .string y.o, .int .i64 y.n, .string y.b] 35))
          have hBw := below_put10 hR6.2.2.2.2 (show w.heap.size ≤ w.heap.size + 1 + 1 + 1 by omega) (.slice q1 n1 l1) (.slice q2 n2 l2) (.slice q3 0 l3) (.string y.k) (.string y.t) (.string y.f) (.string y.o) (.int .i64 y.n) (.string y.b) (.int .i64 0)
          exact bodyPost_ret (v := .agg #[.slice q1 n1 l1, .slice q2 n2 l2, .slice q3 0 l3, .string y.k, .string y.t, .string y.f, .string y.o, .int .i64 y.n, .string y.b, .int .i64 0]) (results_cell_row (P := Tryz.prog) Tryz.results29 _ _ (w.heap.size + 1 + 1 + 1) 37 _ (0, 0) _ rfl hA Tryz.underlying37 rfl (by kernel_rfl)) rfl
            ⟨⟨q1, l1, q2, l2, q3, l3, by unfold roV; rw [HX.out, HY.out]; rfl, by rw [HX.out]; exact ((own_put10 k1 (by omega) (.slice q1 n1 l1) (.slice q2 n2 l2) (.slice q3 0 l3) (.string y.k) (.string y.t) (.string y.f) (.string y.o) (.int .i64 y.n) (.string y.b) (.int .i64 0)).alloc (.cells #[.string y.k, .string y.t, .string y.f, .string y.o, .int .i64 y.n, .string y.b] 35)).mono (by omega), by rw [HY.out]; exact ((own_put10 k2 (by omega) (.slice q1 n1 l1) (.slice q2 n2 l2) (.slice q3 0 l3) (.string y.k) (.string y.t) (.string y.f) (.string y.o) (.int .i64 y.n) (.string y.b) (.int .i64 0)).alloc (.cells #[.string y.k, .string y.t, .string y.f, .string y.o, .int .i64 y.n, .string y.b] 35)).mono (by omega), ((own_put10 k3 (by omega) (.slice q1 n1 l1) (.slice q2 n2 l2) (.slice q3 0 l3) (.string y.k) (.string y.t) (.string y.f) (.string y.o) (.int .i64 y.n) (.string y.b) (.int .i64 0)).alloc (.cells #[.string y.k, .string y.t, .string y.f, .string y.o, .int .i64 y.n, .string y.b] 35)).mono (by omega)⟩, hBw.alloc hBw.size (.cells #[.string y.k, .string y.t, .string y.f, .string y.o, .int .i64 y.n, .string y.b] 35)⟩
end Go.Proofs.YtpjmcpfmnlfmdaaGreat

namespace Go.Proofs.YtpjmcpfmnlfmdaaGreat
set_option linter.unusedSimpArgs false
set_option linter.unusedVariables false
open Go.RowKit Go.Joins

theorem rtd_T (k : ByteArray) (T : RtL) (xs : List SeL) (ys : List MsL) (s : MsL) : rtdR k xs ys s (T.to (resA s.o) xs) (T.rest ys s) = routeR k T xs ys s := by
  unfold rtdR routeR withT
  rfl
theorem rout_k {k : ByteArray} {xs : List SeL} {ys : List MsL} {s : MsL} (h : routB k xs ys s = true) : s.k.toList = k.toList := by
  unfold routB at h
  simp only [Bool.and_eq_true, beq_iff_eq] at h
  exact h.1.2
theorem cmp_z {k : ByteArray} {xs : List SeL} {ys : List MsL} {s : MsL} (hk : k.toList ≠ []) (h : routB k xs ys s = true) : (zMs.k.toList == s.k.toList) = false := by
  rw [rout_k h]
  have e : zMs.k.toList = [] := by rw [ByteArray.toList_eq]; rfl
  rw [e]
  cases hq : k.toList with
  | nil => exact absurd hq hk
  | cons a l => rfl
theorem cmp_flt {k : ByteArray} {xs : List SeL} {ys : List MsL} {s : MsL} {nm : ByteArray} (hk : k.toList ≠ []) (h : routB k xs ys s = true) :
    ((fltM s nm).k.toList == s.k.toList) = false ∨ ((fltM s nm).k.toList == s.k.toList) = true ∧ ((fltM s nm).t.toList == s.t.toList) = false := by
  unfold fltM
  split
  · exact .inl (cmp_z hk h)
  · rename_i h1
    unfold repM
    split
    · refine .inr ⟨by simp, ?_⟩
      simp only [Bool.or_eq_true, not_or] at h1
      have h2 : (s.t.toList == errS.toList) = false := by simpa using h1.1
      rw [beq_eq_false_iff_ne] at h2 ⊢
      exact fun e => h2 e.symm
    · exact .inl (cmp_z hk h)
def trV (f1 f2 : Nat) : Value := .agg #[.func (.func f1) #[] #[], .func (.func f2) #[] #[]]
theorem head_list : headS.toList = [104, 101, 97, 100, 108, 105, 110, 101] := by rw [ByteArray.toList_eq]; rfl
theorem grp_list : grpS.toList = [103, 114, 111, 117, 112, 99, 104, 97, 116] := by rw [ByteArray.toList_eq]; rfl
theorem get_list : getS.toList = [103, 101, 116] := by rw [ByteArray.toList_eq]; rfl
theorem set_list : setS.toList = [115, 101, 116] := by rw [ByteArray.toList_eq]; rfl
theorem tr_box (w : World) : Arr (w.alloc (.cells #[.nilFunc, .nilFunc] 59)) w.heap.size 59 [.nilFunc, .nilFunc] ∧
    (w.alloc (.cells #[.nilFunc, .nilFunc] 59)).cell? ⟨w.heap.size, 0, none⟩ = some .nilFunc ∧ (w.alloc (.cells #[.nilFunc, .nilFunc] 59)).cell? ⟨w.heap.size, 1, none⟩ = some .nilFunc ∧
    (w.alloc (.cells #[.nilFunc, .nilFunc] 59)).frozen? ⟨w.heap.size, 0, none⟩ = false ∧ (w.alloc (.cells #[.nilFunc, .nilFunc] 59)).frozen? ⟨w.heap.size, 1, none⟩ = false := by
  have h := Arr.fresh w 59 [.nilFunc, .nilFunc]
  exact ⟨h, h.cell 0, h.cell 1, h.free 0, h.free 1⟩
theorem tr_s1 (w : World) (v : Value) (hv : v.oneCell' = true) : (store ⟨w.heap.size, 0, none⟩ v).run Tryz.prog (w.alloc (.cells #[.nilFunc, .nilFunc] 59)) = .ok () (w.alloc (.cells #[v, .nilFunc] 59)) := by
  obtain ⟨hA, a0, a1, u0, u1⟩ := tr_box w
  rw [run_store _ _ _ _ _ hv]
  simp only [a0, u0]
  go_simp
theorem tr_s2 (w : World) (v1 v2 : Value) (hv : v2.oneCell' = true) : (store ⟨w.heap.size, 1, none⟩ v2).run Tryz.prog (w.alloc (.cells #[v1, .nilFunc] 59)) = .ok () (w.alloc (.cells #[v1, v2] 59)) := by
  have h := Arr.fresh w 59 [v1, .nilFunc]
  have e1 : (w.alloc (.cells #[v1, .nilFunc] 59)).cell? ⟨w.heap.size, 1, none⟩ = some .nilFunc := h.cell 1
  have e2 : (w.alloc (.cells #[v1, .nilFunc] 59)).frozen? ⟨w.heap.size, 1, none⟩ = false := h.free 1
  rw [run_store _ _ _ _ _ hv]
  simp only [e1, e2]
  go_simp
theorem tr_end {fn : Func} (w : World) (tmps : Array Value) (p : Tmp) (v1 v2 : Value) (hr : fn.results = #[ResultVar.cell p 59]) (ht : tmps.getD p undef = .pointer (some ⟨w.heap.size, 0, none⟩)) :
    bodyPost Tryz.prog fn (fun e w' => e = .returned (.agg #[v1, v2]) ∧ Below w.heap.size w w') .ret ⟨tmps, []⟩ (w.alloc (.cells #[v1, v2] 59)) :=
  bodyPost_ret (v := .agg #[v1, v2]) (results_cell_row (P := Tryz.prog) hr _ _ w.heap.size 59 _ (0, 0) _ ht (Arr.fresh w 59 [v1, v2]) Tryz.underlying59 rfl (by kernel_rfl)) rfl ⟨rfl, (Below.refl _ _).alloc (Nat.le_refl _) _⟩
def mesF (t : ByteArray) : Nat × Nat := if t.toList == errS.toList then (57, 43) else if t.toList == headS.toList then (58, 43) else if t.toList == grpS.toList then (59, 60) else (58, 61)
def iqF (t : ByteArray) : Nat × Nat := if (t.toList == getS.toList) || (t.toList == setS.toList) then (66, 60) else (66, 43)
set_option maxHeartbeats 1000000 in
theorem impl_mestr (t : ByteArray) (w : World) : Calls Tryz.prog 30 #[.string t] w fun e w' => e = .returned (trV (mesF t).1 (mesF t).2) ∧ Below w.heap.size w w' := by
  unfold mesF trV
  rw [err_list, head_list, grp_list]
  cases h1 : (t.toList == [101, 114, 114, 111, 114])
  · cases h2 : (t.toList == [104, 101, 97, 100, 108, 105, 110, 101])
    · cases h3 : (t.toList == [103, 114, 111, 117, 112, 99, 104, 97, 116])
      · have e1 := tr_s1 w (.func (.func 58) #[] #[]) rfl
        have e2 := tr_s2 w (.func (.func 58) #[] #[]) (.func (.func 61) #[] #[]) rfl
        go_enter Tryz.func30, Tryz.ntmps30
        go_wp2
        exact tr_end w _ _ (.func (.func 58) #[] #[]) (.func (.func 61) #[] #[]) Tryz.results30 (by rfl)
      · have e1 := tr_s1 w (.func (.func 59) #[] #[]) rfl
        have e2 := tr_s2 w (.func (.func 59) #[] #[]) (.func (.func 60) #[] #[]) rfl
        go_enter Tryz.func30, Tryz.ntmps30
        go_wp2
        exact tr_end w _ _ (.func (.func 59) #[] #[]) (.func (.func 60) #[] #[]) Tryz.results30 (by rfl)
    · have e1 := tr_s1 w (.func (.func 58) #[] #[]) rfl
      have e2 := tr_s2 w (.func (.func 58) #[] #[]) (.func (.func 43) #[] #[]) rfl
      go_enter Tryz.func30, Tryz.ntmps30
      go_wp2
      exact tr_end w _ _ (.func (.func 58) #[] #[]) (.func (.func 43) #[] #[]) Tryz.results30 (by rfl)
  · have e1 := tr_s1 w (.func (.func 57) #[] #[]) rfl
    have e2 := tr_s2 w (.func (.func 57) #[] #[]) (.func (.func 43) #[] #[]) rfl
    go_enter Tryz.func30, Tryz.ntmps30
    go_wp2
    exact tr_end w _ _ (.func (.func 57) #[] #[]) (.func (.func 43) #[] #[]) Tryz.results30 (by rfl)
set_option maxHeartbeats 1000000 in
theorem impl_iqtr (t : ByteArray) (w : World) : Calls Tryz.prog 41 #[.string t] w fun e w' => e = .returned (trV (iqF t).1 (iqF t).2) ∧ Below w.heap.size w w' := by
  unfold iqF trV
  rw [get_list, set_list]
  cases h1 : (t.toList == [103, 101, 116])
  · cases h2 : (t.toList == [115, 101, 116])
    · have e1 := tr_s1 w (.func (.func 66) #[] #[]) rfl
      have e2 := tr_s2 w (.func (.func 66) #[] #[]) (.func (.func 43) #[] #[]) rfl
      go_enter Tryz.func41, Tryz.ntmps41
      go_wp2
      exact tr_end w _ _ (.func (.func 66) #[] #[]) (.func (.func 43) #[] #[]) Tryz.results41 (by rfl)
    · have e1 := tr_s1 w (.func (.func 66) #[] #[]) rfl
      have e2 := tr_s2 w (.func (.func 66) #[] #[]) (.func (.func 60) #[] #[]) rfl
      go_enter Tryz.func41, Tryz.ntmps41
      go_wp2
      exact tr_end w _ _ (.func (.func 66) #[] #[]) (.func (.func 60) #[] #[]) Tryz.results41 (by rfl)
  · have e1 := tr_s1 w (.func (.func 66) #[] #[]) rfl
    have e2 := tr_s2 w (.func (.func 66) #[] #[]) (.func (.func 60) #[] #[]) rfl
    go_enter Tryz.func41, Tryz.ntmps41
    go_wp2
    exact tr_end w _ _ (.func (.func 66) #[] #[]) (.func (.func 60) #[] #[]) Tryz.results41 (by rfl)
/-- What a route asks of its treatment. -/
def TrOk (T : RtL) (k : ByteArray) (xs : List SeL) (ys : List MsL) (s : MsL) (f1 f2 : Nat) : Prop :=
  (routB k xs ys s = true → T.rest ys s = s ∨ ((T.rest ys s).k.toList == s.k.toList) = false ∨ ((T.rest ys s).k.toList == s.k.toList) = true ∧ ((T.rest ys s).t.toList == s.t.toList) = false) ∧
  (∀ args W, (callFunc f1 args).run Tryz.prog W = .ok (.enter f1 args) W) ∧ (∀ args W, (callFunc f2 args).run Tryz.prog W = .ok (.enter f2 args) W) ∧
  (∀ (p1 : Option Addr) (c1 : Nat) (W : World), routB k xs ys s = true → RowC seC 4 W p1 xs → Calls Tryz.prog f1 #[.slice p1 xs.length c1, .string (resA s.o)] W fun e w' => StIs W.heap.size (T.to (resA s.o) xs) e w' ∧ Below W.heap.size W w') ∧
  (∀ (p1 p2 : Option Addr) (n1 c1 c2 : Nat) (W : World), MaxL W → Calls Tryz.prog f2 #[.agg #[.slice p1 n1 c1, .slice p2 ys.length c2], msV s] W fun e w' => e = .returned (msV (T.rest ys s)) ∧ Below W.heap.size W w')
theorem run_enter10 {P : Program} {f : FuncId} {fn : Func} {c : Code} (hf : P.funcs[f]? = some fn) (hname : (fn.name == "runtime.NumGoroutine") = false) (hb : fn.body = some c) (args : Array Value) (w : World) : (callFunc f args).run P w = .ok (.enter f args) w := by
  have h1 : fn.name ≠ "runtime.NumGoroutine" := by simpa using hname
  simp [callFunc, hf, h1, hb]
theorem call_toNobody : ∀ args W, (callFunc 57 args).run Tryz.prog W = .ok (.enter 57 args) W := fun args W => run_enter10 Tryz.func57 (by kernel_rfl) rfl args W
theorem call_toNamed : ∀ args W, (callFunc 59 args).run Tryz.prog W = .ok (.enter 59 args) W := fun args W => run_enter10 Tryz.func59 (by kernel_rfl) rfl args W
theorem call_toNamedOrBest : ∀ args W, (callFunc 58 args).run Tryz.prog W = .ok (.enter 58 args) W := fun args W => run_enter10 Tryz.func58 (by kernel_rfl) rfl args W
theorem call_toBound : ∀ args W, (callFunc 66 args).run Tryz.prog W = .ok (.enter 66 args) W := fun args W => run_enter10 Tryz.func66 (by kernel_rfl) rfl args W
theorem call_toPresent : ∀ args W, (callFunc 42 args).run Tryz.prog W = .ok (.enter 42 args) W := fun args W => run_enter10 Tryz.func42 (by kernel_rfl) rfl args W
theorem call_keepNothing : ∀ args W, (callFunc 43 args).run Tryz.prog W = .ok (.enter 43 args) W := fun args W => run_enter10 Tryz.func43 (by kernel_rfl) rfl args W
theorem call_answerUnavailable : ∀ args W, (callFunc 60 args).run Tryz.prog W = .ok (.enter 60 args) W := fun args W => run_enter10 Tryz.func60 (by kernel_rfl) rfl args W
theorem call_keepOrAnswerFull : ∀ args W, (callFunc 61 args).run Tryz.prog W = .ok (.enter 61 args) W := fun args W => run_enter10 Tryz.func61 (by kernel_rfl) rfl args W
theorem mess_ne : kMess.toList ≠ [] := by rw [mess_list]; decide
theorem iq_list : kIq.toList = [105, 113] := by rw [ByteArray.toList_eq]; rfl
theorem iq_ne : kIq.toList ≠ [] := by rw [iq_list]; decide
theorem pres_list : kPres.toList = [112, 114, 101, 115, 101, 110, 99, 101] := by rw [ByteArray.toList_eq]; rfl
theorem pres_ne : kPres.toList ≠ [] := by rw [pres_list]; decide
theorem five {k : ByteArray} {xs : List SeL} {ys : List MsL} {s : MsL} (h : routB k xs ys s = true) : xs.length ≤ 5 := by
  unfold routB at h
  simp only [Bool.and_eq_true] at h
  exact (okB_iff.1 (mb_parts h.1.1.1).1).1
theorem ok_none (k : ByteArray) (hk : k.toList ≠ []) (xs : List SeL) (ys : List MsL) (s : MsL) : TrOk noneT k xs ys s 57 43 :=
  ⟨fun h => .inr (.inl (cmp_z hk h)), call_toNobody, call_keepNothing, fun p1 c1 W _ _ => to_nobody _ _ W, fun p1 p2 n1 c1 c2 W _ => rest_none p1 n1 c1 p2 ys.length c2 s W⟩
theorem ok_head (k : ByteArray) (hk : k.toList ≠ []) (xs : List SeL) (ys : List MsL) (s : MsL) (hw : SzS xs) : TrOk headT k xs ys s 58 43 :=
  ⟨fun h => .inr (.inl (cmp_z hk h)), call_toNamedOrBest, call_keepNothing, fun p1 c1 W hr h => to_nb xs _ p1 c1 W (by have := five hr; omega) hw h, fun p1 p2 n1 c1 c2 W _ => rest_none p1 n1 c1 p2 ys.length c2 s W⟩
theorem ok_grp (k : ByteArray) (hk : k.toList ≠ []) (xs : List SeL) (ys : List MsL) (s : MsL) (hw : SzS xs) (hs : s.le 1048576) : TrOk grpT k xs ys s 59 60 :=
  ⟨fun h => .inr (cmp_flt hk h), call_toNamed, call_answerUnavailable, fun p1 c1 W hr h => to_named xs _ p1 c1 W (by have := five hr; omega) hw h, fun p1 p2 n1 c1 c2 W hm => rest_unav p1 n1 c1 p2 ys.length c2 s W hs hm⟩
theorem ok_else (k : ByteArray) (hk : k.toList ≠ []) (xs : List SeL) (ys : List MsL) (s : MsL) (hw : SzS xs) (hs : s.le 1048576) : TrOk elseT k xs ys s 58 61 :=
  ⟨fun h => by
    show fullM ys s = s ∨ ((fullM ys s).k.toList == s.k.toList) = false ∨ ((fullM ys s).k.toList == s.k.toList) = true ∧ ((fullM ys s).t.toList == s.t.toList) = false
    unfold fullM
    split
    · exact .inr (cmp_flt hk h)
    · exact .inl rfl, call_toNamedOrBest, call_keepOrAnswerFull, fun p1 c1 W hr h => to_nb xs _ p1 c1 W (by have := five hr; omega) hw h, fun p1 p2 n1 c1 c2 W hm => rest_full ys p1 n1 c1 p2 ys.length c2 s W hs rfl hm⟩
theorem ok_ask (k : ByteArray) (hk : k.toList ≠ []) (xs : List SeL) (ys : List MsL) (s : MsL) (hw : SzS xs) (hs : s.le 1048576) : TrOk askT k xs ys s 66 60 :=
  ⟨fun h => .inr (cmp_flt hk h), call_toBound, call_answerUnavailable, fun p1 c1 W hr h => to_bound xs _ p1 c1 W (by have := five hr; omega) hw h, fun p1 p2 n1 c1 c2 W hm => rest_unav p1 n1 c1 p2 ys.length c2 s W hs hm⟩
theorem ok_tell (k : ByteArray) (hk : k.toList ≠ []) (xs : List SeL) (ys : List MsL) (s : MsL) (hw : SzS xs) : TrOk tellT k xs ys s 66 43 :=
  ⟨fun h => .inr (.inl (cmp_z hk h)), call_toBound, call_keepNothing, fun p1 c1 W hr h => to_bound xs _ p1 c1 W (by have := five hr; omega) hw h, fun p1 p2 n1 c1 c2 W _ => rest_none p1 n1 c1 p2 ys.length c2 s W⟩
theorem ok_pres (k : ByteArray) (hk : k.toList ≠ []) (xs : List SeL) (ys : List MsL) (s : MsL) (hw : SzS xs) : TrOk presT k xs ys s 42 43 :=
  ⟨fun h => .inr (.inl (cmp_z hk h)), call_toPresent, call_keepNothing, fun p1 c1 W hr h => to_pres xs _ p1 c1 W (by have := five hr; omega) hw h, fun p1 p2 n1 c1 c2 W _ => rest_none p1 n1 c1 p2 ys.length c2 s W⟩
/-- routed, by a treatment. -/
theorem impl_routT (T : RtL) (k : ByteArray) (xs : List SeL) (ys : List MsL) (p1 p2 : Option Addr) (n1 n2 c1 c2 : Nat) (s : MsL) (f1 f2 : Nat) (w : World) (hx : xs.length = n1) (hy : ys.length = n2) (hn1 : n1 ≤ 1048576) (hn2 : n2 ≤ 1048576) (hw : SzS xs) (hw2 : SzM ys) (hs : s.le 1048576) (hR1 : RowC seC 4 w p1 xs) (hR2 : RowC msC 6 w p2 ys) (hm : MaxL w)
    (hT : TrOk T k xs ys s f1 f2) :
    Calls Tryz.prog 29 #[.agg #[.slice p1 n1 c1, .slice p2 n2 c2], .agg #[.string s.k, .string s.t, .string s.f, .string s.o, .int .i64 s.n, .string s.b], .string k, trV f1 f2] w fun e w' => RoIs w.heap.size (routeR k T xs ys s) e w' ∧ Below w.heap.size w w' := by
  obtain ⟨q1, q2, q3, q4, q5⟩ := hT
  rw [← rtd_T]
  subst hx hy
  exact impl_routed k xs ys p1 p2 _ _ c1 c2 s _ _ f1 f2 w rfl rfl hn1 hn2 hw hw2 hs hR1 hR2 hm q1 q2 q3 (fun W hr h => q4 p1 c1 W hr h) (fun W _ h => q5 p1 p2 _ c1 c2 W h)
theorem ok_mes (xs : List SeL) (ys : List MsL) (s : MsL) (hw : SzS xs) (hs : s.le 1048576) : TrOk (mesT s.t) kMess xs ys s (mesF s.t).1 (mesF s.t).2 := by
  unfold mesT mesF
  split
  · exact ok_none _ mess_ne _ _ _
  · split
    · exact ok_head _ mess_ne _ _ _ hw
    · split
      · exact ok_grp _ mess_ne _ _ _ hw hs
      · exact ok_else _ mess_ne _ _ _ hw hs
theorem ok_iq (xs : List SeL) (ys : List MsL) (s : MsL) (hw : SzS xs) (hs : s.le 1048576) : TrOk (iqT s.t) kIq xs ys s (iqF s.t).1 (iqF s.t).2 := by
  unfold iqT iqF
  split
  · exact ok_ask _ iq_ne _ _ _ hw hs
  · exact ok_tell _ iq_ne _ _ _ hw
/-- The boxes of a route. -/
def RqB (w W : World) (p1 : Option Addr) (n1 c1 : Nat) (p2 : Option Addr) (n2 c2 : Nat) (s : MsL) : Prop := Arr W w.heap.size 33 [.slice p1 n1 c1, .slice p2 n2 c2] ∧ Arr W (w.heap.size + 1) 35 [.string s.k, .string s.t, .string s.f, .string s.o, .int .i64 s.n, .string s.b] ∧ Arr W (w.heap.size + 1 + 1) 37 [.slice none 0 0, .slice none 0 0, .slice none 0 0, .string ⟨#[]⟩, .string ⟨#[]⟩, .string ⟨#[]⟩, .string ⟨#[]⟩, .int .i64 0, .string ⟨#[]⟩, .int .i64 0] ∧ Below w.heap.size w W
theorem RqB.on {w W W2 : World} {p1 : Option Addr} {n1 c1 : Nat} {p2 : Option Addr} {n2 c2 : Nat} {s : MsL} (h : RqB w W p1 n1 c1 p2 n2 c2 s) (hb : Below W.heap.size W W2) : RqB w W2 p1 n1 c1 p2 n2 c2 s := ⟨arr9_on h.1 hb, arr9_on h.2.1 hb, arr9_on h.2.2.1 hb, h.2.2.2.trans (hb.mono h.2.2.2.size)⟩
theorem RqB.big {w W : World} {p1 : Option Addr} {n1 c1 : Nat} {p2 : Option Addr} {n2 c2 : Nat} {s : MsL} (h : RqB w W p1 n1 c1 p2 n2 c2 s) : w.heap.size + 3 ≤ W.heap.size := by have := arr9_lt h.2.2.1; omega
theorem rqb_start (w : World) (p1 : Option Addr) (n1 c1 : Nat) (p2 : Option Addr) (n2 c2 : Nat) (s : MsL) : RqB w (((w.alloc (.cells #[.slice p1 n1 c1, .slice p2 n2 c2] 33)).alloc (.cells #[.string s.k, .string s.t, .string s.f, .string s.o, .int .i64 s.n, .string s.b] 35)).alloc (.cells #[.slice none 0 0, .slice none 0 0, .slice none 0 0, .string ⟨#[]⟩, .string ⟨#[]⟩, .string ⟨#[]⟩, .string ⟨#[]⟩, .int .i64 0, .string ⟨#[]⟩, .int .i64 0] 37)) p1 n1 c1 p2 n2 c2 s := by
  have h1 := Arr.fresh (w.alloc (.cells #[.slice p1 n1 c1, .slice p2 n2 c2] 33)) 35 [.string s.k, .string s.t, .string s.f, .string s.o, .int .i64 s.n, .string s.b]
  have h2 := Arr.fresh ((w.alloc (.cells #[.slice p1 n1 c1, .slice p2 n2 c2] 33)).alloc (.cells #[.string s.k, .string s.t, .string s.f, .string s.o, .int .i64 s.n, .string s.b] 35)) 37 [.slice none 0 0, .slice none 0 0, .slice none 0 0, .string ⟨#[]⟩, .string ⟨#[]⟩, .string ⟨#[]⟩, .string ⟨#[]⟩, .int .i64 0, .string ⟨#[]⟩, .int .i64 0]
  simp only [World.size_alloc] at h1 h2
  have al : ∀ (W : World) (o : Obj), Below W.heap.size W (W.alloc o) := fun W o => (Below.refl _ _).alloc (Nat.le_refl _) _
  exact ⟨arr9_on (arr9_on (Arr.fresh w 33 [.slice p1 n1 c1, .slice p2 n2 c2]) (al _ _)) (al _ _), arr9_on h1 (al _ _), h2, (((Below.refl _ _).alloc (Nat.le_refl _) _).alloc (by simp) _).alloc (by simp; omega) _⟩
set_option maxRecDepth 100000 in
set_option maxHeartbeats 2000000 in
theorem impl_rmess (xs : List SeL) (ys : List MsL) (p1 p2 : Option Addr) (n1 n2 c1 c2 : Nat) (s : MsL) (w : World) (hx : xs.length = n1) (hy : ys.length = n2) (hn1 : n1 ≤ 1048576) (hn2 : n2 ≤ 1048576) (hw : SzS xs) (hw2 : SzM ys) (hs : s.le 1048576) (hR1 : RowC seC 4 w p1 xs) (hR2 : RowC msC 6 w p2 ys) (hm : MaxL w) :
    Calls Tryz.prog 11 #[.agg #[.slice p1 n1 c1, .slice p2 n2 c2], .agg #[.string s.k, .string s.t, .string s.f, .string s.o, .int .i64 s.n, .string s.b]] w fun e w' => RoIs w.heap.size (messR xs ys s) e w' ∧ Below w.heap.size w w' := by
  have i1 := fun W => impl_mestr s.t W
  have i2 := fun W h1 h2 hm => impl_routT (mesT s.t) kMess xs ys p1 p2 n1 n2 c1 c2 s _ _ W hx hy hn1 hn2 hw hw2 hs h1 h2 hm (ok_mes xs ys s hw hs)
  unfold messR
  obtain ⟨R, hR⟩ : ∃ R, routeR kMess (mesT s.t) xs ys s = R := ⟨_, rfl⟩
  rw [hR] at i2 ⊢
  obtain ⟨g1, hg1⟩ : ∃ g, (mesF s.t).1 = g := ⟨_, rfl⟩
  obtain ⟨g2, hg2⟩ : ∃ g, (mesF s.t).2 = g := ⟨_, rfl⟩
  rw [hg1, hg2] at i1 i2
  unfold RoIs roV at i2
  unfold trV at i1 i2
  unfold kMess at i2
  have HQ := Lib.hid (rqb_start w p1 n1 c1 p2 n2 c2 s)
  have HM := Lib.hid (fun W (h : Below w.heap.size w W) => hm.below h hm.pos)
  have HP1 := Lib.hid (fun W (h : Below w.heap.size w W) => hR1.on h)
  have HP2 := Lib.hid (fun W (h : Below w.heap.size w W) => hR2.on h)
  clear hR hx hy hw hw2 hs hR1 hR2 hm hg1 hg2
  go_enter Tryz.func11, Tryz.ntmps11
  go_wp2
  refine wp_region_held_drew (S := fun W => Arr W w.heap.size 33 [.slice p1 n1 c1, .slice p2 n2 c2] ∧ Arr W (w.heap.size + 1) 35 [.string s.k, .string s.t, .string s.f, .string s.o, .int .i64 s.n, .string s.b]) (by kernel_rfl) ⟨(HQ.out.on (Below.refl _ _).drew).1, (HQ.out.on (Below.refl _ _).drew).2.1⟩ (fun hHeld => ?_)
  have HQ0 := Lib.hid (HQ.out.on (Below.refl _ _).drew)
  generalize World.drew _ = wd at HQ0 hHeld ⊢
  refine takeQ (i := 0) (k := 5) (v := .agg #[.slice p1 n1 c1, .slice p2 n2 c2]) rfl (by rfl) (by kernel_rfl) (by kernel_rfl) (by kernel_rfl) (fun _ _ _ h => h) (by rfl) ?_ hHeld ?_
  · intro w1 hSw; obtain ⟨⟨m0, m1⟩, _⟩ := arr9_two hSw.1; obtain ⟨⟨s0, s1, s2, s3, s4, s5⟩, _⟩ := arr_six0 hSw.2; go_simp
  (try simp only [Act.put, List.setIfInBounds_toArray, List.set_cons_zero, List.set_cons_succ])
  refine takeQ (i := 1) (k := 6) (v := .agg #[.string s.k, .string s.t, .string s.f, .string s.o, .int .i64 s.n, .string s.b]) rfl (by rfl) (by kernel_rfl) (by kernel_rfl) (by kernel_rfl) (fun _ _ _ h => h) (by rfl) ?_ hHeld ?_
  · intro w1 hSw; obtain ⟨⟨m0, m1⟩, _⟩ := arr9_two hSw.1; obtain ⟨⟨s0, s1, s2, s3, s4, s5⟩, _⟩ := arr_six0 hSw.2; go_simp
  (try simp only [Act.put, List.setIfInBounds_toArray, List.set_cons_zero, List.set_cons_succ])
  refine takeQ (i := 2) (k := 7) (v := .pointer (some ⟨w.heap.size + 1, 1, none⟩)) rfl (by rfl) (by kernel_rfl) (by kernel_rfl) (by kernel_rfl) (fun _ _ _ h => h) (by rfl) ?_ hHeld ?_
  · intro w1 hSw; obtain ⟨⟨m0, m1⟩, _⟩ := arr9_two hSw.1; obtain ⟨⟨s0, s1, s2, s3, s4, s5⟩, _⟩ := arr_six0 hSw.2; go_simp
  (try simp only [Act.put, List.setIfInBounds_toArray, List.set_cons_zero, List.set_cons_succ])
  refine takeQ (i := 3) (k := 8) (v := .string s.t) rfl (by rfl) (by kernel_rfl) (by kernel_rfl) (by kernel_rfl) (fun _ _ _ h => h) (by rfl) ?_ hHeld ?_
  · intro w1 hSw; obtain ⟨⟨m0, m1⟩, _⟩ := arr9_two hSw.1; obtain ⟨⟨s0, s1, s2, s3, s4, s5⟩, _⟩ := arr_six0 hSw.2; go_simp
  (try simp only [Act.put, List.setIfInBounds_toArray, List.set_cons_zero, List.set_cons_succ])
  refine wpAnyH_ready (rs := [4]) (by kernel_rfl) (by simp) ?_
  refine AllReadyH.cons rfl (fun K hK => ?_) AllReadyH.nil
  rw [if_pos (by rfl)]
  go_simp
  go_fit (i1 _)
  rintro e w1 ⟨rfl, hb⟩
  have HQ1 := Lib.hid (HQ0.out.on hb)
  clear hb
  refine hK.out _ _ ⟨HQ1.out.1, HQ1.out.2.1⟩ (fun hHeld => ?_)
  clear hK K
  (try simp only [Act.put, List.setIfInBounds_toArray, List.set_cons_zero, List.set_cons_succ])
  refine wpAnyH_ready (rs := [5]) (by kernel_rfl) (by simp) ?_
  refine AllReadyH.cons rfl (fun K hK => ?_) AllReadyH.nil
  rw [if_pos (by rfl)]
  go_simp
  go_fit (i2 _ (HP1.out _ HQ1.out.2.2.2) (HP2.out _ HQ1.out.2.2.2) (HM.out _ HQ1.out.2.2.2))
  rintro e w2 ⟨⟨q1, l1, q2, l2, q3, l3, rfl, h1, h2, h3⟩, hb⟩
  have HQ2 := Lib.hid (HQ1.out.on hb)
  have HO := Lib.hid (And.intro (h1.mono HQ1.out.big) (And.intro (h2.mono HQ1.out.big) (h3.mono HQ1.out.big)))
  clear hb h1 h2 h3
  refine hK.out _ _ ⟨HQ2.out.1, HQ2.out.2.1⟩ (fun hHeld => ?_)
  clear hK K
  (try simp only [Act.put, List.setIfInBounds_toArray, List.set_cons_zero, List.set_cons_succ])
  obtain ⟨⟨r0, r1, r2, r3, r4, r5, r6, r7, r8, r9⟩, u0, u1, u2, u3, u4, u5, u6, u7, u8, u9⟩ := ten_all HQ2.out.2.2.1
  refine wpAnyH_ready (rs := [6]) (by kernel_rfl) (by simp) ?_
  refine AllReadyH.cons rfl (fun K hK => ?_) AllReadyH.nil
  rw [if_pos (by rfl)]
  go_simp
  have hf1 := arr_far10 HQ2.out.1 (show w.heap.size ≠ w.heap.size + 1 + 1 by omega) (.slice q1 R.l.length l1) (.slice q2 R.ks.length l2) (.slice q3 R.to.length l3) (.string R.bk.k) (.string R.bk.t) (.string R.bk.f) (.string R.bk.o) (.int .i64 R.bk.n) (.string R.bk.b) (.int .i64 R.c)
  have hf2 := arr_far10 HQ2.out.2.1 (show w.heap.size + 1 ≠ w.heap.size + 1 + 1 by omega) (.slice q1 R.l.length l1) (.slice q2 R.ks.length l2) (.slice q3 R.to.length l3) (.string R.bk.k) (.string R.bk.t) (.string R.bk.f) (.string R.bk.o) (.int .i64 R.bk.n) (.string R.bk.b) (.int .i64 R.c)
  refine hK.out _ _ ⟨hf1, hf2⟩ (fun hHeld => ?_)
  clear hK K
  (try simp only [Act.put, List.setIfInBounds_toArray, List.set_cons_zero, List.set_cons_succ])
  refine wpAnyH_done (by kernel_rfl) ?_ _
  clear hHeld
  (try go_wp2)
  exact bodyPost_ret (v := .agg #[.slice q1 R.l.length l1, .slice q2 R.ks.length l2, .slice q3 R.to.length l3, .string R.bk.k, .string R.bk.t, .string R.bk.f, .string R.bk.o, .int .i64 R.bk.n, .string R.bk.b, .int .i64 R.c]) (results_cell_row (P := Tryz.prog) Tryz.results11 _ _ (w.heap.size + 1 + 1) 37 _ (0, 0) _ rfl (arr_put10 HQ2.out.2.2.1 (.slice q1 R.l.length l1) (.slice q2 R.ks.length l2) (.slice q3 R.to.length l3) (.string R.bk.k) (.string R.bk.t) (.string R.bk.f) (.string R.bk.o) (.int .i64 R.bk.n) (.string R.bk.b) (.int .i64 R.c)) Tryz.underlying37 rfl (by kernel_rfl)) rfl
    ⟨⟨q1, l1, q2, l2, q3, l3, rfl, (own_put10 HO.out.1 (by omega) (.slice q1 R.l.length l1) (.slice q2 R.ks.length l2) (.slice q3 R.to.length l3) (.string R.bk.k) (.string R.bk.t) (.string R.bk.f) (.string R.bk.o) (.int .i64 R.bk.n) (.string R.bk.b) (.int .i64 R.c)).mono (by omega), (own_put10 HO.out.2.1 (by omega) (.slice q1 R.l.length l1) (.slice q2 R.ks.length l2) (.slice q3 R.to.length l3) (.string R.bk.k) (.string R.bk.t) (.string R.bk.f) (.string R.bk.o) (.int .i64 R.bk.n) (.string R.bk.b) (.int .i64 R.c)).mono (by omega), (own_put10 HO.out.2.2 (by omega) (.slice q1 R.l.length l1) (.slice q2 R.ks.length l2) (.slice q3 R.to.length l3) (.string R.bk.k) (.string R.bk.t) (.string R.bk.f) (.string R.bk.o) (.int .i64 R.bk.n) (.string R.bk.b) (.int .i64 R.c)).mono (by omega)⟩, below_put10 HQ2.out.2.2.2 (by omega) (.slice q1 R.l.length l1) (.slice q2 R.ks.length l2) (.slice q3 R.to.length l3) (.string R.bk.k) (.string R.bk.t) (.string R.bk.f) (.string R.bk.o) (.int .i64 R.bk.n) (.string R.bk.b) (.int .i64 R.c)⟩
set_option maxRecDepth 100000 in
set_option maxHeartbeats 2000000 in
theorem impl_riq (xs : List SeL) (ys : List MsL) (p1 p2 : Option Addr) (n1 n2 c1 c2 : Nat) (s : MsL) (w : World) (hx : xs.length = n1) (hy : ys.length = n2) (hn1 : n1 ≤ 1048576) (hn2 : n2 ≤ 1048576) (hw : SzS xs) (hw2 : SzM ys) (hs : s.le 1048576) (hR1 : RowC seC 4 w p1 xs) (hR2 : RowC msC 6 w p2 ys) (hm : MaxL w) :
    Calls Tryz.prog 18 #[.agg #[.slice p1 n1 c1, .slice p2 n2 c2], .agg #[.string s.k, .string s.t, .string s.f, .string s.o, .int .i64 s.n, .string s.b]] w fun e w' => RoIs w.heap.size (iqR xs ys s) e w' ∧ Below w.heap.size w w' := by
  have i1 := fun W => impl_iqtr s.t W
  have i2 := fun W h1 h2 hm => impl_routT (iqT s.t) kIq xs ys p1 p2 n1 n2 c1 c2 s _ _ W hx hy hn1 hn2 hw hw2 hs h1 h2 hm (ok_iq xs ys s hw hs)
  unfold iqR
  obtain ⟨R, hR⟩ : ∃ R, routeR kIq (iqT s.t) xs ys s = R := ⟨_, rfl⟩
  rw [hR] at i2 ⊢
  obtain ⟨g1, hg1⟩ : ∃ g, (iqF s.t).1 = g := ⟨_, rfl⟩
  obtain ⟨g2, hg2⟩ : ∃ g, (iqF s.t).2 = g := ⟨_, rfl⟩
  rw [hg1, hg2] at i1 i2
  unfold RoIs roV at i2
  unfold trV at i1 i2
  unfold kIq at i2
  have HQ := Lib.hid (rqb_start w p1 n1 c1 p2 n2 c2 s)
  have HM := Lib.hid (fun W (h : Below w.heap.size w W) => hm.below h hm.pos)
  have HP1 := Lib.hid (fun W (h : Below w.heap.size w W) => hR1.on h)
  have HP2 := Lib.hid (fun W (h : Below w.heap.size w W) => hR2.on h)
  clear hR hx hy hw hw2 hs hR1 hR2 hm hg1 hg2
  go_enter Tryz.func18, Tryz.ntmps18
  go_wp2
  refine wp_region_held_drew (S := fun W => Arr W w.heap.size 33 [.slice p1 n1 c1, .slice p2 n2 c2] ∧ Arr W (w.heap.size + 1) 35 [.string s.k, .string s.t, .string s.f, .string s.o, .int .i64 s.n, .string s.b]) (by kernel_rfl) ⟨(HQ.out.on (Below.refl _ _).drew).1, (HQ.out.on (Below.refl _ _).drew).2.1⟩ (fun hHeld => ?_)
  have HQ0 := Lib.hid (HQ.out.on (Below.refl _ _).drew)
  generalize World.drew _ = wd at HQ0 hHeld ⊢
  refine takeQ (i := 0) (k := 5) (v := .agg #[.slice p1 n1 c1, .slice p2 n2 c2]) rfl (by rfl) (by kernel_rfl) (by kernel_rfl) (by kernel_rfl) (fun _ _ _ h => h) (by rfl) ?_ hHeld ?_
  · intro w1 hSw; obtain ⟨⟨m0, m1⟩, _⟩ := arr9_two hSw.1; obtain ⟨⟨s0, s1, s2, s3, s4, s5⟩, _⟩ := arr_six0 hSw.2; go_simp
  (try simp only [Act.put, List.setIfInBounds_toArray, List.set_cons_zero, List.set_cons_succ])
  refine takeQ (i := 1) (k := 6) (v := .agg #[.string s.k, .string s.t, .string s.f, .string s.o, .int .i64 s.n, .string s.b]) rfl (by rfl) (by kernel_rfl) (by kernel_rfl) (by kernel_rfl) (fun _ _ _ h => h) (by rfl) ?_ hHeld ?_
  · intro w1 hSw; obtain ⟨⟨m0, m1⟩, _⟩ := arr9_two hSw.1; obtain ⟨⟨s0, s1, s2, s3, s4, s5⟩, _⟩ := arr_six0 hSw.2; go_simp
  (try simp only [Act.put, List.setIfInBounds_toArray, List.set_cons_zero, List.set_cons_succ])
  refine takeQ (i := 2) (k := 7) (v := .pointer (some ⟨w.heap.size + 1, 1, none⟩)) rfl (by rfl) (by kernel_rfl) (by kernel_rfl) (by kernel_rfl) (fun _ _ _ h => h) (by rfl) ?_ hHeld ?_
  · intro w1 hSw; obtain ⟨⟨m0, m1⟩, _⟩ := arr9_two hSw.1; obtain ⟨⟨s0, s1, s2, s3, s4, s5⟩, _⟩ := arr_six0 hSw.2; go_simp
  (try simp only [Act.put, List.setIfInBounds_toArray, List.set_cons_zero, List.set_cons_succ])
  refine takeQ (i := 3) (k := 8) (v := .string s.t) rfl (by rfl) (by kernel_rfl) (by kernel_rfl) (by kernel_rfl) (fun _ _ _ h => h) (by rfl) ?_ hHeld ?_
  · intro w1 hSw; obtain ⟨⟨m0, m1⟩, _⟩ := arr9_two hSw.1; obtain ⟨⟨s0, s1, s2, s3, s4, s5⟩, _⟩ := arr_six0 hSw.2; go_simp
  (try simp only [Act.put, List.setIfInBounds_toArray, List.set_cons_zero, List.set_cons_succ])
  refine wpAnyH_ready (rs := [4]) (by kernel_rfl) (by simp) ?_
  refine AllReadyH.cons rfl (fun K hK => ?_) AllReadyH.nil
  rw [if_pos (by rfl)]
  go_simp
  go_fit (i1 _)
  rintro e w1 ⟨rfl, hb⟩
  have HQ1 := Lib.hid (HQ0.out.on hb)
  clear hb
  refine hK.out _ _ ⟨HQ1.out.1, HQ1.out.2.1⟩ (fun hHeld => ?_)
  clear hK K
  (try simp only [Act.put, List.setIfInBounds_toArray, List.set_cons_zero, List.set_cons_succ])
  refine wpAnyH_ready (rs := [5]) (by kernel_rfl) (by simp) ?_
  refine AllReadyH.cons rfl (fun K hK => ?_) AllReadyH.nil
  rw [if_pos (by rfl)]
  go_simp
  go_fit (i2 _ (HP1.out _ HQ1.out.2.2.2) (HP2.out _ HQ1.out.2.2.2) (HM.out _ HQ1.out.2.2.2))
  rintro e w2 ⟨⟨q1, l1, q2, l2, q3, l3, rfl, h1, h2, h3⟩, hb⟩
  have HQ2 := Lib.hid (HQ1.out.on hb)
  have HO := Lib.hid (And.intro (h1.mono HQ1.out.big) (And.intro (h2.mono HQ1.out.big) (h3.mono HQ1.out.big)))
  clear hb h1 h2 h3
  refine hK.out _ _ ⟨HQ2.out.1, HQ2.out.2.1⟩ (fun hHeld => ?_)
  clear hK K
  (try simp only [Act.put, List.setIfInBounds_toArray, List.set_cons_zero, List.set_cons_succ])
  obtain ⟨⟨r0, r1, r2, r3, r4, r5, r6, r7, r8, r9⟩, u0, u1, u2, u3, u4, u5, u6, u7, u8, u9⟩ := ten_all HQ2.out.2.2.1
  refine wpAnyH_ready (rs := [6]) (by kernel_rfl) (by simp) ?_
  refine AllReadyH.cons rfl (fun K hK => ?_) AllReadyH.nil
  rw [if_pos (by rfl)]
  go_simp
  have hf1 := arr_far10 HQ2.out.1 (show w.heap.size ≠ w.heap.size + 1 + 1 by omega) (.slice q1 R.l.length l1) (.slice q2 R.ks.length l2) (.slice q3 R.to.length l3) (.string R.bk.k) (.string R.bk.t) (.string R.bk.f) (.string R.bk.o) (.int .i64 R.bk.n) (.string R.bk.b) (.int .i64 R.c)
  have hf2 := arr_far10 HQ2.out.2.1 (show w.heap.size + 1 ≠ w.heap.size + 1 + 1 by omega) (.slice q1 R.l.length l1) (.slice q2 R.ks.length l2) (.slice q3 R.to.length l3) (.string R.bk.k) (.string R.bk.t) (.string R.bk.f) (.string R.bk.o) (.int .i64 R.bk.n) (.string R.bk.b) (.int .i64 R.c)
  refine hK.out _ _ ⟨hf1, hf2⟩ (fun hHeld => ?_)
  clear hK K
  (try simp only [Act.put, List.setIfInBounds_toArray, List.set_cons_zero, List.set_cons_succ])
  refine wpAnyH_done (by kernel_rfl) ?_ _
  clear hHeld
  (try go_wp2)
  exact bodyPost_ret (v := .agg #[.slice q1 R.l.length l1, .slice q2 R.ks.length l2, .slice q3 R.to.length l3, .string R.bk.k, .string R.bk.t, .string R.bk.f, .string R.bk.o, .int .i64 R.bk.n, .string R.bk.b, .int .i64 R.c]) (results_cell_row (P := Tryz.prog) Tryz.results18 _ _ (w.heap.size + 1 + 1) 37 _ (0, 0) _ rfl (arr_put10 HQ2.out.2.2.1 (.slice q1 R.l.length l1) (.slice q2 R.ks.length l2) (.slice q3 R.to.length l3) (.string R.bk.k) (.string R.bk.t) (.string R.bk.f) (.string R.bk.o) (.int .i64 R.bk.n) (.string R.bk.b) (.int .i64 R.c)) Tryz.underlying37 rfl (by kernel_rfl)) rfl
    ⟨⟨q1, l1, q2, l2, q3, l3, rfl, (own_put10 HO.out.1 (by omega) (.slice q1 R.l.length l1) (.slice q2 R.ks.length l2) (.slice q3 R.to.length l3) (.string R.bk.k) (.string R.bk.t) (.string R.bk.f) (.string R.bk.o) (.int .i64 R.bk.n) (.string R.bk.b) (.int .i64 R.c)).mono (by omega), (own_put10 HO.out.2.1 (by omega) (.slice q1 R.l.length l1) (.slice q2 R.ks.length l2) (.slice q3 R.to.length l3) (.string R.bk.k) (.string R.bk.t) (.string R.bk.f) (.string R.bk.o) (.int .i64 R.bk.n) (.string R.bk.b) (.int .i64 R.c)).mono (by omega), (own_put10 HO.out.2.2 (by omega) (.slice q1 R.l.length l1) (.slice q2 R.ks.length l2) (.slice q3 R.to.length l3) (.string R.bk.k) (.string R.bk.t) (.string R.bk.f) (.string R.bk.o) (.int .i64 R.bk.n) (.string R.bk.b) (.int .i64 R.c)).mono (by omega)⟩, below_put10 HQ2.out.2.2.2 (by omega) (.slice q1 R.l.length l1) (.slice q2 R.ks.length l2) (.slice q3 R.to.length l3) (.string R.bk.k) (.string R.bk.t) (.string R.bk.f) (.string R.bk.o) (.int .i64 R.bk.n) (.string R.bk.b) (.int .i64 R.c)⟩
set_option maxRecDepth 100000 in
set_option maxHeartbeats 2000000 in
theorem impl_rpres (xs : List SeL) (ys : List MsL) (p1 p2 : Option Addr) (n1 n2 c1 c2 : Nat) (s : MsL) (w : World) (hx : xs.length = n1) (hy : ys.length = n2) (hn1 : n1 ≤ 1048576) (hn2 : n2 ≤ 1048576) (hw : SzS xs) (hw2 : SzM ys) (hs : s.le 1048576) (hR1 : RowC seC 4 w p1 xs) (hR2 : RowC msC 6 w p2 ys) (hm : MaxL w) :
    Calls Tryz.prog 20 #[.agg #[.slice p1 n1 c1, .slice p2 n2 c2], .agg #[.string s.k, .string s.t, .string s.f, .string s.o, .int .i64 s.n, .string s.b]] w fun e w' => RoIs w.heap.size (presR10 xs ys s) e w' ∧ Below w.heap.size w w' := by
  have i2 := fun W h1 h2 hm => impl_routT presT kPres xs ys p1 p2 n1 n2 c1 c2 s _ _ W hx hy hn1 hn2 hw hw2 hs h1 h2 hm (ok_pres kPres pres_ne xs ys s hw)
  unfold presR10
  obtain ⟨R, hR⟩ : ∃ R, routeR kPres presT xs ys s = R := ⟨_, rfl⟩
  rw [hR] at i2 ⊢
  unfold RoIs roV at i2
  unfold trV kPres at i2
  have HQ := Lib.hid (rqb_start w p1 n1 c1 p2 n2 c2 s)
  have HM := Lib.hid (fun W (h : Below w.heap.size w W) => hm.below h hm.pos)
  have HP1 := Lib.hid (fun W (h : Below w.heap.size w W) => hR1.on h)
  have HP2 := Lib.hid (fun W (h : Below w.heap.size w W) => hR2.on h)
  clear hR hx hy hw hw2 hs hR1 hR2 hm
  go_enter Tryz.func20, Tryz.ntmps20
  go_wp2_with (go_at_call 29; go_fit (i2 _ (HP1.out _ HQ.out.2.2.2) (HP2.out _ HQ.out.2.2.2) (HM.out _ HQ.out.2.2.2)); rintro e w2 ⟨⟨q1, l1, q2, l2, q3, l3, rfl, h1, h2, h3⟩, hb⟩; have HQ2 := Lib.hid (HQ.out.on hb); have HO := Lib.hid (And.intro (h1.mono HQ.out.big) (And.intro (h2.mono HQ.out.big) (h3.mono HQ.out.big))); clear hb h1 h2 h3; obtain ⟨⟨r0, r1, r2, r3, r4, r5, r6, r7, r8, r9⟩, u0, u1, u2, u3, u4, u5, u6, u7, u8, u9⟩ := ten_all HQ2.out.2.2.1)
  exact bodyPost_ret (v := .agg #[.slice q1 R.l.length l1, .slice q2 R.ks.length l2, .slice q3 R.to.length l3, .string R.bk.k, .string R.bk.t, .string R.bk.f, .string R.bk.o, .int .i64 R.bk.n, .string R.bk.b, .int .i64 R.c]) (results_cell_row (P := Tryz.prog) Tryz.results20 _ _ (w.heap.size + 1 + 1) 37 _ (0, 0) _ rfl (arr_put10 HQ2.out.2.2.1 (.slice q1 R.l.length l1) (.slice q2 R.ks.length l2) (.slice q3 R.to.length l3) (.string R.bk.k) (.string R.bk.t) (.string R.bk.f) (.string R.bk.o) (.int .i64 R.bk.n) (.string R.bk.b) (.int .i64 R.c)) Tryz.underlying37 rfl (by kernel_rfl)) rfl
    ⟨⟨q1, l1, q2, l2, q3, l3, rfl, (own_put10 HO.out.1 (by omega) (.slice q1 R.l.length l1) (.slice q2 R.ks.length l2) (.slice q3 R.to.length l3) (.string R.bk.k) (.string R.bk.t) (.string R.bk.f) (.string R.bk.o) (.int .i64 R.bk.n) (.string R.bk.b) (.int .i64 R.c)).mono (by omega), (own_put10 HO.out.2.1 (by omega) (.slice q1 R.l.length l1) (.slice q2 R.ks.length l2) (.slice q3 R.to.length l3) (.string R.bk.k) (.string R.bk.t) (.string R.bk.f) (.string R.bk.o) (.int .i64 R.bk.n) (.string R.bk.b) (.int .i64 R.c)).mono (by omega), (own_put10 HO.out.2.2 (by omega) (.slice q1 R.l.length l1) (.slice q2 R.ks.length l2) (.slice q3 R.to.length l3) (.string R.bk.k) (.string R.bk.t) (.string R.bk.f) (.string R.bk.o) (.int .i64 R.bk.n) (.string R.bk.b) (.int .i64 R.c)).mono (by omega)⟩, below_put10 HQ2.out.2.2.2 (by omega) (.slice q1 R.l.length l1) (.slice q2 R.ks.length l2) (.slice q3 R.to.length l3) (.string R.bk.k) (.string R.bk.t) (.string R.bk.f) (.string R.bk.o) (.int .i64 R.bk.n) (.string R.bk.b) (.int .i64 R.c)⟩
end Go.Proofs.YtpjmcpfmnlfmdaaGreat

namespace Go.Proofs.YtpjmcpfmnlfmdaaGreat
set_option linter.unusedSimpArgs false
set_option linter.unusedVariables false
open Go.RowKit Go.Joins

theorem selLe (f : SeL → Bool) (xs : List SeL) : (selL f xs).length ≤ xs.length := by
  unfold selL
  rw [List.length_map]
  exact List.length_filter_le _ _
theorem bestLe (xs : List SeL) : (bestR xs).length ≤ xs.length := by
  unfold bestR
  split
  · unfold bestL
    rw [List.length_map]
    exact List.length_filter_le _ _
  · exact Nat.zero_le _
theorem nbLe (r : ByteArray) (xs : List SeL) : (nbL r xs).length ≤ xs.length := by
  unfold nbL
  split
  · exact bestLe xs
  · exact selLe _ _
theorem route_le (k : ByteArray) (T : RtL) (xs : List SeL) (ys : List MsL) (s : MsL) (hT : ∀ r zs, (T.to r zs).length ≤ zs.length) : (routeR k T xs ys s).le := by
  unfold routeR
  split
  · rename_i hr
    unfold routB at hr
    simp only [Bool.and_eq_true] at hr
    obtain ⟨q1, q2, _⟩ := mb_parts hr.1.1.1
    have q3 := (okB_iff.1 q1).1
    have q4 := hT (resA s.o) xs
    unfold withT
    split
    · exact ⟨by show xs.length ≤ 6; omega, by show ys.length ≤ 6; omega, by show (T.to (resA s.o) xs).length ≤ 6; omega⟩
    · split
      · exact ⟨by show xs.length ≤ 6; omega, by show (ys ++ [s]).length ≤ 6; rw [List.length_append]; show ys.length + 1 ≤ 6; omega, Nat.zero_le _⟩
      · exact ⟨by show xs.length ≤ 6; omega, by show ys.length ≤ 6; omega, Nat.zero_le _⟩
  · exact ⟨Nat.zero_le _, Nat.zero_le _, Nat.zero_le _⟩
theorem mess_le (xs : List SeL) (ys : List MsL) (s : MsL) : (messR xs ys s).le := by
  unfold messR
  refine route_le _ _ _ _ _ (fun r zs => ?_)
  unfold mesT
  split
  · exact Nat.zero_le _
  · split
    · exact nbLe r zs
    · split
      · exact selLe _ _
      · exact nbLe r zs
theorem iq_le (xs : List SeL) (ys : List MsL) (s : MsL) : (iqR xs ys s).le := by
  unfold iqR
  refine route_le _ _ _ _ _ (fun r zs => ?_)
  unfold iqT
  split
  · exact selLe _ _
  · exact selLe _ _
theorem pres_le (xs : List SeL) (ys : List MsL) (s : MsL) : (presR10 xs ys s).le := by
  unfold presR10
  refine route_le _ _ _ _ _ (fun r zs => ?_)
  show (presL r zs).length ≤ zs.length
  unfold presL
  split
  · exact selLe _ _
  · exact selLe _ _
end Go.Proofs.YtpjmcpfmnlfmdaaGreat

namespace Go.Proofs.YtpjmcpfmnlfmdaaGreat
set_option linter.unusedSimpArgs false
set_option linter.unusedVariables false
open Go.RowKit Go.Joins

theorem results_triple {fn : Func} {p q r : Tmp} {ty : TypeId} (h : fn.results = #[.cell p ty, .tmp q, .tmp r]) (tmps : Array Value) (w : World) (g : Nat) (t : TypeId) (cs : Array Value) (d : TypeDesc) (v u : Value)
    (hp : tmps.getD p undef = .pointer (some ⟨g, 0, none⟩)) (hq : tmps.getD q undef = v) (hr : tmps.getD r undef = u) (hg : w.heap[g]? = some (.cells cs t (0, 0)))
    (hu : Tryz.prog.underlying ty = some d) (hd : (match d with | .struct _ | .array _ _ => true | _ => false) = true) (hi : (Tryz.prog.info? ty).map (·.size) = some cs.size) :
    (results fn tmps).run Tryz.prog w = .ok (.tuple #[.agg cs, v, u]) w := by
  have hp' : tmps[p]?.getD undef = .pointer (some ⟨g, 0, none⟩) := by simpa using hp
  have hq' : tmps[q]?.getD undef = v := by simpa using hq
  have hr' : tmps[r]?.getD undef = u := by simpa using hr
  have hrun := run_loadVar_row (P := Tryz.prog) w g t ty cs (0, 0) d hg hu (by revert hd; cases d <;> simp) hi
  simp [results, h, hp', hq', hr', asAddr, hrun]
theorem routB_eq (k : ByteArray) (xs : List SeL) (ys : List MsL) (s : MsL) : routB k xs ys s = (mbB xs ys && stB s.k s.t s.f s.o s.n s.b && (s.k.toList == k.toList) && (addrB s.o && decide (0 < (locA s.o).size))) := rfl
set_option maxRecDepth 100000 in
set_option maxHeartbeats 4000000 in
theorem spec_beginF (k : ByteArray) (xs : List SeL) (ys : List MsL) (p1 p2 : Option Addr) (n1 n2 c1 c2 : Nat) (s : MsL) (w : World) (hx : xs.length = n1) (hy : ys.length = n2) (hn1 : n1 ≤ 1048576) (hn2 : n2 ≤ 1048576) (hw : SzS xs) (hw2 : SzM ys) (hs : s.le 1048576) (hR1 : RowC seC 4 w p1 xs) (hR2 : RowC msC 6 w p2 ys) (hno : routB k xs ys s = false) :
    Calls Tryz.prog 23 #[.agg #[.slice p1 n1 c1, .slice p2 n2 c2], .agg #[.string s.k, .string s.t, .string s.f, .string s.o, .int .i64 s.n, .string s.b], .string k] w fun e w' => e = .returned (.tuple #[.agg #[.slice none 0 0, .slice none 0 0, .slice none 0 0, .string ⟨#[]⟩, .string ⟨#[]⟩, .string ⟨#[]⟩, .string ⟨#[]⟩, .int .i64 0, .string ⟨#[]⟩, .int .i64 1], .string ⟨#[]⟩, .bool false]) ∧ Below w.heap.size w w' := by
  rw [routB_eq] at hno
  have hJ := fun W => spec_l04jidP s.o W (by have := hs.2.2.2.1; omega)
  obtain ⟨z0, z1, z2, z3, z4⟩ := hs
  have i2 := fun W h1 h2 => spec_mbright xs ys p1 p2 n1 n2 c1 c2 W hx hy hn1 hn2 hw hw2 h1 h2
  have i3 := fun W => spec_stright s.k s.t s.f s.o s.n s.b W (by unfold maxLen; omega) (by omega) (by omega) (by unfold maxLen; omega)
  have HR := Lib.hid (rqb_start w p1 n1 c1 p2 n2 c2 s)
  have HP1 := Lib.hid (fun W (h : Below w.heap.size w W) => hR1.on h)
  have HP2 := Lib.hid (fun W (h : Below w.heap.size w W) => hR2.on h)
  cases hmb : mbB xs ys
  · rw [hmb] at i2
    clear hmb hx hy hw hw2 hR1 hR2 i3 hno
    go_enter Tryz.func23, Tryz.ntmps23
    go_wp2_with (first
      | (go_at_call 45; go_fit (hJ _); rintro e w1 ⟨⟨x, y, z, rfl, hxyz⟩, hb⟩; clear hxyz; have HR1 := Lib.hid (HR.out.on hb); have HR1a := Lib.hid (HR1.out.on ((Below.refl _ _).alloc (Nat.le_refl _) (.cells #[.string x, .string y, .string z] 74))); have HJ1a := Lib.hid (Arr.fresh w1 74 [.string x, .string y, .string z]); clear hb; obtain ⟨⟨m0, m1⟩, _⟩ := arr9_two HR1.out.1; obtain ⟨⟨s0, s1, s2, s3, s4, s5⟩, _⟩ := arr_six0 HR1.out.2.1; obtain ⟨⟨r0, r1, r2, r3, r4, r5, r6, r7, r8, r9⟩, u0, u1, u2, u3, u4, u5, u6, u7, u8, u9⟩ := ten_all HR1.out.2.2.1; have hzA := arr9_lt HR1.out.1; have hzB := arr9_lt HR1.out.2.1; have hzC := arr9_lt HR1.out.2.2.1)
      | (go_at_call 46; go_fit (i2 _ (HP1.out _ HR1a.out.2.2.2) (HP2.out _ HR1a.out.2.2.2)); rintro e w2 ⟨rfl, hb⟩; have HR2 := Lib.hid (HR1a.out.on hb); have HJ2 := Lib.hid (arr9_on HJ1a.out hb); clear hb; obtain ⟨⟨m0, m1⟩, _⟩ := arr9_two HR2.out.1; obtain ⟨⟨s0, s1, s2, s3, s4, s5⟩, _⟩ := arr_six0 HR2.out.2.1; obtain ⟨⟨r0, r1, r2, r3, r4, r5, r6, r7, r8, r9⟩, u0, u1, u2, u3, u4, u5, u6, u7, u8, u9⟩ := ten_all HR2.out.2.2.1; have hzA := arr9_lt HR2.out.1; have hzB := arr9_lt HR2.out.2.1; have hzC := arr9_lt HR2.out.2.2.1; obtain ⟨⟨j0, j1, j2⟩, _⟩ := arr_3j HJ2.out))
    exact bodyPost_ret (v := .tuple #[.agg #[.slice none 0 0, .slice none 0 0, .slice none 0 0, .string ⟨#[]⟩, .string ⟨#[]⟩, .string ⟨#[]⟩, .string ⟨#[]⟩, .int .i64 0, .string ⟨#[]⟩, .int .i64 1], .string ⟨#[]⟩, .bool false]) (results_triple Tryz.results23 _ _ (w.heap.size + 1 + 1) 37 _ _ _ _ rfl rfl rfl (arr_put10 HR2.out.2.2.1 (.slice none 0 0) (.slice none 0 0) (.slice none 0 0) (.string ⟨#[]⟩) (.string ⟨#[]⟩) (.string ⟨#[]⟩) (.string ⟨#[]⟩) (.int .i64 0) (.string ⟨#[]⟩) (.int .i64 1)) Tryz.underlying37 rfl (by kernel_rfl)) rfl ⟨rfl, below_put10 HR2.out.2.2.2 (by omega) (.slice none 0 0) (.slice none 0 0) (.slice none 0 0) (.string ⟨#[]⟩) (.string ⟨#[]⟩) (.string ⟨#[]⟩) (.string ⟨#[]⟩) (.int .i64 0) (.string ⟨#[]⟩) (.int .i64 1)⟩
  rw [hmb] at i2
  cases hst : stB s.k s.t s.f s.o s.n s.b
  · rw [hst] at i3
    clear hmb hst hx hy hw hw2 hR1 hR2 hno
    go_enter Tryz.func23, Tryz.ntmps23
    go_wp2_with (first
      | (go_at_call 45; go_fit (hJ _); rintro e w1 ⟨⟨x, y, z, rfl, hxyz⟩, hb⟩; clear hxyz; have HR1 := Lib.hid (HR.out.on hb); have HR1a := Lib.hid (HR1.out.on ((Below.refl _ _).alloc (Nat.le_refl _) (.cells #[.string x, .string y, .string z] 74))); have HJ1a := Lib.hid (Arr.fresh w1 74 [.string x, .string y, .string z]); clear hb; obtain ⟨⟨m0, m1⟩, _⟩ := arr9_two HR1.out.1; obtain ⟨⟨s0, s1, s2, s3, s4, s5⟩, _⟩ := arr_six0 HR1.out.2.1; obtain ⟨⟨r0, r1, r2, r3, r4, r5, r6, r7, r8, r9⟩, u0, u1, u2, u3, u4, u5, u6, u7, u8, u9⟩ := ten_all HR1.out.2.2.1; have hzA := arr9_lt HR1.out.1; have hzB := arr9_lt HR1.out.2.1; have hzC := arr9_lt HR1.out.2.2.1)
      | (go_at_call 46; go_fit (i2 _ (HP1.out _ HR1a.out.2.2.2) (HP2.out _ HR1a.out.2.2.2)); rintro e w2 ⟨rfl, hb⟩; have HR2 := Lib.hid (HR1a.out.on hb); have HJ2 := Lib.hid (arr9_on HJ1a.out hb); clear hb; obtain ⟨⟨m0, m1⟩, _⟩ := arr9_two HR2.out.1; obtain ⟨⟨s0, s1, s2, s3, s4, s5⟩, _⟩ := arr_six0 HR2.out.2.1; obtain ⟨⟨r0, r1, r2, r3, r4, r5, r6, r7, r8, r9⟩, u0, u1, u2, u3, u4, u5, u6, u7, u8, u9⟩ := ten_all HR2.out.2.2.1; have hzA := arr9_lt HR2.out.1; have hzB := arr9_lt HR2.out.2.1; have hzC := arr9_lt HR2.out.2.2.1; obtain ⟨⟨j0, j1, j2⟩, _⟩ := arr_3j HJ2.out)
      | (go_at_call 47; have _ := HR2; go_fit (i3 _); rintro e w3 ⟨rfl, hb⟩; have HR3 := Lib.hid (HR2.out.on hb); have HJ3 := Lib.hid (arr9_on HJ2.out hb); clear hb; obtain ⟨⟨m0, m1⟩, _⟩ := arr9_two HR3.out.1; obtain ⟨⟨s0, s1, s2, s3, s4, s5⟩, _⟩ := arr_six0 HR3.out.2.1; obtain ⟨⟨r0, r1, r2, r3, r4, r5, r6, r7, r8, r9⟩, u0, u1, u2, u3, u4, u5, u6, u7, u8, u9⟩ := ten_all HR3.out.2.2.1; have hzA := arr9_lt HR3.out.1; have hzB := arr9_lt HR3.out.2.1; have hzC := arr9_lt HR3.out.2.2.1; obtain ⟨⟨j0, j1, j2⟩, _⟩ := arr_3j HJ3.out))
    exact bodyPost_ret (v := .tuple #[.agg #[.slice none 0 0, .slice none 0 0, .slice none 0 0, .string ⟨#[]⟩, .string ⟨#[]⟩, .string ⟨#[]⟩, .string ⟨#[]⟩, .int .i64 0, .string ⟨#[]⟩, .int .i64 1], .string ⟨#[]⟩, .bool false]) (results_triple Tryz.results23 _ _ (w.heap.size + 1 + 1) 37 _ _ _ _ rfl rfl rfl (arr_put10 HR3.out.2.2.1 (.slice none 0 0) (.slice none 0 0) (.slice none 0 0) (.string ⟨#[]⟩) (.string ⟨#[]⟩) (.string ⟨#[]⟩) (.string ⟨#[]⟩) (.int .i64 0) (.string ⟨#[]⟩) (.int .i64 1)) Tryz.underlying37 rfl (by kernel_rfl)) rfl ⟨rfl, below_put10 HR3.out.2.2.2 (by omega) (.slice none 0 0) (.slice none 0 0) (.slice none 0 0) (.string ⟨#[]⟩) (.string ⟨#[]⟩) (.string ⟨#[]⟩) (.string ⟨#[]⟩) (.int .i64 0) (.string ⟨#[]⟩) (.int .i64 1)⟩
  rw [hst] at i3
  cases hkk : (s.k.toList == k.toList)
  · clear hmb hst hx hy hw hw2 hR1 hR2 hno
    go_enter Tryz.func23, Tryz.ntmps23
    go_wp2_with (first
      | (go_at_call 45; go_fit (hJ _); rintro e w1 ⟨⟨x, y, z, rfl, hxyz⟩, hb⟩; clear hxyz; have HR1 := Lib.hid (HR.out.on hb); have HR1a := Lib.hid (HR1.out.on ((Below.refl _ _).alloc (Nat.le_refl _) (.cells #[.string x, .string y, .string z] 74))); have HJ1a := Lib.hid (Arr.fresh w1 74 [.string x, .string y, .string z]); clear hb; obtain ⟨⟨m0, m1⟩, _⟩ := arr9_two HR1.out.1; obtain ⟨⟨s0, s1, s2, s3, s4, s5⟩, _⟩ := arr_six0 HR1.out.2.1; obtain ⟨⟨r0, r1, r2, r3, r4, r5, r6, r7, r8, r9⟩, u0, u1, u2, u3, u4, u5, u6, u7, u8, u9⟩ := ten_all HR1.out.2.2.1; have hzA := arr9_lt HR1.out.1; have hzB := arr9_lt HR1.out.2.1; have hzC := arr9_lt HR1.out.2.2.1)
      | (go_at_call 46; go_fit (i2 _ (HP1.out _ HR1a.out.2.2.2) (HP2.out _ HR1a.out.2.2.2)); rintro e w2 ⟨rfl, hb⟩; have HR2 := Lib.hid (HR1a.out.on hb); have HJ2 := Lib.hid (arr9_on HJ1a.out hb); clear hb; obtain ⟨⟨m0, m1⟩, _⟩ := arr9_two HR2.out.1; obtain ⟨⟨s0, s1, s2, s3, s4, s5⟩, _⟩ := arr_six0 HR2.out.2.1; obtain ⟨⟨r0, r1, r2, r3, r4, r5, r6, r7, r8, r9⟩, u0, u1, u2, u3, u4, u5, u6, u7, u8, u9⟩ := ten_all HR2.out.2.2.1; have hzA := arr9_lt HR2.out.1; have hzB := arr9_lt HR2.out.2.1; have hzC := arr9_lt HR2.out.2.2.1; obtain ⟨⟨j0, j1, j2⟩, _⟩ := arr_3j HJ2.out)
      | (go_at_call 47; have _ := HR2; go_fit (i3 _); rintro e w3 ⟨rfl, hb⟩; have HR3 := Lib.hid (HR2.out.on hb); have HJ3 := Lib.hid (arr9_on HJ2.out hb); clear hb; obtain ⟨⟨m0, m1⟩, _⟩ := arr9_two HR3.out.1; obtain ⟨⟨s0, s1, s2, s3, s4, s5⟩, _⟩ := arr_six0 HR3.out.2.1; obtain ⟨⟨r0, r1, r2, r3, r4, r5, r6, r7, r8, r9⟩, u0, u1, u2, u3, u4, u5, u6, u7, u8, u9⟩ := ten_all HR3.out.2.2.1; have hzA := arr9_lt HR3.out.1; have hzB := arr9_lt HR3.out.2.1; have hzC := arr9_lt HR3.out.2.2.1; obtain ⟨⟨j0, j1, j2⟩, _⟩ := arr_3j HJ3.out))
    exact bodyPost_ret (v := .tuple #[.agg #[.slice none 0 0, .slice none 0 0, .slice none 0 0, .string ⟨#[]⟩, .string ⟨#[]⟩, .string ⟨#[]⟩, .string ⟨#[]⟩, .int .i64 0, .string ⟨#[]⟩, .int .i64 1], .string ⟨#[]⟩, .bool false]) (results_triple Tryz.results23 _ _ (w.heap.size + 1 + 1) 37 _ _ _ _ rfl rfl rfl (arr_put10 HR3.out.2.2.1 (.slice none 0 0) (.slice none 0 0) (.slice none 0 0) (.string ⟨#[]⟩) (.string ⟨#[]⟩) (.string ⟨#[]⟩) (.string ⟨#[]⟩) (.int .i64 0) (.string ⟨#[]⟩) (.int .i64 1)) Tryz.underlying37 rfl (by kernel_rfl)) rfl ⟨rfl, below_put10 HR3.out.2.2.2 (by omega) (.slice none 0 0) (.slice none 0 0) (.slice none 0 0) (.string ⟨#[]⟩) (.string ⟨#[]⟩) (.string ⟨#[]⟩) (.string ⟨#[]⟩) (.int .i64 0) (.string ⟨#[]⟩) (.int .i64 1)⟩
  rw [hmb, hst, hkk] at hno
  cases had : addrB s.o
  · rw [had] at hJ
    clear hmb hst hx hy hw hw2 hR1 hR2 hno had
    go_enter Tryz.func23, Tryz.ntmps23
    go_wp2_with (first
      | (go_at_call 45; go_fit (hJ _); rintro e w1 ⟨⟨x, y, z, rfl, hxyz⟩, hb⟩; clear hxyz; have HR1 := Lib.hid (HR.out.on hb); have HR1a := Lib.hid (HR1.out.on ((Below.refl _ _).alloc (Nat.le_refl _) (.cells #[.string x, .string y, .string z] 74))); have HJ1a := Lib.hid (Arr.fresh w1 74 [.string x, .string y, .string z]); clear hb; obtain ⟨⟨m0, m1⟩, _⟩ := arr9_two HR1.out.1; obtain ⟨⟨s0, s1, s2, s3, s4, s5⟩, _⟩ := arr_six0 HR1.out.2.1; obtain ⟨⟨r0, r1, r2, r3, r4, r5, r6, r7, r8, r9⟩, u0, u1, u2, u3, u4, u5, u6, u7, u8, u9⟩ := ten_all HR1.out.2.2.1; have hzA := arr9_lt HR1.out.1; have hzB := arr9_lt HR1.out.2.1; have hzC := arr9_lt HR1.out.2.2.1)
      | (go_at_call 46; go_fit (i2 _ (HP1.out _ HR1a.out.2.2.2) (HP2.out _ HR1a.out.2.2.2)); rintro e w2 ⟨rfl, hb⟩; have HR2 := Lib.hid (HR1a.out.on hb); have HJ2 := Lib.hid (arr9_on HJ1a.out hb); clear hb; obtain ⟨⟨m0, m1⟩, _⟩ := arr9_two HR2.out.1; obtain ⟨⟨s0, s1, s2, s3, s4, s5⟩, _⟩ := arr_six0 HR2.out.2.1; obtain ⟨⟨r0, r1, r2, r3, r4, r5, r6, r7, r8, r9⟩, u0, u1, u2, u3, u4, u5, u6, u7, u8, u9⟩ := ten_all HR2.out.2.2.1; have hzA := arr9_lt HR2.out.1; have hzB := arr9_lt HR2.out.2.1; have hzC := arr9_lt HR2.out.2.2.1; obtain ⟨⟨j0, j1, j2⟩, _⟩ := arr_3j HJ2.out)
      | (go_at_call 47; have _ := HR2; go_fit (i3 _); rintro e w3 ⟨rfl, hb⟩; have HR3 := Lib.hid (HR2.out.on hb); have HJ3 := Lib.hid (arr9_on HJ2.out hb); clear hb; obtain ⟨⟨m0, m1⟩, _⟩ := arr9_two HR3.out.1; obtain ⟨⟨s0, s1, s2, s3, s4, s5⟩, _⟩ := arr_six0 HR3.out.2.1; obtain ⟨⟨r0, r1, r2, r3, r4, r5, r6, r7, r8, r9⟩, u0, u1, u2, u3, u4, u5, u6, u7, u8, u9⟩ := ten_all HR3.out.2.2.1; have hzA := arr9_lt HR3.out.1; have hzB := arr9_lt HR3.out.2.1; have hzC := arr9_lt HR3.out.2.2.1; obtain ⟨⟨j0, j1, j2⟩, _⟩ := arr_3j HJ3.out))
    exact bodyPost_ret (v := .tuple #[.agg #[.slice none 0 0, .slice none 0 0, .slice none 0 0, .string ⟨#[]⟩, .string ⟨#[]⟩, .string ⟨#[]⟩, .string ⟨#[]⟩, .int .i64 0, .string ⟨#[]⟩, .int .i64 1], .string ⟨#[]⟩, .bool false]) (results_triple Tryz.results23 _ _ (w.heap.size + 1 + 1) 37 _ _ _ _ rfl rfl rfl (arr_put10 HR3.out.2.2.1 (.slice none 0 0) (.slice none 0 0) (.slice none 0 0) (.string ⟨#[]⟩) (.string ⟨#[]⟩) (.string ⟨#[]⟩) (.string ⟨#[]⟩) (.int .i64 0) (.string ⟨#[]⟩) (.int .i64 1)) Tryz.underlying37 rfl (by kernel_rfl)) rfl ⟨rfl, below_put10 HR3.out.2.2.2 (by omega) (.slice none 0 0) (.slice none 0 0) (.slice none 0 0) (.string ⟨#[]⟩) (.string ⟨#[]⟩) (.string ⟨#[]⟩) (.string ⟨#[]⟩) (.int .i64 0) (.string ⟨#[]⟩) (.int .i64 1)⟩
  rw [had] at hno hJ
  have hl0 : locA s.o = ⟨#[]⟩ := ba_ext (List.eq_nil_of_length_eq_zero (by have h0 : ¬ 0 < (locA s.o).size := by simpa using hno
                                                                           have h1 : (locA s.o).toList.length = (locA s.o).size := by rw [ByteArray.toList_eq]; exact size_data _
                                                                           omega))
  clear hmb hst hx hy hw hw2 hR1 hR2 hno had
  go_enter Tryz.func23, Tryz.ntmps23
  go_wp2_with (first
    | (go_at_call 45; go_fit (hJ _); rintro e w1 ⟨⟨x, y, z, rfl, hxyz⟩, hb⟩; obtain rfl : x = ⟨#[]⟩ := (hxyz rfl).1.trans hl0; clear hxyz; have HR1 := Lib.hid (HR.out.on hb); have HR1a := Lib.hid (HR1.out.on ((Below.refl _ _).alloc (Nat.le_refl _) (.cells #[.string ⟨#[]⟩, .string y, .string z] 74))); have HJ1a := Lib.hid (Arr.fresh w1 74 [.string ⟨#[]⟩, .string y, .string z]); clear hb; obtain ⟨⟨m0, m1⟩, _⟩ := arr9_two HR1.out.1; obtain ⟨⟨s0, s1, s2, s3, s4, s5⟩, _⟩ := arr_six0 HR1.out.2.1; obtain ⟨⟨r0, r1, r2, r3, r4, r5, r6, r7, r8, r9⟩, u0, u1, u2, u3, u4, u5, u6, u7, u8, u9⟩ := ten_all HR1.out.2.2.1; have hzA := arr9_lt HR1.out.1; have hzB := arr9_lt HR1.out.2.1; have hzC := arr9_lt HR1.out.2.2.1)
    | (go_at_call 46; go_fit (i2 _ (HP1.out _ HR1a.out.2.2.2) (HP2.out _ HR1a.out.2.2.2)); rintro e w2 ⟨rfl, hb⟩; have HR2 := Lib.hid (HR1a.out.on hb); have HJ2 := Lib.hid (arr9_on HJ1a.out hb); clear hb; obtain ⟨⟨m0, m1⟩, _⟩ := arr9_two HR2.out.1; obtain ⟨⟨s0, s1, s2, s3, s4, s5⟩, _⟩ := arr_six0 HR2.out.2.1; obtain ⟨⟨r0, r1, r2, r3, r4, r5, r6, r7, r8, r9⟩, u0, u1, u2, u3, u4, u5, u6, u7, u8, u9⟩ := ten_all HR2.out.2.2.1; have hzA := arr9_lt HR2.out.1; have hzB := arr9_lt HR2.out.2.1; have hzC := arr9_lt HR2.out.2.2.1; obtain ⟨⟨j0, j1, j2⟩, _⟩ := arr_3j HJ2.out)
    | (go_at_call 47; have _ := HR2; go_fit (i3 _); rintro e w3 ⟨rfl, hb⟩; have HR3 := Lib.hid (HR2.out.on hb); have HJ3 := Lib.hid (arr9_on HJ2.out hb); clear hb; obtain ⟨⟨m0, m1⟩, _⟩ := arr9_two HR3.out.1; obtain ⟨⟨s0, s1, s2, s3, s4, s5⟩, _⟩ := arr_six0 HR3.out.2.1; obtain ⟨⟨r0, r1, r2, r3, r4, r5, r6, r7, r8, r9⟩, u0, u1, u2, u3, u4, u5, u6, u7, u8, u9⟩ := ten_all HR3.out.2.2.1; have hzA := arr9_lt HR3.out.1; have hzB := arr9_lt HR3.out.2.1; have hzC := arr9_lt HR3.out.2.2.1; obtain ⟨⟨j0, j1, j2⟩, _⟩ := arr_3j HJ3.out))
  exact bodyPost_ret (v := .tuple #[.agg #[.slice none 0 0, .slice none 0 0, .slice none 0 0, .string ⟨#[]⟩, .string ⟨#[]⟩, .string ⟨#[]⟩, .string ⟨#[]⟩, .int .i64 0, .string ⟨#[]⟩, .int .i64 1], .string ⟨#[]⟩, .bool false]) (results_triple Tryz.results23 _ _ (w.heap.size + 1 + 1) 37 _ _ _ _ rfl rfl rfl (arr_put10 HR3.out.2.2.1 (.slice none 0 0) (.slice none 0 0) (.slice none 0 0) (.string ⟨#[]⟩) (.string ⟨#[]⟩) (.string ⟨#[]⟩) (.string ⟨#[]⟩) (.int .i64 0) (.string ⟨#[]⟩) (.int .i64 1)) Tryz.underlying37 rfl (by kernel_rfl)) rfl ⟨rfl, below_put10 HR3.out.2.2.2 (by omega) (.slice none 0 0) (.slice none 0 0) (.slice none 0 0) (.string ⟨#[]⟩) (.string ⟨#[]⟩) (.string ⟨#[]⟩) (.string ⟨#[]⟩) (.int .i64 0) (.string ⟨#[]⟩) (.int .i64 1)⟩
set_option maxRecDepth 100000 in
set_option maxHeartbeats 4000000 in
theorem spec_beginT (k : ByteArray) (xs : List SeL) (ys : List MsL) (p1 p2 : Option Addr) (n1 n2 c1 c2 : Nat) (s : MsL) (w : World) (hx : xs.length = n1) (hy : ys.length = n2) (hn1 : n1 ≤ 1048576) (hn2 : n2 ≤ 1048576) (hw : SzS xs) (hw2 : SzM ys) (hs : s.le 1048576) (B0 : Nat) (hO1 : OwnC seC w B0 70 4 (.slice p1 n1 c1) xs) (hO2 : OwnC msC w B0 35 6 (.slice p2 n2 c2) ys) (hyes : routB k xs ys s = true) :
    Calls Tryz.prog 23 #[.agg #[.slice p1 n1 c1, .slice p2 n2 c2], .agg #[.string s.k, .string s.t, .string s.f, .string s.o, .int .i64 s.n, .string s.b], .string k] w fun e w' => (∃ q1 l1 q2 l2, e = .returned (.tuple #[.agg #[.slice q1 n1 l1, .slice q2 n2 l2, .slice none 0 0, .string ⟨#[]⟩, .string ⟨#[]⟩, .string ⟨#[]⟩, .string ⟨#[]⟩, .int .i64 0, .string ⟨#[]⟩, .int .i64 0], .string (resA s.o), .bool true]) ∧ OwnC seC w' w.heap.size 70 4 (.slice q1 n1 l1) xs ∧ OwnC msC w' w.heap.size 35 6 (.slice q2 n2 l2) ys) ∧ Below w.heap.size w w' := by
  have hR1 := row_own9 hO1
  have hR2 := row_ownM hO2
  rw [routB_eq] at hyes
  simp only [Bool.and_eq_true, decide_eq_true_eq] at hyes
  obtain ⟨⟨⟨hmb, hst⟩, hkk⟩, had, hlc⟩ := hyes
  have hJ := fun W => spec_l04jidP s.o W (by have := hs.2.2.2.1; omega)
  obtain ⟨z0, z1, z2, z3, z4⟩ := hs
  have i2 := fun W h1 h2 => spec_mbright xs ys p1 p2 n1 n2 c1 c2 W hx hy hn1 hn2 hw hw2 h1 h2
  have i3 := fun W => spec_stright s.k s.t s.f s.o s.n s.b W (by unfold maxLen; omega) (by omega) (by omega) (by unfold maxLen; omega)
  have i4 := fun W h1 h2 => spec_l10copy xs ys p1 p2 n1 n2 c1 c2 B0 W hx hy hn1 hn2 h1 h2
  rw [hmb] at i2
  rw [hst] at i3
  rw [had] at hJ
  have HR := Lib.hid (rqb_start w p1 n1 c1 p2 n2 c2 s)
  have HP1 := Lib.hid (fun W (h : Below w.heap.size w W) => hR1.on h)
  have HP2 := Lib.hid (fun W (h : Below w.heap.size w W) => hR2.on h)
  have HO1 := Lib.hid (fun W (h : Below w.heap.size w W) => hO1.on h)
  have HO2 := Lib.hid (fun W (h : Below w.heap.size w W) => hO2.on h)
  have hle2 : ((locA s.o).toList == []) = false := by
    rw [beq_eq_false_iff_ne]
    intro h0
    have h1 : (locA s.o).toList.length = (locA s.o).size := by rw [ByteArray.toList_eq]; exact size_data _
    rw [h0] at h1
    simp at h1
    omega
  have hle3 : (locA s.o).toList ≠ [] := by simpa using hle2
  have hle4 : (locA s.o).toList.isEmpty = false := by simpa using hle3
  clear hmb hst hx hy hw hw2 hR1 hR2 had hO1 hO2 hlc
  go_enter Tryz.func23, Tryz.ntmps23
  go_wp2_with (first
    | (go_at_call 45; go_fit (hJ _); rintro e w1 ⟨⟨x, y, z, rfl, hxyz⟩, hb⟩; obtain ⟨rfl, -, rfl⟩ : x = locA s.o ∧ True ∧ z = resA s.o := ⟨(hxyz rfl).1, trivial, (hxyz rfl).2.2⟩; clear hxyz; have HR1 := Lib.hid (HR.out.on hb); have HR1a := Lib.hid (HR1.out.on ((Below.refl _ _).alloc (Nat.le_refl _) (.cells #[.string (locA s.o), .string y, .string (resA s.o)] 74))); have HJ1a := Lib.hid (Arr.fresh w1 74 [.string (locA s.o), .string y, .string (resA s.o)]); clear hb; obtain ⟨⟨m0, m1⟩, _⟩ := arr9_two HR1.out.1; obtain ⟨⟨s0, s1, s2, s3, s4, s5⟩, _⟩ := arr_six0 HR1.out.2.1; obtain ⟨⟨r0, r1, r2, r3, r4, r5, r6, r7, r8, r9⟩, u0, u1, u2, u3, u4, u5, u6, u7, u8, u9⟩ := ten_all HR1.out.2.2.1; have hzA := arr9_lt HR1.out.1; have hzB := arr9_lt HR1.out.2.1; have hzC := arr9_lt HR1.out.2.2.1)
    | (go_at_call 46; go_fit (i2 _ (HP1.out _ HR1a.out.2.2.2) (HP2.out _ HR1a.out.2.2.2)); rintro e w2 ⟨rfl, hb⟩; have HR2 := Lib.hid (HR1a.out.on hb); have HJ2 := Lib.hid (arr9_on HJ1a.out hb); clear hb; obtain ⟨⟨m0, m1⟩, _⟩ := arr9_two HR2.out.1; obtain ⟨⟨s0, s1, s2, s3, s4, s5⟩, _⟩ := arr_six0 HR2.out.2.1; obtain ⟨⟨r0, r1, r2, r3, r4, r5, r6, r7, r8, r9⟩, u0, u1, u2, u3, u4, u5, u6, u7, u8, u9⟩ := ten_all HR2.out.2.2.1; have hzA := arr9_lt HR2.out.1; have hzB := arr9_lt HR2.out.2.1; have hzC := arr9_lt HR2.out.2.2.1; obtain ⟨⟨j0, j1, j2⟩, _⟩ := arr_3j HJ2.out)
    | (go_at_call 47; have _ := HR2; go_fit (i3 _); rintro e w3 ⟨rfl, hb⟩; have HR3 := Lib.hid (HR2.out.on hb); have HJ3 := Lib.hid (arr9_on HJ2.out hb); clear hb; obtain ⟨⟨m0, m1⟩, _⟩ := arr9_two HR3.out.1; obtain ⟨⟨s0, s1, s2, s3, s4, s5⟩, _⟩ := arr_six0 HR3.out.2.1; obtain ⟨⟨r0, r1, r2, r3, r4, r5, r6, r7, r8, r9⟩, u0, u1, u2, u3, u4, u5, u6, u7, u8, u9⟩ := ten_all HR3.out.2.2.1; have hzA := arr9_lt HR3.out.1; have hzB := arr9_lt HR3.out.2.1; have hzC := arr9_lt HR3.out.2.2.1; obtain ⟨⟨j0, j1, j2⟩, _⟩ := arr_3j HJ3.out))
  refine wp_region_held_drew (S := fun W => (Arr W w.heap.size 33 [.slice p1 n1 c1, .slice p2 n2 c2] ∧ Arr W w1.heap.size 74 [.string (locA s.o), .string y, .string (resA s.o)])) (by kernel_rfl) ⟨(HR3.out.on (Below.refl _ _).drew).1, arr9_on HJ3.out (Below.refl _ _).drew⟩ (fun hHeld => ?_)
  have HR4 := Lib.hid (HR3.out.on (Below.refl _ _).drew)
  have HJ4 := Lib.hid (arr9_on HJ3.out (Below.refl _ _).drew)
  have hlt1 : w.heap.size + 3 ≤ w1.heap.size := HR1.out.big
  generalize World.drew _ = wd at HR4 HJ4 hHeld ⊢
  refine takeQ (i := 0) (k := 41) (v := .agg #[.slice p1 n1 c1, .slice p2 n2 c2]) rfl (by rfl) (by kernel_rfl) (by kernel_rfl) (by kernel_rfl) (fun _ _ _ h => h) (by rfl) ?_ hHeld ?_
  · intro wv hSv; obtain ⟨⟨m0, m1⟩, _⟩ := arr9_two hSv.1; obtain ⟨⟨j0, j1, j2⟩, _⟩ := arr_3j hSv.2; go_simp
  (try simp only [Act.put, List.setIfInBounds_toArray, List.set_cons_zero, List.set_cons_succ])
  refine takeQ (i := 3) (k := 44) (v := .pointer (some ⟨w1.heap.size, 2, none⟩)) rfl (by rfl) (by kernel_rfl) (by kernel_rfl) (by kernel_rfl) (fun _ _ _ h => h) (by rfl) ?_ hHeld ?_
  · intro wv hSv; obtain ⟨⟨m0, m1⟩, _⟩ := arr9_two hSv.1; obtain ⟨⟨j0, j1, j2⟩, _⟩ := arr_3j hSv.2; go_simp
  (try simp only [Act.put, List.setIfInBounds_toArray, List.set_cons_zero, List.set_cons_succ])
  refine takeQ (i := 4) (k := 45) (v := .string (resA s.o)) rfl (by rfl) (by kernel_rfl) (by kernel_rfl) (by kernel_rfl) (fun _ _ _ h => h) (by rfl) ?_ hHeld ?_
  · intro wv hSv; obtain ⟨⟨m0, m1⟩, _⟩ := arr9_two hSv.1; obtain ⟨⟨j0, j1, j2⟩, _⟩ := arr_3j hSv.2; go_simp
  (try simp only [Act.put, List.setIfInBounds_toArray, List.set_cons_zero, List.set_cons_succ])
  refine wpAnyH_ready (rs := [1]) (by kernel_rfl) (by simp) ?_
  refine AllReadyH.cons rfl (fun K hK => ?_) AllReadyH.nil
  rw [if_pos (by rfl)]
  go_simp
  go_fit (i4 _ (HO1.out _ HR4.out.2.2.2) (HO2.out _ HR4.out.2.2.2))
  rintro e w5 ⟨⟨q1, l1, q2, l2, rfl, v1, v2⟩, hb⟩
  have HR5 := Lib.hid (HR4.out.on hb)
  have HJ5 := Lib.hid (arr9_on HJ4.out hb)
  have HV5 := Lib.hid (And.intro (v1.mono HR4.out.big) (v2.mono HR4.out.big))
  clear hb v1 v2
  refine hK.out _ _ ⟨HR5.out.1, HJ5.out⟩ (fun hHeld => ?_)
  clear hK K
  (try simp only [Act.put, List.setIfInBounds_toArray, List.set_cons_zero, List.set_cons_succ])
  refine takeQ (i := 2) (k := 43) (v := .agg #[.slice q1 n1 l1, .slice q2 n2 l2, .slice none 0 0, .string ⟨#[]⟩, .string ⟨#[]⟩, .string ⟨#[]⟩, .string ⟨#[]⟩, .int .i64 0, .string ⟨#[]⟩, .int .i64 0]) rfl (by rfl) (by kernel_rfl) (by kernel_rfl) (by kernel_rfl) (fun _ _ _ h => h) (by rfl) ?_ hHeld ?_
  · intro wv hSv; obtain ⟨⟨m0, m1⟩, _⟩ := arr9_two hSv.1; obtain ⟨⟨j0, j1, j2⟩, _⟩ := arr_3j hSv.2; go_simp
  (try simp only [Act.put, List.setIfInBounds_toArray, List.set_cons_zero, List.set_cons_succ])
  obtain ⟨⟨r0, r1, r2, r3, r4, r5, r6, r7, r8, r9⟩, u0, u1, u2, u3, u4, u5, u6, u7, u8, u9⟩ := ten_all HR5.out.2.2.1
  refine wpAnyH_ready (rs := [5]) (by kernel_rfl) (by simp) ?_
  refine AllReadyH.cons rfl (fun K hK => ?_) AllReadyH.nil
  rw [if_pos (by rfl)]
  go_simp
  have hf1 := arr_far10 HR5.out.1 (show w.heap.size ≠ w.heap.size + 1 + 1 by omega) (.slice q1 n1 l1) (.slice q2 n2 l2) (.slice none 0 0) (.string ⟨#[]⟩) (.string ⟨#[]⟩) (.string ⟨#[]⟩) (.string ⟨#[]⟩) (.int .i64 0) (.string ⟨#[]⟩) (.int .i64 0)
  have hf2 := arr_far10 HJ5.out (show w1.heap.size ≠ w.heap.size + 1 + 1 by omega) (.slice q1 n1 l1) (.slice q2 n2 l2) (.slice none 0 0) (.string ⟨#[]⟩) (.string ⟨#[]⟩) (.string ⟨#[]⟩) (.string ⟨#[]⟩) (.int .i64 0) (.string ⟨#[]⟩) (.int .i64 0)
  refine hK.out _ _ ⟨hf1, hf2⟩ (fun hHeld => ?_)
  clear hK K
  (try simp only [Act.put, List.setIfInBounds_toArray, List.set_cons_zero, List.set_cons_succ])
  refine takeQ (i := 6) (k := 7) (v := .string (resA s.o)) rfl (by rfl) (by kernel_rfl) (by kernel_rfl) (by kernel_rfl) (fun _ _ _ h => h) (by rfl) ?_ hHeld ?_
  · intro wv hSv; obtain ⟨⟨m0, m1⟩, _⟩ := arr9_two hSv.1; obtain ⟨⟨j0, j1, j2⟩, _⟩ := arr_3j hSv.2; go_simp
  (try simp only [Act.put, List.setIfInBounds_toArray, List.set_cons_zero, List.set_cons_succ])
  refine takeQ (i := 7) (k := 8) (v := .bool true) rfl (by rfl) (by kernel_rfl) (by kernel_rfl) (by kernel_rfl) (fun _ _ _ h => h) (by rfl) ?_ hHeld ?_
  · intro wv hSv; obtain ⟨⟨m0, m1⟩, _⟩ := arr9_two hSv.1; obtain ⟨⟨j0, j1, j2⟩, _⟩ := arr_3j hSv.2; go_simp
  (try simp only [Act.put, List.setIfInBounds_toArray, List.set_cons_zero, List.set_cons_succ])
  refine wpAnyH_done (by kernel_rfl) ?_ _
  clear hHeld
  (try go_wp2)
  exact bodyPost_ret (v := .tuple #[.agg #[.slice q1 n1 l1, .slice q2 n2 l2, .slice none 0 0, .string ⟨#[]⟩, .string ⟨#[]⟩, .string ⟨#[]⟩, .string ⟨#[]⟩, .int .i64 0, .string ⟨#[]⟩, .int .i64 0], .string (resA s.o), .bool true]) (results_triple Tryz.results23 _ _ (w.heap.size + 1 + 1) 37 _ _ _ _ rfl rfl rfl (arr_put10 HR5.out.2.2.1 (.slice q1 n1 l1) (.slice q2 n2 l2) (.slice none 0 0) (.string ⟨#[]⟩) (.string ⟨#[]⟩) (.string ⟨#[]⟩) (.string ⟨#[]⟩) (.int .i64 0) (.string ⟨#[]⟩) (.int .i64 0)) Tryz.underlying37 rfl (by kernel_rfl)) rfl
    ⟨⟨q1, l1, q2, l2, rfl, (own_put10 HV5.out.1 (by omega) (.slice q1 n1 l1) (.slice q2 n2 l2) (.slice none 0 0) (.string ⟨#[]⟩) (.string ⟨#[]⟩) (.string ⟨#[]⟩) (.string ⟨#[]⟩) (.int .i64 0) (.string ⟨#[]⟩) (.int .i64 0)).mono (by omega), (own_put10 HV5.out.2 (by omega) (.slice q1 n1 l1) (.slice q2 n2 l2) (.slice none 0 0) (.string ⟨#[]⟩) (.string ⟨#[]⟩) (.string ⟨#[]⟩) (.string ⟨#[]⟩) (.int .i64 0) (.string ⟨#[]⟩) (.int .i64 0)).mono (by omega)⟩, below_put10 HR5.out.2.2.2 (by omega) (.slice q1 n1 l1) (.slice q2 n2 l2) (.slice none 0 0) (.string ⟨#[]⟩) (.string ⟨#[]⟩) (.string ⟨#[]⟩) (.string ⟨#[]⟩) (.int .i64 0) (.string ⟨#[]⟩) (.int .i64 0)⟩
end Go.Proofs.YtpjmcpfmnlfmdaaGreat

namespace Go.Proofs.YtpjmcpfmnlfmdaaGreat
set_option linter.unusedSimpArgs false
set_option linter.unusedVariables false
open Go.RowKit Go.Joins

theorem ba_same {a b : ByteArray} (h : a.toList = b.toList) : a = b := (ba_ext h).trans (ba_ext (s := b) rfl).symm
theorem sel_only {f : SeL → Bool} {xs : List SeL} {i : Nat} (hi : i < xs.length) (hf : f xs[i] = true) (hun : ∀ j (hj : j < xs.length), f xs[j] = true → j = i) : selL f xs = [xs[i].r] := by
  have h1 : xs = xs.take i ++ xs[i] :: xs.drop (i + 1) := by rw [← List.drop_eq_getElem_cons hi]; exact (List.take_append_drop i xs).symm
  have h2 : (xs.take i).filter f = [] := by
    rw [List.filter_eq_nil_iff]
    intro x hx hfx
    obtain ⟨j, hj, rfl⟩ := List.mem_iff_getElem.1 hx
    rw [List.getElem_take] at hfx
    rw [List.length_take] at hj
    have := hun j (by omega) hfx
    omega
  have h3 : (xs.drop (i + 1)).filter f = [] := by
    rw [List.filter_eq_nil_iff]
    intro x hx hfx
    obtain ⟨j, hj, rfl⟩ := List.mem_iff_getElem.1 hx
    rw [List.getElem_drop] at hfx
    rw [List.length_drop] at hj
    have := hun (i + 1 + j) (by omega) hfx
    omega
  have h4 : xs.filter f = [xs[i]] := by
    conv => lhs; rw [h1]
    rw [List.filter_append, h2, List.filter_cons, if_pos hf, h3]
    rfl
  unfold selL
  rw [h4]
  rfl
theorem sel_none {f : SeL → Bool} {xs : List SeL} (h : ∀ j (hj : j < xs.length), f xs[j] = false) : selL f xs = [] := by
  unfold selL
  rw [List.filter_eq_nil_iff.2 (fun x hx hfx => by obtain ⟨j, hj, rfl⟩ := List.mem_iff_getElem.1 hx; rw [h j hj] at hfx; cases hfx)]
  rfl
/-- A session with this resource that is on. -/
def onB (r : ByteArray) (xs : List SeL) : Bool := hereB r xs && (match xs[posS r xs]? with | some x => x.o | none => false)
theorem on_here {r : ByteArray} {xs : List SeL} (h : hereB r xs = true) : onB r xs = (xs[posS r xs]'(here_lt h)).o := by
  unfold onB
  rw [h, List.getElem?_eq_getElem (here_lt h)]
  rfl
theorem on_none {r : ByteArray} {xs : List SeL} (h : hereB r xs = false) : onB r xs = false := by unfold onB; rw [h]; rfl
theorem bound_eq {xs : List SeL} (hI : IncR xs xs.length) (r : ByteArray) : boundL r xs = if hereB r xs = true then [r] else [] := by
  unfold boundL
  cases hh : hereB r xs
  · rw [if_neg (by decide)]
    refine sel_none fun j hj => ?_
    cases hc : (xs[j].r.toList == r.toList)
    · rfl
    · have := (here_only hI hj (by simpa using hc)).2
      rw [hh] at this
      cases this
  · rw [if_pos rfl]
    have hlt := here_lt hh
    have he : (xs[posS r xs].r.toList == r.toList) = true := by rw [← here_at hlt]; exact hh
    rw [sel_only (f := fun x => x.r.toList == r.toList) hlt he (fun j hj hf => (here_only hI hj (by simpa using hf)).1)]
    rw [ba_same (show xs[posS r xs].r.toList = r.toList by simpa using he)]
theorem named_eq {xs : List SeL} (hI : IncR xs xs.length) (r : ByteArray) : namedL r xs = if onB r xs = true then [r] else [] := by
  unfold namedL
  cases hh : hereB r xs
  · rw [on_none hh, if_neg (by decide)]
    refine sel_none fun j hj => ?_
    cases hc : (xs[j].r.toList == r.toList)
    · exact Bool.and_false _
    · have := (here_only hI hj (by simpa using hc)).2
      rw [hh] at this
      cases this
  · have hlt := here_lt hh
    have he : (xs[posS r xs].r.toList == r.toList) = true := by rw [← here_at hlt]; exact hh
    rw [on_here hh]
    cases ho : xs[posS r xs].o
    · rw [if_neg (by decide)]
      refine sel_none fun j hj => ?_
      cases hc : (xs[j].r.toList == r.toList)
      · exact Bool.and_false _
      · obtain rfl := (here_only hI hj (by simpa using hc)).1
        rw [ho]
        rfl
    · rw [if_pos rfl]
      rw [sel_only (f := fun x => x.o && (x.r.toList == r.toList)) hlt (by rw [ho, he]; rfl) (fun j hj hf => (here_only hI hj (by simp only [Bool.and_eq_true, beq_iff_eq] at hf; exact hf.2)).1)]
      rw [ba_same (show xs[posS r xs].r.toList = r.toList by simpa using he)]
theorem here_empty {xs : List SeL} (hok : okB xs = true) {r : ByteArray} (hr : r.size = 0) : hereB r xs = false := by
  cases hh : hereB r xs
  · rfl
  · have h := here_res hok hh
    unfold resB at h
    simp [hr] at h
theorem nb_eq {xs : List SeL} (hI : IncR xs xs.length) (r : ByteArray) : nbL r xs = if onB r xs = true then [r] else bestR xs := by
  unfold nbL
  rw [named_eq hI]
  cases onB r xs <;> rfl
set_option maxRecDepth 100000 in
set_option maxHeartbeats 1000000 in
theorem spec_on (xs : List SeL) (r : ByteArray) (p1 p2 : Option Addr) (n1 n2 c1 c2 : Nat) (w : World) (hx : xs.length = n1) (hok : okB xs = true) (hR1 : RowC seC 4 w p1 xs) :
    Calls Tryz.prog 24 #[.agg #[.slice p1 n1 c1, .slice p2 n2 c2], .string r] w fun e w' => e = .returned (.bool (onB r xs)) ∧ Below w.heap.size w w' := by
  have hI := (okB_iff.1 hok).2.1
  have h5 := (okB_iff.1 hok).1
  have i2 := fun W hR => spec_at9 xs r p1 c1 W (by omega) hI hR
  rw [hx] at i2
  have HP1 := Lib.hid (fun W (h : Below w.heap.size w W) => hR1.on h)
  have HJ := Lib.hid (And.intro (Arr.fresh w 33 [.slice p1 n1 c1, .slice p2 n2 c2]) ((Below.refl w.heap.size w).alloc (Nat.le_refl _) (.cells #[.slice p1 n1 c1, .slice p2 n2 c2] 33)))
  cases hh : hereB r xs
  · rw [on_none hh]
    rw [show whereI r xs = -1 by unfold whereI; rw [hh]; rfl] at i2
    clear hh hI h5 hok hR1 hx
    go_enter Tryz.func24, Tryz.ntmps24
    go_wp2_with (go_at_call 40; go_fit (i2 _ (HP1.out _ HJ.out.2)); rintro e w2 ⟨rfl, hb2⟩; have HB2 := Lib.hid (HJ.out.2.trans (hb2.mono HJ.out.2.size)); clear hb2)
    go_ret
    exact ⟨rfl, HB2.out⟩
  rw [on_here hh]
  have hlt := here_lt hh
  rw [show whereI r xs = (posS r xs : Int) by unfold whereI; rw [hh]; rfl] at i2
  obtain ⟨P, hP⟩ : ∃ P, posS r xs = P := ⟨_, rfl⟩
  simp only [hP] at i2 hlt ⊢
  have HROW := Lib.hid (fun W (h : RowC seC 4 W p1 xs) => row_se4 h hlt)
  obtain ⟨x, hxx⟩ : ∃ x, xs[P] = x := ⟨_, rfl⟩
  rw [hxx] at HROW ⊢
  have hlt1 : (P : Int) < (n1 : Int) := by rw [← hx]; omega
  have hP0 : (0 : Int) ≤ (P : Int) := by omega
  obtain ⟨bo, hbo⟩ : ∃ b, x.o = b := ⟨_, rfl⟩
  rw [hbo] at HROW ⊢
  clear hh hI h5 hok hR1 hx hP hxx hbo hlt
  go_enter Tryz.func24, Tryz.ntmps24
  go_wp2_with (go_at_call 40; go_fit (i2 _ (HP1.out _ HJ.out.2)); rintro e w2 ⟨rfl, hb2⟩; have HB2 := Lib.hid (HJ.out.2.trans (hb2.mono HJ.out.2.size)); obtain ⟨⟨b0, b1⟩, hz2⟩ := arr9_two (arr9_on HJ.out.1 hb2); clear hb2; obtain ⟨g, hgp, hg, x0, x1, x2, x3⟩ := HROW.out _ (HP1.out _ HB2.out); subst hgp)
  go_ret
  exact ⟨rfl, HB2.out⟩
end Go.Proofs.YtpjmcpfmnlfmdaaGreat
