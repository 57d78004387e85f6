/- What is drawn of addresses: strings of at most so many bytes. -/
import Derived.Test.YtddefjnnehjjkaaEdgeBase
import Derived.Test.YtddefjnnehjjkaaJidBare
namespace Go.Proofs.Ytddefjnnehjjkaa
set_option linter.unusedSimpArgs false
set_option linter.unusedVariables false
open Go.RowKit

/-- A row of strings, each of at most M bytes. -/
def StrRow (w : World) (b n M : Nat) : Prop := ∀ j, j < n → ∃ s : ByteArray, w.cell? ⟨b, j, none⟩ = some (.string s) ∧ s.size ≤ M
theorem strRow_new (w : World) (t M : Nat) (ss : List ByteArray) (h : ∀ s ∈ ss, s.size ≤ M) : StrRow (w.alloc (.cells (ss.map Value.string).toArray t)) w.heap.size ss.length M := by
  intro j hj
  refine ⟨ss[j], ?_, h _ (List.getElem_mem hj)⟩
  rw [(Arr.fresh w t (ss.map Value.string)).cell]
  simp [List.getElem?_eq_getElem hj]
set_option maxHeartbeats 1000000 in
theorem src_pick (B g b n M : Nat) (w : World) (hn0 : 1 ≤ n) (hn : n ≤ 100) (hS : Src w B g) (hbg : b ≠ g) (hrow : StrRow w b n M) :
    Calls Try.prog 47 #[.pointer (some ⟨g, 0, none⟩), .slice (some ⟨b, 0, none⟩) n n] w (Drew B g w (StrIn M)) := by
  have HS := Lib.hid hS
  have HR := Lib.hid hrow
  clear hS hrow
  go_enter Try.func47, Try.ntmps47
  go_wp2_with fail
  refine (src_n B g (n : Int) _ (by omega) HS.out).mono ?_
  rintro e w1 ⟨_, rfl, ⟨r, rfl, h0, h1⟩, hS1, hg1⟩
  obtain ⟨R, rfl⟩ : ∃ R : Nat, r = R := ⟨r.toNat, by omega⟩
  have hR : R < n := by omega
  obtain ⟨s, hs, hM⟩ := HR.out R hR
  have hc : w1.cell? ⟨b, R, none⟩ = some (.string s) := by
    rw [World.cell?_of_block (w := w) (hg1.block b (lt_of_cell hs) (fun e => hbg (by injection e)))]
    exact hs
  clear h1
  go_wp2
  go_ret
  exact ⟨_, rfl, ⟨s, rfl, hM⟩, hS1, hg1⟩
theorem grown_new {w w1 : World} {r : Option Nat} (h : w.grownBy w1 r) (b i : Nat) (v : Value) (hb : w.heap.size ≤ b) : w.grownBy (w1.setCell ⟨b, i, none⟩ v) r :=
  ⟨h.os, h.tape, h.output, by simpa [World.setCell] using h.size, fun k hk hne => (Below.heap_setCell w1 ⟨b, i, none⟩ v k (by simp; omega)).trans (h.block k hk hne)⟩
theorem grown_setb (w : World) (b i : Nat) (v : Value) : w.grownBy (w.setCell ⟨b, i, none⟩ v) (some b) := grown_set (World.grownBy.refl w _) i v
theorem Src.set {w : World} {B g : Nat} (h : Src w B g) (b i : Nat) (v : Value) (hne : b ≠ g) (hB : B ≤ b) : Src (w.setCell ⟨b, i, none⟩ v) B g :=
  h.other (grown_setb w b i v) (fun q e => by injection e; omega) h.lt (fun q e => by injection e; omega)
theorem Src.on {w w1 : World} {B g : Nat} (h : Src w B g) (hb : Below w.heap.size w w1) : Src w1 B g := by
  obtain ⟨hBg, a, len, cap, at_, mix, size, hA, h1, h2, h3, h4, h5, h6, h7, hrow⟩ := id h
  refine ⟨hBg, a, len, cap, at_, mix, size, arr_below hA hb, h1, h2, h3, h4, h5, h6, h7, ?_⟩
  intro k hk
  obtain ⟨b, off, z, ha, hB, hc, h0, h1⟩ := hrow k hk
  exact ⟨b, off, z, ha, hB, (hb.cell (p := ⟨b, off + k, none⟩) (lt_of_cell hc)).trans hc, h0, h1⟩
theorem grown_on {w w1 w2 : World} {r : Option Nat} (h : w.grownBy w1 r) (hb : Below w1.heap.size w1 w2) : w.grownBy w2 r :=
  ⟨hb.os.trans h.os, hb.tape.trans h.tape, hb.output.trans h.output, Nat.le_trans h.size hb.size, fun k hk hne => (hb.block k (Nat.lt_of_lt_of_le hk h.size)).trans (h.block k hk hne)⟩
/-- An address whose parts have at most 40 bytes. -/
def JidIn (v : Value) : Prop := ∃ l d r : ByteArray, v = .agg #[.string l, .string d, .string r] ∧ l.size ≤ 40 ∧ d.size ≤ 40 ∧ r.size ≤ 40
theorem strRow_at (w : World) (t M b : Nat) (ss : List ByteArray) (hb : b = w.heap.size) (h : ∀ s ∈ ss, s.size ≤ M) : StrRow (w.alloc (.cells (ss.map Value.string).toArray t)) b ss.length M := by
  subst hb
  exact strRow_new w t M ss h
theorem jid_done {w W : World} {B g : Nat} {l d r : ByteArray} (hS : Src W B g) (hg : w.grownBy W (some g)) (hgw : g < w.heap.size) (hB : B ≤ w.heap.size) (h1 : l.size ≤ 40) (h2 : d.size ≤ 40) (h3 : r.size ≤ 40) :
    Drew B g w JidIn (.returned (.agg #[.string l, .string d, .string r])) (((W.setCell ⟨w.heap.size, 0, none⟩ (.string l)).setCell ⟨w.heap.size, 1, none⟩ (.string d)).setCell ⟨w.heap.size, 2, none⟩ (.string r)) :=
  ⟨_, rfl, ⟨l, d, r, rfl, h1, h2, h3⟩, ((hS.set _ 0 _ (by omega) hB).set _ 1 _ (by omega) hB).set _ 2 _ (by omega) hB, grown_new (grown_new (grown_new hg _ 0 _ (Nat.le_refl _)) _ 1 _ (Nat.le_refl _)) _ 2 _ (Nat.le_refl _)⟩
theorem lists_le : (∀ s ∈ ([⟨#[]⟩, ⟨#[97, 110, 110]⟩, ⟨#[98, 111, 98, 46, 98]⟩, ⟨#[99, 95, 49]⟩] : List ByteArray), s.size ≤ 40) ∧ (∀ s ∈ ([⟨#[97, 46, 101, 120, 97, 109, 112, 108, 101]⟩, ⟨#[98]⟩, ⟨#[120, 45, 121, 46, 122]⟩] : List ByteArray), s.size ≤ 40) ∧ (∀ s ∈ ([⟨#[]⟩, ⟨#[]⟩, ⟨#[104, 111, 109, 101]⟩, ⟨#[82, 40, 49, 41]⟩] : List ByteArray), s.size ≤ 40) ∧ (∀ s ∈ ([⟨#[]⟩, ⟨#[46, 97]⟩, ⟨#[97, 46]⟩, ⟨#[97, 46, 46, 98]⟩, ⟨#[45, 97]⟩, ⟨#[65]⟩] : List ByteArray), s.size ≤ 40) ∧ (∀ s ∈ ([⟨#[97, 47, 98]⟩, ⟨#[97, 32, 98]⟩, ⟨#[60]⟩, ⟨#[39]⟩] : List ByteArray), s.size ≤ 40) := by decide
theorem list_made : ∀ s ∈ ([⟨#[65]⟩, ⟨#[97, 32, 98]⟩, strOf (List.replicate 30 0), ⟨#[97, 98, 99, 100, 101, 102, 103, 104, 105, 106, 107, 108, 109, 110, 111, 112, 113, 114, 115, 116, 117, 118, 119, 120, 121, 122, 49, 50, 51, 52, 53]⟩] : List ByteArray), s.size ≤ 40 := by decide

set_option maxRecDepth 100000 in
set_option maxHeartbeats 8000000 in
theorem src_jid (B g : Nat) (w : World) (hS : Src w B g) :
    Calls Try.prog 33 #[.pointer (some ⟨g, 0, none⟩)] w (Drew B g w JidIn) := by
  obtain ⟨i0, hi, hz0, hz1, hz2⟩ := info_parts info_u8d
  have hgw : g < w.heap.size := hS.lt
  have hBg : B ≤ g := hS.1
  obtain ⟨q1, q2, q3, q4, q5⟩ := lists_le
  have Q1 := Lib.hid q1
  have Q2 := Lib.hid q2
  have Q3 := Lib.hid q3
  have Q4 := Lib.hid q4
  have Q5 := Lib.hid q5
  clear q1 q2 q3 q4 q5
  have HS := Lib.hid hS
  clear hS
  go_enter Try.func33, Try.ntmps33
  go_wp2_with fail
  refine (src_pick B g (w.heap.size + 1) 4 40 _ (by omega) (by omega) ((HS.out.alloc _).alloc _) (by omega) (strRow_at (w.alloc (.cells #[.string ⟨#[]⟩, .string ⟨#[]⟩, .string ⟨#[]⟩] 24)) 9 40 (w.heap.size + 1) [⟨#[]⟩, ⟨#[97, 110, 110]⟩, ⟨#[98, 111, 98, 46, 98]⟩, ⟨#[99, 95, 49]⟩] (World.size_alloc ..).symm Q1.out)).mono ?_
  rintro e w1 ⟨_, rfl, ⟨l, rfl, hl⟩, hS1, hg1⟩
  have hz1' := hg1.size
  simp at hz1'
  have G0 : (w.alloc (.cells #[.string ⟨#[]⟩, .string ⟨#[]⟩, .string ⟨#[]⟩] 24)).grownBy w1 (some g) := grown_same (grown_alloc (World.grownBy.refl _ _) _) hg1
  clear hg1
  go_wp2_with fail
  refine (src_pick B g w1.heap.size 3 40 _ (by omega) (by omega) (hS1.alloc _) (by omega) (strRow_at w1 9 40 _ [⟨#[97, 46, 101, 120, 97, 109, 112, 108, 101]⟩, ⟨#[98]⟩, ⟨#[120, 45, 121, 46, 122]⟩] rfl Q2.out)).mono ?_
  rintro e w2 ⟨_, rfl, ⟨d, rfl, hd⟩, hS2, hg2⟩
  have hz2' := hg2.size
  simp at hz2'
  replace G0 := grown_same (grown_alloc G0 _) hg2
  clear hg2 hS1
  go_wp2_with fail
  refine (src_pick B g w2.heap.size 4 40 _ (by omega) (by omega) (hS2.alloc _) (by omega) (strRow_at w2 9 40 _ [⟨#[]⟩, ⟨#[]⟩, ⟨#[104, 111, 109, 101]⟩, ⟨#[82, 40, 49, 41]⟩] rfl Q3.out)).mono ?_
  rintro e w3 ⟨_, rfl, ⟨r, rfl, hr⟩, hS3, hg3⟩
  have hz3' := hg3.size
  simp at hz3'
  replace G0 := grown_same (grown_alloc G0 _) hg3
  clear hg3 hS2
  go_wp2_with fail
  refine (src_one B g 10 _ (by omega) (hS3.alloc _)).mono ?_
  rintro e w4 ⟨_, rfl, ⟨q, rfl⟩, hS4, hg4⟩
  have hJ : Arr w4 w3.heap.size 24 [.string l, .string d, .string r] := (Arr.fresh w3 24 [.string l, .string d, .string r]).other hg4 (fun e => by injection e; omega)
  replace G0 := grown_same (grown_alloc G0 _) hg4
  have hz4' := hg4.size
  simp at hz4'
  clear hg4 hS3
  cases q
  · have hR : Arr w4 w.heap.size 24 [.string ⟨#[]⟩, .string ⟨#[]⟩, .string ⟨#[]⟩] := (Arr.fresh w 24 [.string ⟨#[]⟩, .string ⟨#[]⟩, .string ⟨#[]⟩]).other G0 (fun e => by injection e; omega)
    obtain ⟨c0, c1, c2, _, _, _⟩ := arr_three hJ
    obtain ⟨p0, p1, p2, f0, f1, f2⟩ := arr_three hR
    have HG := Lib.hid (grown_same (grown_alloc (World.grownBy.refl w (some g)) _) G0)
    have HS4 := Lib.hid hS4
    clear hJ hR G0 hS4
    go_wp2
    exact bodyPost_ret (v := .agg #[.string l, .string d, .string r]) (by simp [results, Try.results33, go_sem, p0, p1, p2]; try omega) rfl (jid_done HS4.out HG.out hgw (by omega) hl hd hr)
  · go_wp2_with fail
    refine (src_n B g 3 _ (by omega) hS4).mono ?_
    rintro e w5 ⟨_, rfl, ⟨k, rfl, k0, k1⟩, hS5, hg5⟩
    replace hJ := hJ.other hg5 (fun e => by injection e; omega)
    replace G0 := grown_same G0 hg5
    have hz5' := hg5.size
    clear hg5 hS4
    have k3 : k = 0 ∨ k = 1 ∨ k = 2 := by omega
    rcases k3 with rfl | rfl | rfl
    · have hmk : ∀ u : World, (Instr.makeSlice 22 (.int .i64 30) (.int .i64 30)).run Try.prog u = .ok (.slice (some ⟨u.heap.size, 0, none⟩) 30 30) (u.alloc (.cells (madeCells #[.int .u8 0] 30) 5)) := fun u => by
        have h := run_make (P := Try.prog) u 22 5 i0 (.int .u8 0) Try.underlying22 hi hz0 .i64 .i64 30 30 (by omega) (Int.le_refl _) (by rw [hz2]; omega) (by omega)
        simpa [hz1, Value.cells] using h
      have hcv := run_string_made (P := Try.prog) w5 22 9 5 30 Try.underlying22 Try.underlying5 Try.underlying9
      obtain ⟨Z, hZ⟩ : ∃ Z, Z = strOf (List.replicate 30 0) := ⟨_, rfl⟩
      rw [← hZ] at hcv
      have HZ := Lib.hid hZ
      clear hZ
      go_wp2_with fail
      refine (src_pick B g (w5.heap.size + 1) 4 40 _ (by omega) (by omega) ((hS5.alloc _).alloc _) (by omega) (strRow_at (w5.alloc (.cells (madeCells #[.int .u8 0] 30) 5)) 9 40 _ [⟨#[65]⟩, ⟨#[97, 32, 98]⟩, Z, ⟨#[97, 98, 99, 100, 101, 102, 103, 104, 105, 106, 107, 108, 109, 110, 111, 112, 113, 114, 115, 116, 117, 118, 119, 120, 121, 122, 49, 50, 51, 52, 53]⟩] (World.size_alloc ..).symm (by rw [HZ.out]; exact list_made))).mono ?_
      rintro e w6 ⟨_, rfl, ⟨x, rfl, hx⟩, hS6, hg6⟩
      replace hJ := ((hJ.alloc _).alloc _).other hg6 (fun e => by injection e; omega)
      replace G0 := grown_same (grown_alloc (grown_alloc G0 _) _) hg6
      have hz6' := hg6.size
      simp at hz6'
      have hR : Arr w6 w.heap.size 24 [.string ⟨#[]⟩, .string ⟨#[]⟩, .string ⟨#[]⟩] := (Arr.fresh w 24 [.string ⟨#[]⟩, .string ⟨#[]⟩, .string ⟨#[]⟩]).other G0 (fun e => by injection e; omega)
      obtain ⟨c0, c1, c2, e0, e1, e2⟩ := arr_three hJ
      obtain ⟨p0, p1, p2, f0, f1, f2⟩ := arr_three hR
      have hne : w3.heap.size ≠ w.heap.size := by omega
      have HG := Lib.hid (grown_new (grown_same (grown_alloc (World.grownBy.refl w (some g)) _) G0) w3.heap.size 0 (.string x) (by omega))
      have HS6 := Lib.hid (hS6.set w3.heap.size 0 (.string x) (by omega) (by omega))
      clear hJ hR G0 hS6 hg6 hmk hcv HZ
      go_wp2
      exact bodyPost_ret (v := .agg #[.string x, .string d, .string r]) (by simp [results, Try.results33, go_sem, p0, p1, p2]; try omega) rfl (jid_done HS6.out HG.out hgw (by omega) hx hd hr)
    · go_wp2_with fail
      refine (src_pick B g w5.heap.size 6 40 _ (by omega) (by omega) (hS5.alloc _) (by omega) (strRow_at w5 9 40 _ [⟨#[]⟩, ⟨#[46, 97]⟩, ⟨#[97, 46]⟩, ⟨#[97, 46, 46, 98]⟩, ⟨#[45, 97]⟩, ⟨#[65]⟩] rfl Q4.out)).mono ?_
      rintro e w6 ⟨_, rfl, ⟨x, rfl, hx⟩, hS6, hg6⟩
      replace hJ := (hJ.alloc _).other hg6 (fun e => by injection e; omega)
      replace G0 := grown_same (grown_alloc G0 _) hg6
      have hz6' := hg6.size
      simp at hz6'
      have hR : Arr w6 w.heap.size 24 [.string ⟨#[]⟩, .string ⟨#[]⟩, .string ⟨#[]⟩] := (Arr.fresh w 24 [.string ⟨#[]⟩, .string ⟨#[]⟩, .string ⟨#[]⟩]).other G0 (fun e => by injection e; omega)
      obtain ⟨c0, c1, c2, e0, e1, e2⟩ := arr_three hJ
      obtain ⟨p0, p1, p2, f0, f1, f2⟩ := arr_three hR
      have hne : w3.heap.size ≠ w.heap.size := by omega
      have HG := Lib.hid (grown_new (grown_same (grown_alloc (World.grownBy.refl w (some g)) _) G0) w3.heap.size 1 (.string x) (by omega))
      have HS6 := Lib.hid (hS6.set w3.heap.size 1 (.string x) (by omega) (by omega))
      clear hJ hR G0 hS6 hg6
      go_wp2
      exact bodyPost_ret (v := .agg #[.string l, .string x, .string r]) (by simp [results, Try.results33, go_sem, p0, p1, p2]; try omega) rfl (jid_done HS6.out HG.out hgw (by omega) hl hx hr)
    · go_wp2_with fail
      refine (src_pick B g w5.heap.size 4 40 _ (by omega) (by omega) (hS5.alloc _) (by omega) (strRow_at w5 9 40 _ [⟨#[97, 47, 98]⟩, ⟨#[97, 32, 98]⟩, ⟨#[60]⟩, ⟨#[39]⟩] rfl Q5.out)).mono ?_
      rintro e w6 ⟨_, rfl, ⟨x, rfl, hx⟩, hS6, hg6⟩
      replace hJ := (hJ.alloc _).other hg6 (fun e => by injection e; omega)
      replace G0 := grown_same (grown_alloc G0 _) hg6
      have hz6' := hg6.size
      simp at hz6'
      have hR : Arr w6 w.heap.size 24 [.string ⟨#[]⟩, .string ⟨#[]⟩, .string ⟨#[]⟩] := (Arr.fresh w 24 [.string ⟨#[]⟩, .string ⟨#[]⟩, .string ⟨#[]⟩]).other G0 (fun e => by injection e; omega)
      obtain ⟨c0, c1, c2, e0, e1, e2⟩ := arr_three hJ
      obtain ⟨p0, p1, p2, f0, f1, f2⟩ := arr_three hR
      have hne : w3.heap.size ≠ w.heap.size := by omega
      have HG := Lib.hid (grown_new (grown_same (grown_alloc (World.grownBy.refl w (some g)) _) G0) w3.heap.size 2 (.string x) (by omega))
      have HS6 := Lib.hid (hS6.set w3.heap.size 2 (.string x) (by omega) (by omega))
      clear hJ hR G0 hS6 hg6
      go_wp2
      exact bodyPost_ret (v := .agg #[.string l, .string d, .string x]) (by simp [results, Try.results33, go_sem, p0, p1, p2]; try omega) rfl (jid_done HS6.out HG.out hgw (by omega) hl hd hx)
end Go.Proofs.Ytddefjnnehjjkaa
