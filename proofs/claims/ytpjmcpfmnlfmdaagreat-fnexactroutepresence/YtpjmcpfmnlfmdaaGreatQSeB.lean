/- Several parts in one text: RwSession, SeOutL, SeStrs, SeAny, RwStr, SeBestM, SeSel, SeBest, SeBestS, SeLBest, SeLw, SeLwS. -/
import Derived.Test.YtpjmcpfmnlfmdaaGreatQBase
import Derived.Deep.RegionHeld3
import Derived.Deep.DeepFit
import Derived.Lib.SmallJoins
import Derived.Test.YtpjmcpfmnlfmdaaGreatQSeA
namespace Go.Proofs.YtpjmcpfmnlfmdaaGreat
set_option linter.unusedSimpArgs false
set_option linter.unusedVariables false
open Go.RowKit

def mk_se (q k : Nat) : Value := if q % 4 = 2 then .int .i64 (k : Int) else if q % 4 = 1 then .bool (decide (k % 3 = 0)) else .string (mkT k)
theorem mk_se_s {q k : Nat} {z : Int} (h2 : q % 4 ≠ 2) (h1 : q % 4 ≠ 1) (hz : z.toNat = k) : Value.string (mkT z.toNat) = mk_se q k := by
  unfold mk_se
  rw [if_neg h2, if_neg h1, hz]
theorem mk_se_2 {q k : Nat} {z : Int} (h : q % 4 = 2) (hz : z = (k : Int)) : Value.int .i64 z = mk_se q k := by
  unfold mk_se
  rw [if_pos h, hz]
theorem mk_se_1 {q k : Nat} {z : Int} (h : q % 4 = 1) (hz : z = (k : Int)) : Value.bool (z % 3 == 0) = mk_se q k := by
  unfold mk_se
  rw [if_neg (by omega), if_pos h, hz]
  congr 1
  rw [Bool.eq_iff_iff, beq_iff_eq, decide_eq_true_eq]
  omega
theorem MRow.se {f : Nat → Nat → Value} {k B e g n cap m : Nat} {w W : World} (h : MRow f k w B e 4 g n cap W m) {i : Nat} (hi : i < n) : ∃ u0 u1 u2 u3, (W.cell? ⟨g, i * 4, none⟩ = some u0 ∧ W.cell? ⟨g, i * 4 + 1, none⟩ = some u1 ∧ W.cell? ⟨g, i * 4 + 2, none⟩ = some u2 ∧ W.cell? ⟨g, i * 4 + 3, none⟩ = some u3) ∧ W.frozen? ⟨g, i * 4, none⟩ = false ∧ W.frozen? ⟨g, i * 4 + 1, none⟩ = false ∧ W.frozen? ⟨g, i * 4 + 2, none⟩ = false ∧ W.frozen? ⟨g, i * 4 + 3, none⟩ = false := by
  obtain ⟨⟨u0, c0⟩, f0⟩ := h.there (q := i * 4) (by omega)
  obtain ⟨⟨u1, c1⟩, f1⟩ := h.there (q := i * 4 + 1) (by omega)
  obtain ⟨⟨u2, c2⟩, f2⟩ := h.there (q := i * 4 + 2) (by omega)
  obtain ⟨⟨u3, c3⟩, f3⟩ := h.there (q := i * 4 + 3) (by omega)
  exact ⟨u0, u1, u2, u3, ⟨c0, c1, c2, c3⟩, f0, f1, f2, f3⟩
set_option maxRecDepth 100000 in
set_option maxHeartbeats 1000000 in
theorem mark_se (B g n cap k0 : Nat) (w : World) (hk : 0 < k0) (hk1 : k0 ≤ 1000000) (hn : n ≤ 2000000) (h : MRow mk_se k0 w B 70 4 g n cap w 0) :
    Calls Tryz.prog 35 #[.slice (some ⟨g, 0, none⟩) n cap, .int .i64 (k0 : Int)] w fun e w' => e = .returned (.int .i64 ((k0 : Int) + n * 4)) ∧ MRow mk_se k0 w B 70 4 g n cap w' (n * 4) := by
  have HH := Lib.hid h
  clear h
  go_enter Tryz.func35, Tryz.ntmps35
  go_wp2
  go_loopw [1, 5] (fun kq iq wr => ∃ (i : Nat) (z : Int), i ≤ n ∧ iq = .int .i64 i ∧ kq = .int .i64 z ∧ z = (k0 : Int) + i * 4 ∧ MRow mk_se k0 w B 70 4 g n cap wr (i * 4)) (fun _ i _ => n - (intOf i).toNat)
  case atStart => exact ⟨0, _, Nat.zero_le _, rfl, rfl, by simp, by simpa using HH.out⟩
  case round =>
    obtain ⟨i, z, hi, rfl, rfl, hz, hM⟩ := hrel
    have hz0 : 0 < z := by omega
    have hz1 : z ≤ 100000000 := by omega
    have HZ := Lib.hid hz
    have HM := Lib.hid hM
    clear hz hM
    by_cases hlt : i < n
    · clear hk hk1
      go_wp2_with (first
        | (go_at_call 63; have _ := HM0; go_fit (mark_textI _ _ (by omega) (by omega)); rintro e w3 ⟨rfl, hb3⟩; have HM3 := Lib.hid (((((HM0.out.put (by omega) (mk_se_s (by omega) (by omega) (by have := HZ.out; omega))).put (by omega) (mk_se_1 (by omega) (by have := HZ.out; omega))).put (by omega) (mk_se_2 (by omega) (by have := HZ.out; omega)))).on hb3); clear hb3; obtain ⟨u0, u1, u2, u3, ⟨c0, c1, c2, c3⟩, f0, f1, f2, f3⟩ := HM3.out.se hlt)
        | (go_at_call 63; go_fit (mark_textI _ _ (by omega) (by omega)); rintro e w0 ⟨rfl, hb0⟩; have HM0 := Lib.hid ((HM.out).on hb0); clear hb0; obtain ⟨u0, u1, u2, u3, ⟨c0, c1, c2, c3⟩, f0, f1, f2, f3⟩ := HM0.out.se hlt))
      go_roundw
      case rel => exact ⟨i + 1, _, by omega, by go_num, rfl, by have := HZ.out; omega, by rw [show (i + 1) * 4 = i * 4 + 3 + 1 by omega]; exact (HM3.out.put (by omega) (mk_se_s (by omega) (by omega) (by have := HZ.out; omega)))⟩
      case measure => simp [intOf]; omega
    · obtain rfl : i = n := by omega
      go_wp2
      go_ret
      exact ⟨ret_int HZ.out, HM.out⟩
theorem mark_se_0 (p : Option Addr) (cap k0 : Nat) (w : World) (hk1 : k0 ≤ 1000000) :
    Calls Tryz.prog 35 #[.slice p 0 cap, .int .i64 (k0 : Int)] w fun e w' => e = .returned (.int .i64 (k0 : Int)) ∧ w = w' := by
  go_enter Tryz.func35, Tryz.ntmps35
  go_wp2
  go_loopw [1, 5] (fun kq iq wr => kq = .int .i64 (k0 : Int) ∧ iq = .int .i64 0 ∧ w = wr) (fun _ _ _ => 0)
  case atStart => exact ⟨rfl, rfl, rfl⟩
  case round =>
    obtain ⟨rfl, rfl, rfl⟩ := hrel
    go_wp2
    go_ret
    exact ⟨rfl, rfl⟩
theorem held_se_0 (p : Option Addr) (cap k0 : Nat) (w : World) (hk1 : k0 ≤ 1000000) :
    Calls Tryz.prog 64 #[.slice p 0 cap, .int .i64 (k0 : Int)] w fun e w' => e = .returned (.int .i64 (k0 : Int)) ∧ w = w' := by
  go_enter Tryz.func64, Tryz.ntmps64
  go_wp2
  go_loopw [1, 5] (fun kq iq wr => kq = .int .i64 (k0 : Int) ∧ iq = .int .i64 0 ∧ w = wr) (fun _ _ _ => 0)
  case atStart => exact ⟨rfl, rfl, rfl⟩
  case round =>
    obtain ⟨rfl, rfl, rfl⟩ := hrel
    go_wp2
    go_ret
    exact ⟨rfl, rfl⟩
abbrev Held_se (g i : Nat) (z : Int) (wr W : World) : Prop := (W.cell? ⟨g, i * 4, none⟩ = some (.string (mkT (z).toNat)) ∧ W.cell? ⟨g, i * 4 + 1, none⟩ = some (.bool ((z + 1) % 3 == 0)) ∧ W.cell? ⟨g, i * 4 + 2, none⟩ = some (.int .i64 (z + 1 + 1)) ∧ W.cell? ⟨g, i * 4 + 3, none⟩ = some (.string (mkT (z + 1 + 1 + 1).toNat))) ∧ (Below wr.heap.size wr W ∧ g < wr.heap.size)
theorem held_se_on {g i : Nat} {z : Int} {wr W W2 : World} (h : Held_se g i z wr W) (hb : Below W.heap.size W W2) : Held_se g i z wr W2 := by
  obtain ⟨⟨c0, c1, c2, c3⟩, h1, h2⟩ := h
  have hg : g < W.heap.size := Nat.lt_of_lt_of_le h2 h1.size
  exact ⟨⟨(hb.cell (p := ⟨g, i * 4, none⟩) hg).trans c0, (hb.cell (p := ⟨g, i * 4 + 1, none⟩) hg).trans c1, (hb.cell (p := ⟨g, i * 4 + 2, none⟩) hg).trans c2, (hb.cell (p := ⟨g, i * 4 + 3, none⟩) hg).trans c3⟩, h1.trans (hb.mono h1.size), h2⟩
theorem held_se_drew {g i : Nat} {z : Int} {wr W : World} (h : Held_se g i z wr W) : Held_se g i z wr W.drew := held_se_on h (Below.refl _ _).drew
theorem held_se_of {k0 B g n cap m i : Nat} {z : Int} {w wr : World} (h : MRow mk_se k0 w B 70 4 g n cap wr m) (hi : i < n) (hm : i * 4 + 4 ≤ m) (hz : z = (k0 : Int) + i * 4) : Held_se g i z wr wr := by
  refine ⟨⟨?_, ?_, ?_, ?_⟩, Below.refl _ _, h.lt.2⟩
  · exact (h.cell (by omega) (by omega)).trans (congrArg some (mk_se_s (by omega) (by omega) (by omega)).symm)
  · exact (h.cell (by omega) (by omega)).trans (congrArg some (mk_se_1 (by omega) (by omega)).symm)
  · exact (h.cell (by omega) (by omega)).trans (congrArg some (mk_se_2 (by omega) (by omega)).symm)
  · exact (h.cell (by omega) (by omega)).trans (congrArg some (mk_se_s (by omega) (by omega) (by omega)).symm)
set_option maxRecDepth 100000 in
set_option maxHeartbeats 2000000 in
theorem heldr_se (B g n cap k0 m : Nat) (w0 w : World) (hk : 0 < k0) (hk1 : k0 ≤ 1000000) (hn : n ≤ 2000000) (h : MRow mk_se k0 w0 B 70 4 g n cap w m) (hm : m = n * 4) :
    Calls Tryz.prog 64 #[.slice (some ⟨g, 0, none⟩) n cap, .int .i64 (k0 : Int)] w fun e w' => e = .returned (.int .i64 ((k0 : Int) + n * 4)) ∧ Below w.heap.size w w' := by
  have HH := Lib.hid h
  clear h
  go_enter Tryz.func64, Tryz.ntmps64
  go_wp2
  go_loopw [1, 5] (fun kq iq wr => ∃ (i : Nat) (z : Int), i ≤ n ∧ iq = .int .i64 i ∧ kq = .int .i64 z ∧ z = (k0 : Int) + i * 4 ∧ Below w.heap.size w wr) (fun _ i _ => n - (intOf i).toNat)
  case atStart => exact ⟨0, _, Nat.zero_le _, rfl, rfl, by simp, Below.refl _ _⟩
  case round =>
    obtain ⟨i, z, hi, rfl, rfl, hz, hb⟩ := hrel
    have hz0 : 0 < z := by omega
    have hz1 : z ≤ 100000000 := by omega
    have HZ := Lib.hid hz
    have HB := Lib.hid hb
    by_cases hlt : i < n
    · have hS := held_se_of (HH.out.on hb) hlt (by omega) hz
      have HS := Lib.hid hS
      obtain ⟨⟨c0, c1, c2, c3⟩, _, _⟩ := hS
      clear hz hb hk hk1 hm
      go_wp2
      go_region_held3 (fun W => (W.cell? ⟨g, i * 4, none⟩ = some (.string (mkT (z).toNat)) ∧ W.cell? ⟨g, i * 4 + 1, none⟩ = some (.bool ((z + 1) % 3 == 0)) ∧ W.cell? ⟨g, i * 4 + 2, none⟩ = some (.int .i64 (z + 1 + 1)) ∧ W.cell? ⟨g, i * 4 + 3, none⟩ = some (.string (mkT (z + 1 + 1 + 1).toNat))) ∧ (Below wr.heap.size wr W ∧ g < wr.heap.size))
        (with_reducible first | assumption | exact held_se_drew HS.out | exact held_se_on (by assumption) hbN)
        (first | (go_at_call 63; go_fit (mark_textI _ _ (by omega) (by omega)); rintro e wn0 ⟨rfl, hbN⟩; have HS0 := Lib.hid (held_se_on (z := z) (i := i) (wr := wr) (by assumption) hbN); obtain ⟨⟨d0, d1, d2, d3⟩, _, _⟩ := HS0.out))
      go_wp2
      go_region_held3 (fun W => (W.cell? ⟨g, i * 4, none⟩ = some (.string (mkT (z).toNat)) ∧ W.cell? ⟨g, i * 4 + 1, none⟩ = some (.bool ((z + 1) % 3 == 0)) ∧ W.cell? ⟨g, i * 4 + 2, none⟩ = some (.int .i64 (z + 1 + 1)) ∧ W.cell? ⟨g, i * 4 + 3, none⟩ = some (.string (mkT (z + 1 + 1 + 1).toNat))) ∧ (Below wr.heap.size wr W ∧ g < wr.heap.size))
        (with_reducible first | assumption | exact held_se_drew HS0.out | exact held_se_on (by assumption) hbN)
        (first | (go_at_call 63; go_fit (mark_textI _ _ (by omega) (by omega)); rintro e wn3 ⟨rfl, hbN⟩; have HS3 := Lib.hid (held_se_on (z := z) (i := i) (wr := wr) (by assumption) hbN); obtain ⟨⟨d0, d1, d2, d3⟩, _, _⟩ := HS3.out))
      go_wp2
      go_roundw
      case rel => exact ⟨i + 1, _, by omega, by go_num, rfl, by have := HZ.out; omega, HB.out.trans (HS3.out.2.1.mono HB.out.size)⟩
      case measure => simp [intOf]; omega
    · obtain rfl : i = n := by omega
      go_wp2
      go_ret
      exact ⟨ret_int HZ.out, HB.out⟩
/-- Marking a slice that the call has made. -/
theorem marks_se {α : Type} (enc : α → List Value) (B k0 : Nat) (v : Value) (xs : List α) (w : World) (hk : 0 < k0) (hk1 : k0 ≤ 1000000) (hn : xs.length ≤ 2000000) (hB : B ≤ w.heap.size) (h : OwnC enc w B 70 4 v xs) :
    Calls Tryz.prog 35 #[v, .int .i64 (k0 : Int)] w fun e w' => e = .returned (.int .i64 ((k0 : Int) + xs.length * 4)) ∧ MOwn mk_se k0 B 70 4 v xs.length w' ∧ MFrame B v w w' := by
  obtain ⟨n, hxn⟩ : ∃ n, xs.length = n := ⟨_, rfl⟩
  rcases Nat.eq_zero_or_pos n with h0 | h0
  · subst h0
    have hv : ∃ p cap, v = .slice p 0 cap := by
      rcases h.2 with ⟨e1, _⟩ | ⟨g, cap, cur, e1, _⟩
      · exact ⟨none, 0, e1⟩
      · exact ⟨_, cap, by rw [e1, hxn]⟩
    obtain ⟨p, cap, rfl⟩ := hv
    rw [hxn]
    refine (mark_se_0 p cap k0 w hk1).mono ?_
    rintro e w' ⟨rfl, rfl⟩
    exact ⟨by simp, ⟨p, cap, rfl, .inl rfl⟩, Below.refl _ _, Nat.le_refl _, fun _ _ _ => rfl⟩
  · obtain ⟨g, cap, rfl⟩ := Joins.ownsRow_form h (by omega)
    rw [hxn] at h hn ⊢
    refine (mark_se B g n cap k0 w hk hk1 hn (mrow_of h hB)).mono ?_
    rintro e w' ⟨rfl, hM⟩
    exact ⟨rfl, ⟨_, cap, rfl, .inr ⟨g, w, rfl, hM⟩⟩, hM.2.1, hM.2.2.2.1, fun k hk hne => hM.2.2.2.2 k hk (hne g rfl)⟩
theorem helds_se (B k0 n : Nat) (v : Value) (w : World) (hk : 0 < k0) (hk1 : k0 ≤ 1000000) (hn : n ≤ 2000000) (h : MOwn mk_se k0 B 70 4 v n w) :
    Calls Tryz.prog 64 #[v, .int .i64 (k0 : Int)] w fun e w' => e = .returned (.int .i64 ((k0 : Int) + n * 4)) ∧ Below w.heap.size w w' := by
  obtain ⟨p, cap, rfl, h1⟩ := h
  rcases h1 with rfl | ⟨g, w0, rfl, hM⟩
  · refine (held_se_0 p cap k0 w hk1).mono ?_
    rintro e w' ⟨rfl, rfl⟩
    exact ⟨by simp, Below.refl _ _⟩
  · exact heldr_se B g n cap k0 _ w0 w hk hk1 hn hM rfl
end Go.Proofs.YtpjmcpfmnlfmdaaGreat

namespace Go.Proofs.YtpjmcpfmnlfmdaaGreat
set_option linter.unusedSimpArgs false
set_option linter.unusedVariables false
open Go.RowKit Go.Joins

theorem twoS {w w1 : World} {cs ds : List Value} {t : Nat} (h : Below ((w.alloc (.cells cs.toArray t)).alloc (.cells ds.toArray t)).heap.size ((w.alloc (.cells cs.toArray t)).alloc (.cells ds.toArray t)) w1) :
    Arr w1 w.heap.size t cs ∧ Arr w1 (w.heap.size + 1) t ds ∧ Below w.heap.size w w1 := by
  have h2 := Arr.fresh (w.alloc (.cells cs.toArray t)) t ds
  rw [World.size_alloc] at h2
  exact ⟨arr9_on (arr9_on (Arr.fresh w t cs) ((Below.refl _ _).alloc (Nat.le_refl _) _)) h, arr9_on h2 h, ((((Below.refl _ _).alloc (Nat.le_refl _) _).alloc (by simp) _)).trans (h.mono (by simp; omega))⟩
def soC (R : SoL) (p : Option Addr) (k : Nat) : List Value := [.slice p R.l.length k, .int .i64 R.c]
theorem mown_frame {α : Type} {enc : α → List Value} {B B2 e size : Nat} {v u : Value} {xs : List α} {w W : World} (h : MFrame B v w W) (ho : OwnC enc w B2 e size u xs) (hne : ∀ a b, v.ownBlock = some a → u.ownBlock = some b → b ≠ a) : OwnC enc W B2 e size u xs := by
  refine ⟨ho.1, ?_⟩
  rcases ho.2 with h0 | ⟨g, cap, cur, h1, h2, h3, h4⟩
  · exact .inl h0
  · refine .inr ⟨g, cap, cur, h1, h2, (h.2.2 g (Array.getElem?_eq_some_iff.1 h3).1 (fun a ha => hne a g ha (by rw [h1]; rfl))).trans h3, h4⟩
end Go.Proofs.YtpjmcpfmnlfmdaaGreat

namespace Go.Proofs.YtpjmcpfmnlfmdaaGreat
set_option linter.unusedSimpArgs false
set_option linter.unusedVariables false
open Go.RowKit Go.Joins

/-- A row of strings of the call's own. -/
def OwnT (w : World) (B : Nat) (v : Value) (ps : List ByteArray) : Prop := w.ownsRow B 9 1 v ps.length (ps.map Value.string)
theorem own_on9 {w w' : World} {B : Nat} {v : Value} {ps : List ByteArray} (h : OwnT w B v ps) (hb : Below w.heap.size w w') : OwnT w' B v ps := ownsRow_on h hb
theorem info_str9 : (Tryz.prog.info? 9).map (fun i => (i.zero, i.size, i.bytes)) = some (some (.string ⟨#[]⟩), 1, 16) := by kernel_rfl
theorem wp_app_str9 {o : Oper} {a : Act} {w : World} {K : Act → World → Prop} {Q : Exit → Act → World → Prop} (s x : Operand)
    (ho : o.op = Op.call { callee := Callee.builtin Builtin.append, args := #[s, x], argTypes := #[34, 34] })
    (B : Nat) (v : Value) (ps : List ByteArray) (hs : a.eval s = v) (hown : OwnT w B v ps) (g : Nat) (y : ByteArray) (hx : a.eval x = .slice (some ⟨g, 0, none⟩) 1 1)
    (hc : w.cell? ⟨g, 0, none⟩ = some (.string y)) (hmax : ps.length ≤ 2000000) (hB : B ≤ w.heap.size)
    (h : ∀ v' w', OwnT w' B v' (ps ++ [y]) → w.grownBy w' v.ownBlock → (∀ k, v.ownBlock = some k → B ≤ k ∧ k < w.heap.size) → K (a.put o.dst v') w') : o.wp Tryz.prog a w K Q := by
  obtain ⟨i0, hi, hz0, hz1, hz2⟩ := info_parts info_str9
  obtain ⟨v', w', hr, h1, h2, _⟩ := run_append_own (P := Tryz.prog) w B 34 o.type 9 i0 (.string ⟨#[]⟩) 1 16 Tryz.underlying34 hi hz0 hz1 hz2 rfl (by decide) v ps.length (ps.map Value.string) hown ⟨g, 0, none⟩ 1 1 [.string y]
    rfl (fun j u hj => by
      have hj' : j = 0 := by have := (List.getElem?_eq_some_iff.1 hj).1; simp at this; omega
      subst hj'
      rw [show (⟨g, 0, none⟩ : Addr).add 0 = ⟨g, 0, none⟩ by unfold Addr.add; split <;> simp_all, hc, ← hj]
      rfl) (fun u hu => by simp at hu; subst hu; rfl) (by unfold maxLen; omega) (by omega) hB
  unfold Oper.wp execOp
  simp only [ho, resolve, invoke, builtin, Sem.run_bind, Sem.run_pure, Result.andThen_ok, List.map_toArray, List.map_cons, List.map_nil, hs, hx, hr]
  refine h v' w' ?_ h2 (fun k hk => World.ownsRow.lt hown k hk)
  unfold OwnT
  rw [List.length_append, List.map_append]
  exact h1
end Go.Proofs.YtpjmcpfmnlfmdaaGreat

namespace Go.Proofs.YtpjmcpfmnlfmdaaGreat
set_option linter.unusedSimpArgs false
set_option linter.unusedVariables false
open Go.RowKit

theorem impl_ison (x : SeL) (w : World) : Calls Tryz.prog 68 #[seV x] w fun e w' => e = .returned (.bool x.o) ∧ Below w.heap.size w w' := by
  unfold seV
  go_enter Tryz.func68, Tryz.ntmps68
  go_wp2
  go_ret
  exact ⟨rfl, (Below.refl _ _).alloc (Nat.le_refl _) _⟩
end Go.Proofs.YtpjmcpfmnlfmdaaGreat

namespace Go.Proofs.YtpjmcpfmnlfmdaaGreat
set_option linter.unusedSimpArgs false
set_option linter.unusedVariables false
open Go.RowKit

def strC (s : ByteArray) : List Value := [.string s]
theorem strC_len (s : ByteArray) : (strC s).length = 1 := rfl
def mk_ss (q k : Nat) : Value := .string (mkT k)
theorem mk_ss_s {q k : Nat} {z : Int} (hz : z.toNat = k) : Value.string (mkT z.toNat) = mk_ss q k := by unfold mk_ss; rw [hz]
set_option maxRecDepth 100000 in
set_option maxHeartbeats 1000000 in
theorem mark_ss (B g n cap k0 : Nat) (w : World) (hk : 0 < k0) (hk1 : k0 ≤ 1000000) (hn : n ≤ 2000000) (h : MRow mk_ss k0 w B 9 1 g n cap w 0) :
    Calls Tryz.prog 37 #[.slice (some ⟨g, 0, none⟩) n cap, .int .i64 (k0 : Int)] w fun e w' => e = .returned (.int .i64 ((k0 : Int) + n)) ∧ MRow mk_ss k0 w B 9 1 g n cap w' n := by
  have HH := Lib.hid h
  clear h
  go_enter Tryz.func37, Tryz.ntmps37
  go_wp2
  go_loopw [1, 5] (fun kq iq wr => ∃ (i : Nat) (z : Int), i ≤ n ∧ iq = .int .i64 i ∧ kq = .int .i64 z ∧ z = (k0 : Int) + i ∧ MRow mk_ss k0 w B 9 1 g n cap wr i) (fun _ i _ => n - (intOf i).toNat)
  case atStart => exact ⟨0, _, Nat.zero_le _, rfl, rfl, by simp, HH.out⟩
  case round =>
    obtain ⟨i, z, hi, rfl, rfl, hz, hM⟩ := hrel
    have hz0 : 0 < z := by omega
    have hz1 : z ≤ 100000000 := by omega
    have HZ := Lib.hid hz
    have HM := Lib.hid hM
    clear hz hM
    by_cases hlt : i < n
    · clear hk hk1
      go_wp2_with (first
        | (go_at_call 63; go_fit (mark_textI _ _ (by omega) (by omega)); rintro e w0 ⟨rfl, hb0⟩; have HM0 := Lib.hid ((HM.out).on hb0); clear hb0; obtain ⟨⟨u0, c0⟩, f0⟩ := HM0.out.there (q := i) (by omega)))
      go_roundw
      case rel => exact ⟨i + 1, _, by omega, by go_num, rfl, by have := HZ.out; omega, HM0.out.put (by omega) (mk_ss_s (by have := HZ.out; omega))⟩
      case measure => simp [intOf]; omega
    · obtain rfl : i = n := by omega
      go_wp2
      go_ret
      exact ⟨ret_int HZ.out, HM.out⟩
theorem mark_ss_0 (p : Option Addr) (cap k0 : Nat) (w : World) (hk1 : k0 ≤ 1000000) :
    Calls Tryz.prog 37 #[.slice p 0 cap, .int .i64 (k0 : Int)] w fun e w' => e = .returned (.int .i64 (k0 : Int)) ∧ w = w' := by
  go_enter Tryz.func37, Tryz.ntmps37
  go_wp2
  go_loopw [1, 5] (fun kq iq wr => kq = .int .i64 (k0 : Int) ∧ iq = .int .i64 0 ∧ w = wr) (fun _ _ _ => 0)
  case atStart => exact ⟨rfl, rfl, rfl⟩
  case round =>
    obtain ⟨rfl, rfl, rfl⟩ := hrel
    go_wp2
    go_ret
    exact ⟨rfl, rfl⟩
theorem held_ss_0 (p : Option Addr) (cap k0 : Nat) (w : World) (hk1 : k0 ≤ 1000000) :
    Calls Tryz.prog 39 #[.slice p 0 cap, .int .i64 (k0 : Int)] w fun e w' => e = .returned (.int .i64 (k0 : Int)) ∧ w = w' := by
  go_enter Tryz.func39, Tryz.ntmps39
  go_wp2
  go_loopw [1, 5] (fun kq iq wr => kq = .int .i64 (k0 : Int) ∧ iq = .int .i64 0 ∧ w = wr) (fun _ _ _ => 0)
  case atStart => exact ⟨rfl, rfl, rfl⟩
  case round =>
    obtain ⟨rfl, rfl, rfl⟩ := hrel
    go_wp2
    go_ret
    exact ⟨rfl, rfl⟩
abbrev Held_ss (g i : Nat) (z : Int) (wr W : World) : Prop := (W.cell? ⟨g, i, none⟩ = some (.string (mkT (z).toNat))) ∧ (Below wr.heap.size wr W ∧ g < wr.heap.size)
theorem held_ss_on {g i : Nat} {z : Int} {wr W W2 : World} (h : Held_ss g i z wr W) (hb : Below W.heap.size W W2) : Held_ss g i z wr W2 := by
  obtain ⟨c0, h1, h2⟩ := h
  have hg : g < W.heap.size := Nat.lt_of_lt_of_le h2 h1.size
  exact ⟨(hb.cell (p := ⟨g, i, none⟩) hg).trans c0, h1.trans (hb.mono h1.size), h2⟩
theorem held_ss_drew {g i : Nat} {z : Int} {wr W : World} (h : Held_ss g i z wr W) : Held_ss g i z wr W.drew := held_ss_on h (Below.refl _ _).drew
theorem held_ss_of {k0 B g n cap m i : Nat} {z : Int} {w wr : World} (h : MRow mk_ss k0 w B 9 1 g n cap wr m) (hi : i < n) (hm : i + 1 ≤ m) (hz : z = (k0 : Int) + i) : Held_ss g i z wr wr :=
  ⟨(h.cell (by omega) (by omega)).trans (congrArg some (mk_ss_s (by omega)).symm), Below.refl _ _, h.lt.2⟩
set_option maxRecDepth 100000 in
set_option maxHeartbeats 2000000 in
theorem heldr_ss (B g n cap k0 m : Nat) (w0 w : World) (hk : 0 < k0) (hk1 : k0 ≤ 1000000) (hn : n ≤ 2000000) (h : MRow mk_ss k0 w0 B 9 1 g n cap w m) (hm : m = n) :
    Calls Tryz.prog 39 #[.slice (some ⟨g, 0, none⟩) n cap, .int .i64 (k0 : Int)] w fun e w' => e = .returned (.int .i64 ((k0 : Int) + n)) ∧ Below w.heap.size w w' := by
  have HH := Lib.hid h
  clear h
  go_enter Tryz.func39, Tryz.ntmps39
  go_wp2
  go_loopw [1, 5] (fun kq iq wr => ∃ (i : Nat) (z : Int), i ≤ n ∧ iq = .int .i64 i ∧ kq = .int .i64 z ∧ z = (k0 : Int) + i ∧ Below w.heap.size w wr) (fun _ i _ => n - (intOf i).toNat)
  case atStart => exact ⟨0, _, Nat.zero_le _, rfl, rfl, by simp, Below.refl _ _⟩
  case round =>
    obtain ⟨i, z, hi, rfl, rfl, hz, hb⟩ := hrel
    have hz0 : 0 < z := by omega
    have hz1 : z ≤ 100000000 := by omega
    have HZ := Lib.hid hz
    have HB := Lib.hid hb
    by_cases hlt : i < n
    · have hS := held_ss_of (HH.out.on hb) hlt (by omega) hz
      have HS := Lib.hid hS
      obtain ⟨c0, _, _⟩ := hS
      clear hz hb hk hk1 hm
      go_wp2
      go_region_held3 (fun W => (W.cell? ⟨g, i, none⟩ = some (.string (mkT (z).toNat))) ∧ (Below wr.heap.size wr W ∧ g < wr.heap.size))
        (with_reducible first | assumption | exact held_ss_drew HS.out | exact held_ss_on (by assumption) hbN)
        (first | (go_at_call 63; go_fit (mark_textI _ _ (by omega) (by omega)); rintro e wn0 ⟨rfl, hbN⟩; have HS0 := Lib.hid (held_ss_on (z := z) (i := i) (wr := wr) (by assumption) hbN)))
      go_wp2
      go_roundw
      case rel => exact ⟨i + 1, _, by omega, by go_num, rfl, by have := HZ.out; omega, HB.out.trans (HS0.out.2.1.mono HB.out.size)⟩
      case measure => simp [intOf]; omega
    · obtain rfl : i = n := by omega
      go_wp2
      go_ret
      exact ⟨ret_int HZ.out, HB.out⟩
/-- Marking a slice that the call has made. -/
theorem marks_ss (B k0 : Nat) (v : Value) (xs : List ByteArray) (w : World) (hk : 0 < k0) (hk1 : k0 ≤ 1000000) (hn : xs.length ≤ 2000000) (hB : B ≤ w.heap.size) (h : OwnC strC w B 9 1 v xs) :
    Calls Tryz.prog 37 #[v, .int .i64 (k0 : Int)] w fun e w' => e = .returned (.int .i64 ((k0 : Int) + xs.length)) ∧ MOwn mk_ss k0 B 9 1 v xs.length w' ∧ MFrame B v w w' := by
  obtain ⟨n, hxn⟩ : ∃ n, xs.length = n := ⟨_, rfl⟩
  rcases Nat.eq_zero_or_pos n with h0 | h0
  · subst h0
    have hv : ∃ p cap, v = .slice p 0 cap := by
      rcases h.2 with ⟨e1, _⟩ | ⟨g, cap, cur, e1, _⟩
      · exact ⟨none, 0, e1⟩
      · exact ⟨_, cap, by rw [e1, hxn]⟩
    obtain ⟨p, cap, rfl⟩ := hv
    rw [hxn]
    refine (mark_ss_0 p cap k0 w hk1).mono ?_
    rintro e w' ⟨rfl, rfl⟩
    exact ⟨by simp, ⟨p, cap, rfl, .inl rfl⟩, Below.refl _ _, Nat.le_refl _, fun _ _ _ => rfl⟩
  · obtain ⟨g, cap, rfl⟩ := Joins.ownsRow_form h (by omega)
    rw [hxn] at h hn ⊢
    refine (mark_ss B g n cap k0 w hk hk1 hn (mrow_of h hB)).mono ?_
    rintro e w' ⟨rfl, hM⟩
    exact ⟨rfl, ⟨_, cap, rfl, .inr ⟨g, w, rfl, by rw [Nat.mul_one]; exact hM⟩⟩, hM.2.1, hM.2.2.2.1, fun k hk hne => hM.2.2.2.2 k hk (hne g rfl)⟩
theorem helds_ss (B k0 n : Nat) (v : Value) (w : World) (hk : 0 < k0) (hk1 : k0 ≤ 1000000) (hn : n ≤ 2000000) (h : MOwn mk_ss k0 B 9 1 v n w) :
    Calls Tryz.prog 39 #[v, .int .i64 (k0 : Int)] w fun e w' => e = .returned (.int .i64 ((k0 : Int) + n)) ∧ Below w.heap.size w w' := by
  obtain ⟨p, cap, rfl, h1⟩ := h
  rcases h1 with rfl | ⟨g, w0, rfl, hM⟩
  · refine (held_ss_0 p cap k0 w hk1).mono ?_
    rintro e w' ⟨rfl, rfl⟩
    exact ⟨by simp, Below.refl _ _⟩
  · exact heldr_ss B g n cap k0 _ w0 w hk hk1 hn hM (by omega)
set_option maxRecDepth 100000 in
set_option maxHeartbeats 2000000 in
theorem eqs_ss (xs : List ByteArray) (p q : Option Addr) (c d : Nat) (w : World) (hn : xs.length ≤ 2000000) (hp : RowC strC 1 w p xs) (hq : RowC strC 1 w q xs) :
    Calls Tryz.prog 31 #[.slice p xs.length c, .slice q xs.length d] w fun e w' => e = .returned (.bool true) ∧ Below w.heap.size w w' := by
  obtain ⟨n, hxn⟩ : ∃ n, xs.length = n := ⟨_, rfl⟩
  have HP := Lib.hid (fun W (h : Below w.heap.size w W) => hp.on h)
  have HQ := Lib.hid (fun W (h : Below w.heap.size w W) => hq.on h)
  have HN := Lib.hid hxn
  rw [hxn] at hn ⊢
  clear hp hq hxn
  go_enter Tryz.func31, Tryz.ntmps31
  go_wp2
  go_loopw [5] (fun iq wr => ∃ i : Nat, i ≤ n ∧ iq = .int .i64 i ∧ Below w.heap.size w wr) (fun i _ => n - (intOf i).toNat)
  case atStart => exact ⟨0, Nat.zero_le _, rfl, Below.refl _ _⟩
  case round =>
    obtain ⟨i, hi, rfl, hb⟩ := hrel
    have HB := Lib.hid hb
    by_cases hlt : i < n
    · have hlt1 : i < xs.length := by rw [HN.out]; exact hlt
      obtain ⟨a, rfl, ha, hc⟩ := HP.out _ hb (List.ne_nil_of_length_pos (by omega))
      obtain ⟨b, rfl, hb0, hd⟩ := HQ.out _ hb (List.ne_nil_of_length_pos (by omega))
      have c0 := hc i hlt1 0 (by decide)
      have d0 := hd i hlt1 0 (by decide)
      obtain ⟨x, hx⟩ : ∃ x, xs[i] = x := ⟨_, rfl⟩
      rw [hx, Nat.mul_one, Nat.add_zero] at c0 d0
      replace c0 : wr.cell? ⟨a, i, none⟩ = some (.string x) := c0
      replace d0 : wr.cell? ⟨b, i, none⟩ = some (.string x) := d0
      clear hc hd hx hb
      go_wp2
      go_region
      all_goals (try go_wp2)
      exact ⟨⟨i + 1, by omega, by go_num, HB.out.drew⟩, by simp [intOf]; omega⟩
    · obtain rfl : i = n := by omega
      clear hb
      go_wp2
      go_ret
      exact ⟨rfl, HB.out⟩
end Go.Proofs.YtpjmcpfmnlfmdaaGreat

namespace Go.Proofs.YtpjmcpfmnlfmdaaGreat
set_option linter.unusedSimpArgs false
set_option linter.unusedVariables false
open Go.RowKit Go.Joins

/-- The greatest priority, or m. -/
def mxA (m : Int) : List SeL → Int
  | [] => m
  | x :: l => mxA (if m < x.p then x.p else m) l
theorem mx_eq (a b : Int) : max a b = if a < b then b else a := by split <;> omega
theorem mx_ge : ∀ (l : List SeL) (m : Int), m ≤ mxA m l
  | [], m => Int.le_refl _
  | x :: l, m => by
    have := mx_ge l (if m < x.p then x.p else m)
    show m ≤ mxA (if m < x.p then x.p else m) l
    split at this <;> rename_i h
    · rw [if_pos h]; omega
    · rw [if_neg h]; exact this
theorem mx_all : ∀ (l : List SeL) (m : Int), ∀ x ∈ l, x.p ≤ mxA m l
  | x :: l, m, y, hy => by
    show y.p ≤ mxA (if m < x.p then x.p else m) l
    rcases List.mem_cons.1 hy with rfl | hy
    · have := mx_ge l (if m < y.p then y.p else m)
      by_cases h : m < y.p
      · rw [if_pos h] at this ⊢; exact this
      · rw [if_neg h] at this ⊢; omega
    · exact mx_all l _ y hy
theorem mx_is : ∀ (l : List SeL) (m : Int), mxA m l = m ∨ ∃ x ∈ l, x.p = mxA m l
  | [], m => .inl rfl
  | x :: l, m => by
    show mxA (if m < x.p then x.p else m) l = m ∨ ∃ y ∈ x :: l, y.p = mxA (if m < x.p then x.p else m) l
    rcases mx_is l (if m < x.p then x.p else m) with h | ⟨y, hy, h⟩
    · by_cases hm : m < x.p
      · rw [if_pos hm] at h ⊢
        exact .inr ⟨x, List.mem_cons_self .., h.symm⟩
      · rw [if_neg hm] at h ⊢
        exact .inl h
    · exact .inr ⟨y, List.mem_cons_of_mem _ hy, h⟩
/-- The resources of the sessions that are on and have this priority. -/
def bestL (M : Int) (xs : List SeL) : List ByteArray := (xs.filter (fun x => x.o && x.p == M)).map (fun x => x.r)
noncomputable def bestR (xs : List SeL) : List ByteArray := if okB xs = true then bestL (mxA 0 xs) xs else []
theorem best_succ (M : Int) {xs : List SeL} {k : Nat} (hk : k < xs.length) : bestL M (xs.take (k + 1)) = if (xs[k].o && xs[k].p == M) = true then bestL M (xs.take k) ++ [xs[k].r] else bestL M (xs.take k) := by
  rw [List.take_succ_eq_append_getElem hk]
  unfold bestL
  rw [List.filter_append, List.map_append]
  cases h : (xs[k].o && xs[k].p == M)
  · simp [List.filter_cons, h]
  · simp [List.filter_cons, h]
theorem best_len (M : Int) (xs : List SeL) : (bestL M xs).length ≤ xs.length := by unfold bestL; rw [List.length_map]; exact List.length_filter_le _ _
theorem best_none {M : Int} {xs : List SeL} (h : ∀ x ∈ xs, x.o = true → x.p < M) : bestL M xs = [] := by
  unfold bestL
  rw [List.map_eq_nil_iff, List.filter_eq_nil_iff]
  intro x hx
  simp only [Bool.and_eq_true, beq_iff_eq, not_and]
  intro ho he
  have := h x hx ho
  omega
/-- A greatest priority of those that are on is that of all. -/
theorem mx_same {xs : List SeL} {m : Int} (hz : ∀ x ∈ xs, x.o = false → x.p = 0) (h0 : 0 ≤ m) (h1 : ∀ x ∈ xs, x.o = true → x.p ≤ m) (h2 : m = 0 ∨ ∃ x ∈ xs, x.p = m) : m = mxA 0 xs := by
  have g0 := mx_ge xs 0
  have g1 := mx_all xs 0
  have a : m ≤ mxA 0 xs := by
    rcases h2 with h | ⟨x, hx, h⟩
    · omega
    · have := g1 x hx; omega
  have b : mxA 0 xs ≤ m := by
    rcases mx_is xs 0 with h | ⟨x, hx, h⟩
    · omega
    · cases ho : x.o
      · have := hz x hx ho; omega
      · have := h1 x hx ho; omega
  omega
theorem off_zero {xs : List SeL} (h : okB xs = true) : ∀ x ∈ xs, x.o = false → x.p = 0 := by
  intro x hx ho
  obtain ⟨i, hi, rfl⟩ := List.mem_iff_getElem.1 hx
  have h2 := (okB_iff.1 h).2.2 i hi hi
  unfold seB at h2
  rw [ho] at h2
  simp only [Bool.false_or, Bool.and_eq_true, decide_eq_true_eq] at h2
  exact h2.1.1.1.1
theorem clo_best (x : SeL) (b : Nat) (M : Int) (w : World) (hc : w.cell? ⟨b, 0, none⟩ = some (.int .i64 M)) :
    Calls Tryz.prog 123 #[seV x, .pointer (some ⟨b, 0, none⟩)] w fun e w' => e = .returned (.bool (x.o && x.p == M)) ∧ Below w.heap.size w w' := by
  obtain ⟨r, o, p, s⟩ := x
  unfold seV
  have hlt : b < w.heap.size := block_lt_of_cell hc
  have hc2 : (w.alloc (.cells #[.string r, .bool o, .int .i64 p, .string s] 70)).cell? ⟨b, 0, none⟩ = some (.int .i64 M) := (((Below.refl w.heap.size w).alloc (Nat.le_refl _) _).cell (p := ⟨b, 0, none⟩) hlt).trans hc
  obtain ⟨bb, hbb⟩ : ∃ bb, (p == M) = bb := ⟨_, rfl⟩
  dsimp only
  rw [hbb]
  cases o
  · go_enter Tryz.func123, Tryz.ntmps123
    go_wp2
    go_ret
    exact ⟨rfl, (Below.refl _ _).alloc (Nat.le_refl _) _⟩
  · go_enter Tryz.func123, Tryz.ntmps123
    go_wp2
    go_ret
    exact ⟨rfl, (Below.refl _ _).alloc (Nat.le_refl _) _⟩
set_option maxRecDepth 100000 in
set_option maxHeartbeats 2000000 in
theorem impl_besttest (xs : List SeL) (p0 : Option Addr) (c : Nat) (w : World) (hn : xs.length ≤ 1048576) (hR : RowC seC 4 w p0 xs) :
    Calls Tryz.prog 110 #[.slice p0 xs.length c] w fun e w' => e = .returned (.func (.func 123) #[] #[.pointer (some ⟨w.heap.size, 0, none⟩)]) ∧ w'.cell? ⟨w.heap.size, 0, none⟩ = some (.int .i64 (mxA 0 xs)) ∧ Below w.heap.size w w' := by
  obtain ⟨n, hxn⟩ : ∃ n, xs.length = n := ⟨_, rfl⟩
  have HP := Lib.hid (fun W (h : Below w.heap.size w W) => hR.on h)
  have HN := Lib.hid hxn
  obtain ⟨Z, hZ⟩ : ∃ Z, mxA 0 xs = Z := ⟨_, rfl⟩
  have HZ0 : Hid (mxA 0 (xs.drop 0) = Z) := Lib.hid hZ
  rw [hxn] at hn ⊢
  rw [hZ]
  clear hR hxn hZ
  have HA0 : Hid (Arr (w.alloc (.cells #[.int .i64 0] 2)) w.heap.size 2 [.int .i64 0] ∧ Below w.heap.size w (w.alloc (.cells #[.int .i64 0] 2))) := Lib.hid ⟨Arr.fresh w _ [.int .i64 0], (Below.refl _ _).alloc (Nat.le_refl _) _⟩
  go_enter Tryz.func110, Tryz.ntmps110
  go_wp2
  go_loopw [7] (fun iq wr => ∃ (k : Nat) (m : Int), k ≤ n ∧ iq = .int .i64 k ∧ mxA m (xs.drop k) = Z ∧ Arr wr w.heap.size 2 [.int .i64 m] ∧ Below w.heap.size w wr) (fun i _ => n - (intOf i).toNat)
  case atStart => exact ⟨0, 0, Nat.zero_le _, rfl, HZ0.out, HA0.out.1, HA0.out.2⟩
  case round =>
    obtain ⟨k, m, hk, rfl, hz, hA, hb⟩ := hrel
    have HZ := Lib.hid hz
    have HA := Lib.hid hA
    have HB := Lib.hid hb
    clear hz hA
    by_cases hlt : k < n
    · have hlt1 : k < xs.length := by rw [HN.out]; exact hlt
      have hdr : xs.drop k = xs[k] :: xs.drop (k + 1) := List.drop_eq_getElem_cons hlt1
      obtain ⟨g, rfl, hg, a0, a1, a2, a3⟩ := row_se4 (HP.out _ hb) hlt1
      obtain ⟨x, hx⟩ : ∃ x, xs[k] = x := ⟨_, rfl⟩
      rw [hx] at a0 a1 a2 a3 hdr
      obtain ⟨m2, hm2⟩ : ∃ m2, (if m < x.p then x.p else m) = m2 := ⟨_, rfl⟩
      have HZ2 : Hid (mxA m2 (xs.drop (k + 1)) = Z) := Lib.hid (by have := HZ.out; rw [hdr] at this; rw [← hm2]; exact this)
      have HMX := Lib.hid hm2
      have q1 : (0 : Int) ≤ (k : Int) := by omega
      have q2 : (k : Int) < (n : Int) := by omega
      clear hb hx hdr
      go_wp2
      refine wp_region_held_drew (S := fun _ => True) (by kernel_rfl) trivial (fun hHeld => ?_)
      have HAd : Hid (Arr wr.drew w.heap.size 2 [.int .i64 m]) := Lib.hid HA.out
      have HBd : Hid (Below w.heap.size w wr.drew) := Lib.hid HB.out.drew
      replace a2 : wr.drew.cell? ⟨g, k * 4 + 2, none⟩ = some (.int .i64 x.p) := a2
      generalize wr.drew = Wd at hHeld HAd HBd a2 ⊢
      clear a0 a1 a3 HA HB
      have c0 : Wd.cell? ⟨w.heap.size, 0, none⟩ = some (.int .i64 m) := HAd.out.cell 0
      have f0 : Wd.frozen? ⟨w.heap.size, 0, none⟩ = false := HAd.out.free 0
      refine takeQ (i := 1) (k := 11) (v := .slice (some ⟨g, 0, none⟩) n c) rfl (by rfl) (by kernel_rfl) (by kernel_rfl) (by kernel_rfl) (fun _ _ _ h => h) (by rfl) ?_ hHeld ?_
      · intro w1 hSw; go_simp
      (try simp only [Act.put, List.setIfInBounds_toArray, List.set_cons_zero, List.set_cons_succ])
      refine takeQ (i := 2) (k := 12) (v := .int .i64 (k : Int)) rfl (by rfl) (by kernel_rfl) (by kernel_rfl) (by kernel_rfl) (fun _ _ _ h => h) (by rfl) ?_ hHeld ?_
      · intro w1 hSw; go_simp
      (try simp only [Act.put, List.setIfInBounds_toArray, List.set_cons_zero, List.set_cons_succ])
      refine takeQ (i := 3) (k := 13) (v := .pointer (some ⟨g, k * 4, none⟩)) rfl (by rfl) (by kernel_rfl) (by kernel_rfl) (by kernel_rfl) (fun _ _ _ h => h) (by rfl) ?_ hHeld ?_
      · intro w1 hSw; go_simp
      (try simp only [Act.put, List.setIfInBounds_toArray, List.set_cons_zero, List.set_cons_succ])
      refine takeQ (i := 4) (k := 14) (v := .pointer (some ⟨g, k * 4 + 2, none⟩)) rfl (by rfl) (by kernel_rfl) (by kernel_rfl) (by kernel_rfl) (fun _ _ _ h => h) (by rfl) ?_ hHeld ?_
      · intro w1 hSw; go_simp
      (try simp only [Act.put, List.setIfInBounds_toArray, List.set_cons_zero, List.set_cons_succ])
      refine wpAnyH_ready (rs := [0, 5]) (by kernel_rfl) (by simp) ?_
      refine AllReadyH.cons rfl (fun K hK => ?_) (AllReadyH.cons rfl (fun K hK => ?_) AllReadyH.nil)
      · rw [if_pos (by rfl)]
        go_simp
        refine hK.out _ _ trivial (fun hHeld => ?_)
        clear hK K
        (try simp only [Act.put, List.setIfInBounds_toArray, List.set_cons_zero, List.set_cons_succ])
        refine wpAnyH_ready (rs := [5]) (by kernel_rfl) (by simp) ?_
        refine AllReadyH.cons rfl (fun K hK => ?_) AllReadyH.nil
        rw [if_pos (by rfl)]
        go_simp
        refine hK.out _ _ trivial (fun hHeld => ?_)
        clear hK K
        (try simp only [Act.put, List.setIfInBounds_toArray, List.set_cons_zero, List.set_cons_succ])
        refine takeQ (i := 6) (k := 16) (v := .int .i64 m2) rfl (by rfl) (by kernel_rfl) (by kernel_rfl) (by kernel_rfl) (fun _ _ _ h => h) (by rfl) ?_ hHeld ?_
        · intro w1 hSw; go_simp; exact (mx_eq m x.p).trans HMX.out
        (try simp only [Act.put, List.setIfInBounds_toArray, List.set_cons_zero, List.set_cons_succ])
        refine wpAnyH_ready (rs := [7]) (by kernel_rfl) (by simp) ?_
        refine AllReadyH.cons rfl (fun K hK => ?_) AllReadyH.nil
        rw [if_pos (by rfl)]
        go_simp
        refine hK.out _ _ trivial (fun hHeld => ?_)
        clear hK K
        (try simp only [Act.put, List.setIfInBounds_toArray, List.set_cons_zero, List.set_cons_succ])
        refine wpAnyH_done (by kernel_rfl) ?_ _
        go_wp2
        go_roundw
        case rel => exact ⟨k + 1, m2, by omega, by go_num, HZ2.out, HAd.out.put 0 (.int .i64 m2), HBd.out.setCell (p := ⟨w.heap.size, 0, none⟩) (Nat.le_refl _) _⟩
        case measure => simp [intOf]; omega
      · rw [if_pos (by rfl)]
        go_simp
        refine hK.out _ _ trivial (fun hHeld => ?_)
        clear hK K
        (try simp only [Act.put, List.setIfInBounds_toArray, List.set_cons_zero, List.set_cons_succ])
        refine wpAnyH_ready (rs := [0]) (by kernel_rfl) (by simp) ?_
        refine AllReadyH.cons rfl (fun K hK => ?_) AllReadyH.nil
        rw [if_pos (by rfl)]
        go_simp
        refine hK.out _ _ trivial (fun hHeld => ?_)
        clear hK K
        (try simp only [Act.put, List.setIfInBounds_toArray, List.set_cons_zero, List.set_cons_succ])
        refine takeQ (i := 6) (k := 16) (v := .int .i64 m2) rfl (by rfl) (by kernel_rfl) (by kernel_rfl) (by kernel_rfl) (fun _ _ _ h => h) (by rfl) ?_ hHeld ?_
        · intro w1 hSw; go_simp; exact (mx_eq m x.p).trans HMX.out
        (try simp only [Act.put, List.setIfInBounds_toArray, List.set_cons_zero, List.set_cons_succ])
        refine wpAnyH_ready (rs := [7]) (by kernel_rfl) (by simp) ?_
        refine AllReadyH.cons rfl (fun K hK => ?_) AllReadyH.nil
        rw [if_pos (by rfl)]
        go_simp
        refine hK.out _ _ trivial (fun hHeld => ?_)
        clear hK K
        (try simp only [Act.put, List.setIfInBounds_toArray, List.set_cons_zero, List.set_cons_succ])
        refine wpAnyH_done (by kernel_rfl) ?_ _
        go_wp2
        go_roundw
        case rel => exact ⟨k + 1, m2, by omega, by go_num, HZ2.out, HAd.out.put 0 (.int .i64 m2), HBd.out.setCell (p := ⟨w.heap.size, 0, none⟩) (Nat.le_refl _) _⟩
        case measure => simp [intOf]; omega
    · have HF : Hid (m = Z) := Lib.hid (by have := HZ.out; rw [List.drop_eq_nil_of_le (by rw [HN.out]; omega)] at this; exact this)
      clear hb
      go_wp2
      go_ret
      exact ⟨rfl, (HA.out.cell 0).trans (by rw [HF.out]; rfl), HB.out⟩
end Go.Proofs.YtpjmcpfmnlfmdaaGreat

namespace Go.Proofs.YtpjmcpfmnlfmdaaGreat
set_option linter.unusedSimpArgs false
set_option linter.unusedVariables false
open Go.RowKit Go.Joins

theorem str_flat : ∀ ps : List ByteArray, ps.flatMap strC = ps.map Value.string
  | [] => rfl
  | p :: ps => by rw [List.flatMap_cons, List.map_cons, str_flat ps]; rfl
theorem ownT_C {w : World} {B : Nat} {v : Value} {ps : List ByteArray} (h : OwnT w B v ps) : OwnC strC w B 9 1 v ps := by
  unfold OwnC
  rw [str_flat]
  exact h
/-- A row of strings, in memory of the call's own. -/
def StIs (B : Nat) (ps : List ByteArray) (e : Ending) (W : World) : Prop := ∃ p k, e = .returned (.slice p ps.length k) ∧ OwnC strC W B 9 1 (.slice p ps.length k) ps
theorem wpList_app_str9 {ops : Array Oper} {rest : List Oper} {o : Oper} {a : Act} {w : World} {Q : Exit → Act → World → Prop} (hgd : o.guard = none) (s x : Operand)
    (ho : o.op = Op.call { callee := Callee.builtin Builtin.append, args := #[s, x], argTypes := #[34, 34] })
    (B : Nat) (v : Value) (ps : List ByteArray) (hs : a.eval s = v) (hown : OwnT w B v ps) (g : Nat) (y : ByteArray) (hx : a.eval x = .slice (some ⟨g, 0, none⟩) 1 1)
    (hc : w.cell? ⟨g, 0, none⟩ = some (.string y)) (hmax : ps.length ≤ 2000000) (hB : B ≤ w.heap.size)
    (h : ∀ v' w', OwnT w' B v' (ps ++ [y]) → w.grownBy w' v.ownBlock → (∀ k, v.ownBlock = some k → B ≤ k ∧ k < w.heap.size) → wpList Tryz.prog ops Q rest (a.put o.dst v') w') : wpList Tryz.prog ops Q (o :: rest) a w :=
  wpList_plain hgd fun K hK => wp_app_str9 s x ho B v ps hs hown g y hx hc hmax hB (fun v' w' h1 h2 h3 => hK _ _ (h v' w' h1 h2 h3))
theorem ownT_shape {w : World} {B : Nat} {v : Value} {ps : List ByteArray} (h : OwnT w B v ps) : ∃ p k, v = .slice p ps.length k := by
  rcases h.2 with ⟨h0, h1⟩ | ⟨g, cap, cur, h1, _⟩
  · exact ⟨none, 0, by rw [h0, h1]⟩
  · exact ⟨_, _, h1⟩
theorem own_ltT {α : Type} {enc : α → List Value} {w : World} {B e size : Nat} {v : Value} {xs : List α} (h : OwnC enc w B e size v xs) : ∀ k, v.ownBlock = some k → B ≤ k ∧ k < w.heap.size := World.ownsRow.lt h
theorem row_ownT {W : World} {B : Nat} {p : Option Addr} {k n : Nat} {xs : List ByteArray} (h : OwnC strC W B 9 1 (.slice p n k) xs) : RowC strC 1 W p xs := by
  obtain ⟨p', k', e, hR⟩ := h.row strC_len
  injection e with e1 e2 e3
  rw [e1]
  exact hR
/-- The resources of the sessions that pass a test. -/
def selL (f : SeL → Bool) (xs : List SeL) : List ByteArray := (xs.filter f).map (fun x => x.r)
theorem sel_succ (f : SeL → Bool) {xs : List SeL} {k : Nat} (hk : k < xs.length) : selL f (xs.take (k + 1)) = if f xs[k] = true then selL f (xs.take k) ++ [xs[k].r] else selL f (xs.take k) := by
  rw [List.take_succ_eq_append_getElem hk]
  unfold selL
  rw [List.filter_append, List.map_append]
  cases h : f xs[k]
  · simp [List.filter_cons, h]
  · simp [List.filter_cons, h]
theorem sel_len (f : SeL → Bool) (xs : List SeL) : (selL f xs).length ≤ xs.length := by unfold selL; rw [List.length_map]; exact List.length_filter_le _ _
theorem clo_bound (x : SeL) (b : Nat) (r : ByteArray) (w : World) (hc : w.cell? ⟨b, 0, none⟩ = some (.string r)) :
    Calls Tryz.prog 92 #[seV x, .pointer (some ⟨b, 0, none⟩)] w fun e w' => e = .returned (.bool (x.r.toList == r.toList)) ∧ Below w.heap.size w w' := by
  obtain ⟨q, o, p, s⟩ := x
  unfold seV
  have hlt : b < w.heap.size := block_lt_of_cell hc
  have hc2 : (w.alloc (.cells #[.string q, .bool o, .int .i64 p, .string s] 70)).cell? ⟨b, 0, none⟩ = some (.string r) := (((Below.refl w.heap.size w).alloc (Nat.le_refl _) _).cell (p := ⟨b, 0, none⟩) hlt).trans hc
  dsimp only
  go_enter Tryz.func92, Tryz.ntmps92
  go_wp2
  go_ret
  exact ⟨rfl, (Below.refl _ _).alloc (Nat.le_refl _) _⟩
theorem clo_named (x : SeL) (b : Nat) (r : ByteArray) (w : World) (hc : w.cell? ⟨b, 0, none⟩ = some (.string r)) :
    Calls Tryz.prog 90 #[seV x, .pointer (some ⟨b, 0, none⟩)] w fun e w' => e = .returned (.bool (x.o && (x.r.toList == r.toList))) ∧ Below w.heap.size w w' := by
  obtain ⟨q, o, p, s⟩ := x
  unfold seV
  have hlt : b < w.heap.size := block_lt_of_cell hc
  have hc2 : (w.alloc (.cells #[.string q, .bool o, .int .i64 p, .string s] 70)).cell? ⟨b, 0, none⟩ = some (.string r) := (((Below.refl w.heap.size w).alloc (Nat.le_refl _) _).cell (p := ⟨b, 0, none⟩) hlt).trans hc
  obtain ⟨bb, hbb⟩ : ∃ bb, (q.toList == r.toList) = bb := ⟨_, rfl⟩
  dsimp only
  rw [hbb]
  cases o
  · go_enter Tryz.func90, Tryz.ntmps90
    go_wp2
    go_ret
    exact ⟨rfl, (Below.refl _ _).alloc (Nat.le_refl _) _⟩
  · go_enter Tryz.func90, Tryz.ntmps90
    go_wp2
    go_ret
    exact ⟨rfl, (Below.refl _ _).alloc (Nat.le_refl _) _⟩
set_option maxRecDepth 100000 in
set_option maxHeartbeats 4000000 in
theorem resof_best (xs : List SeL) (p0 : Option Addr) (c : Nat) (w : World) (M : Int) (b0 : Nat) (hc : w.cell? ⟨b0, 0, none⟩ = some (.int .i64 M)) (hn : xs.length ≤ 1000000) (hw2 : ∀ x ∈ xs, x.r.size ≤ 1048576 ∧ x.s.size ≤ 1048576) (hR : RowC seC 4 w p0 xs) :
    Calls Tryz.prog 67 #[.slice p0 xs.length c, .func (.func 123) #[] #[.pointer (some ⟨b0, 0, none⟩)]] w fun e w' => StIs w.heap.size (selL (fun x => x.o && x.p == M) xs) e w' ∧ Below w.heap.size w w' := by
  obtain ⟨n, hxn⟩ : ∃ n, xs.length = n := ⟨_, rfl⟩
  have HP := Lib.hid (fun W (h : Below w.heap.size w W) => hR.on h)
  have HW := Lib.hid hw2
  have HN := Lib.hid hxn
  have HC := Lib.hid (fun W (h : Below w.heap.size w W) => (h.cell (p := ⟨b0, 0, none⟩) (block_lt_of_cell hc)).trans hc)
  clear hc
  rw [hxn] at hn ⊢
  clear hR hw2 hxn
  go_enter Tryz.func67, Tryz.ntmps67
  go_wp2
  go_loopw [5, 9] (fun vq iq wr => ∃ (k : Nat) (v : Value), k ≤ n ∧ iq = .int .i64 k ∧ vq = v ∧ OwnT wr w.heap.size v (selL (fun x => x.o && x.p == M) (xs.take k)) ∧ Below w.heap.size w wr) (fun _ i _ => n - (intOf i).toNat)
  case atStart => exact ⟨0, _, Nat.zero_le _, rfl, rfl, World.ownsRow_nil _ _ _ _, Below.refl _ _⟩
  case round =>
    obtain ⟨k, v, hk, rfl, hvv, hv, hb⟩ := hrel
    subst hvv
    have HV := Lib.hid hv
    have HB := Lib.hid hb
    clear hv
    by_cases hlt : k < n
    · have hlt1 : k < xs.length := by rw [HN.out]; exact hlt
      obtain ⟨g, rfl, hg, a0, a1, a2, a3⟩ := row_se4 (HP.out _ hb) hlt1
      have hxw := HW.out _ (List.getElem_mem hlt1)
      have hps := sel_succ (fun x => x.o && x.p == M) hlt1
      obtain ⟨x, hx⟩ : ∃ x, xs[k] = x := ⟨_, rfl⟩
      rw [hx] at a0 a1 a2 a3 hxw hps
      have i3 := fun W (hc : W.cell? ⟨b0, 0, none⟩ = some (.int .i64 M)) => clo_best x b0 M W hc
      unfold seV at i3
      have i4 := fun W b hb => joined_at9 x.r W (by omega) b hb
      (try dsimp only at hps)
      obtain ⟨b1, h1⟩ : ∃ b, (x.o && x.p == M) = b := ⟨_, rfl⟩
      rw [h1] at i3 hps
      have HPS := Lib.hid hps
      have HL : Hid ((selL (fun x => x.o && x.p == M) (xs.take k)).length ≤ 1000000) := Lib.hid (by have := sel_len (fun x => x.o && x.p == M) (xs.take k); rw [List.length_take] at this; omega)
      clear hb hx hps h1
      cases b1
      · rw [if_neg (by decide)] at HPS
        go_wp2_with (go_at_call 123; go_fit (i3 _ (HC.out _ HB.out)); rintro e w3 ⟨rfl, hb3⟩; have HB3 := Lib.hid (HB.out.trans (hb3.mono HB.out.size)); have HV3 := Lib.hid (own_on9 HV.out hb3); clear hb3)
        go_roundw
        case rel => exact ⟨k + 1, _, by omega, by go_num, rfl, by rw [HPS.out]; exact HV3.out, HB3.out⟩
        case measure => simp [intOf]; omega
      · rw [if_pos rfl] at HPS
        go_wp2_with (first
          | (go_at_call 123; go_fit (i3 _ (HC.out _ HB.out)); rintro e w3 ⟨rfl, hb3⟩; have c0 := (hb3.cell (p := ⟨g, k * 4, none⟩) hg).trans a0; have HB3 := Lib.hid (HB.out.trans (hb3.mono HB.out.size)); have HV3 := Lib.hid (own_on9 HV.out hb3); clear hb3)
          | (go_at_call 88; have _ := HV3; go_fit (i4 w3 w3.heap.size rfl); rintro e w4 ⟨rfl, hb4⟩; have HB4 := Lib.hid (HB3.out.trans (hb4.mono HB3.out.size)); have HV4 : Hid (OwnT (w4.alloc (.cells #[.string x.r] 9)) w.heap.size u5 (selL (fun x => x.o && x.p == M) (xs.take k))) := Lib.hid (World.ownsRow.alloc (own_on9 HV3.out hb4) _); clear hb4)
          | (at_builtin; have _ := HV4; refine wpList_app_str9 rfl _ _ rfl w.heap.size u5 (selL (fun x => x.o && x.p == M) (xs.take k)) rfl HV4.out w4.heap.size x.r rfl ((Arr.fresh w4 9 [.string x.r]).cell 0) (by have := HL.out; omega) (by have := HB4.out.size; rw [World.size_alloc]; omega) ?_; intro v5 w5 hv5 hg5 hin5; have HV5 := Lib.hid hv5; have HG5 := Lib.hid hg5; have HI5 := Lib.hid hin5; clear hv5 hg5 hin5))
        go_roundw
        case rel => exact ⟨k + 1, _, by omega, by go_num, rfl, by rw [HPS.out]; exact HV5.out, (HB4.out.alloc HB4.out.size _).grown HG5.out (HB4.out.alloc HB4.out.size _).size (fun q hq => (HI5.out q hq).1)⟩
        case measure => simp [intOf]; omega
    · have HT : Hid (selL (fun x => x.o && x.p == M) (xs.take k) = selL (fun x => x.o && x.p == M) xs) := Lib.hid (by rw [List.take_of_length_le (by rw [HN.out]; omega)])
      have HVE := HV.out
      rw [HT.out] at HVE
      have HS := ownT_shape HVE
      obtain ⟨q, kq, rfl⟩ := HS
      have HVE2 := Lib.hid (ownT_C HVE)
      clear hb HVE HV
      go_wp2
      go_ret
      exact ⟨⟨q, kq, rfl, HVE2.out⟩, HB.out⟩
set_option maxRecDepth 100000 in
set_option maxHeartbeats 4000000 in
theorem resof_bound (xs : List SeL) (p0 : Option Addr) (c : Nat) (w : World) (r : ByteArray) (b0 : Nat) (hc : w.cell? ⟨b0, 0, none⟩ = some (.string r)) (hn : xs.length ≤ 1000000) (hw2 : ∀ x ∈ xs, x.r.size ≤ 1048576 ∧ x.s.size ≤ 1048576) (hR : RowC seC 4 w p0 xs) :
    Calls Tryz.prog 67 #[.slice p0 xs.length c, .func (.func 92) #[] #[.pointer (some ⟨b0, 0, none⟩)]] w fun e w' => StIs w.heap.size (selL (fun x => x.r.toList == r.toList) xs) e w' ∧ Below w.heap.size w w' := by
  obtain ⟨n, hxn⟩ : ∃ n, xs.length = n := ⟨_, rfl⟩
  have HP := Lib.hid (fun W (h : Below w.heap.size w W) => hR.on h)
  have HW := Lib.hid hw2
  have HN := Lib.hid hxn
  have HC := Lib.hid (fun W (h : Below w.heap.size w W) => (h.cell (p := ⟨b0, 0, none⟩) (block_lt_of_cell hc)).trans hc)
  clear hc
  rw [hxn] at hn ⊢
  clear hR hw2 hxn
  go_enter Tryz.func67, Tryz.ntmps67
  go_wp2
  go_loopw [5, 9] (fun vq iq wr => ∃ (k : Nat) (v : Value), k ≤ n ∧ iq = .int .i64 k ∧ vq = v ∧ OwnT wr w.heap.size v (selL (fun x => x.r.toList == r.toList) (xs.take k)) ∧ Below w.heap.size w wr) (fun _ i _ => n - (intOf i).toNat)
  case atStart => exact ⟨0, _, Nat.zero_le _, rfl, rfl, World.ownsRow_nil _ _ _ _, Below.refl _ _⟩
  case round =>
    obtain ⟨k, v, hk, rfl, hvv, hv, hb⟩ := hrel
    subst hvv
    have HV := Lib.hid hv
    have HB := Lib.hid hb
    clear hv
    by_cases hlt : k < n
    · have hlt1 : k < xs.length := by rw [HN.out]; exact hlt
      obtain ⟨g, rfl, hg, a0, a1, a2, a3⟩ := row_se4 (HP.out _ hb) hlt1
      have hxw := HW.out _ (List.getElem_mem hlt1)
      have hps := sel_succ (fun x => x.r.toList == r.toList) hlt1
      obtain ⟨x, hx⟩ : ∃ x, xs[k] = x := ⟨_, rfl⟩
      rw [hx] at a0 a1 a2 a3 hxw hps
      have i3 := fun W (hc : W.cell? ⟨b0, 0, none⟩ = some (.string r)) => clo_bound x b0 r W hc
      unfold seV at i3
      have i4 := fun W b hb => joined_at9 x.r W (by omega) b hb
      (try dsimp only at hps)
      obtain ⟨b1, h1⟩ : ∃ b, (x.r.toList == r.toList) = b := ⟨_, rfl⟩
      rw [h1] at i3 hps
      have HPS := Lib.hid hps
      have HL : Hid ((selL (fun x => x.r.toList == r.toList) (xs.take k)).length ≤ 1000000) := Lib.hid (by have := sel_len (fun x => x.r.toList == r.toList) (xs.take k); rw [List.length_take] at this; omega)
      clear hb hx hps h1
      cases b1
      · rw [if_neg (by decide)] at HPS
        go_wp2_with (go_at_call 92; go_fit (i3 _ (HC.out _ HB.out)); rintro e w3 ⟨rfl, hb3⟩; have HB3 := Lib.hid (HB.out.trans (hb3.mono HB.out.size)); have HV3 := Lib.hid (own_on9 HV.out hb3); clear hb3)
        go_roundw
        case rel => exact ⟨k + 1, _, by omega, by go_num, rfl, by rw [HPS.out]; exact HV3.out, HB3.out⟩
        case measure => simp [intOf]; omega
      · rw [if_pos rfl] at HPS
        go_wp2_with (first
          | (go_at_call 92; go_fit (i3 _ (HC.out _ HB.out)); rintro e w3 ⟨rfl, hb3⟩; have c0 := (hb3.cell (p := ⟨g, k * 4, none⟩) hg).trans a0; have HB3 := Lib.hid (HB.out.trans (hb3.mono HB.out.size)); have HV3 := Lib.hid (own_on9 HV.out hb3); clear hb3)
          | (go_at_call 88; have _ := HV3; go_fit (i4 w3 w3.heap.size rfl); rintro e w4 ⟨rfl, hb4⟩; have HB4 := Lib.hid (HB3.out.trans (hb4.mono HB3.out.size)); have HV4 : Hid (OwnT (w4.alloc (.cells #[.string x.r] 9)) w.heap.size u5 (selL (fun x => x.r.toList == r.toList) (xs.take k))) := Lib.hid (World.ownsRow.alloc (own_on9 HV3.out hb4) _); clear hb4)
          | (at_builtin; have _ := HV4; refine wpList_app_str9 rfl _ _ rfl w.heap.size u5 (selL (fun x => x.r.toList == r.toList) (xs.take k)) rfl HV4.out w4.heap.size x.r rfl ((Arr.fresh w4 9 [.string x.r]).cell 0) (by have := HL.out; omega) (by have := HB4.out.size; rw [World.size_alloc]; omega) ?_; intro v5 w5 hv5 hg5 hin5; have HV5 := Lib.hid hv5; have HG5 := Lib.hid hg5; have HI5 := Lib.hid hin5; clear hv5 hg5 hin5))
        go_roundw
        case rel => exact ⟨k + 1, _, by omega, by go_num, rfl, by rw [HPS.out]; exact HV5.out, (HB4.out.alloc HB4.out.size _).grown HG5.out (HB4.out.alloc HB4.out.size _).size (fun q hq => (HI5.out q hq).1)⟩
        case measure => simp [intOf]; omega
    · have HT : Hid (selL (fun x => x.r.toList == r.toList) (xs.take k) = selL (fun x => x.r.toList == r.toList) xs) := Lib.hid (by rw [List.take_of_length_le (by rw [HN.out]; omega)])
      have HVE := HV.out
      rw [HT.out] at HVE
      have HS := ownT_shape HVE
      obtain ⟨q, kq, rfl⟩ := HS
      have HVE2 := Lib.hid (ownT_C HVE)
      clear hb HVE HV
      go_wp2
      go_ret
      exact ⟨⟨q, kq, rfl, HVE2.out⟩, HB.out⟩
set_option maxRecDepth 100000 in
set_option maxHeartbeats 4000000 in
theorem resof_named (xs : List SeL) (p0 : Option Addr) (c : Nat) (w : World) (r : ByteArray) (b0 : Nat) (hc : w.cell? ⟨b0, 0, none⟩ = some (.string r)) (hn : xs.length ≤ 1000000) (hw2 : ∀ x ∈ xs, x.r.size ≤ 1048576 ∧ x.s.size ≤ 1048576) (hR : RowC seC 4 w p0 xs) :
    Calls Tryz.prog 67 #[.slice p0 xs.length c, .func (.func 90) #[] #[.pointer (some ⟨b0, 0, none⟩)]] w fun e w' => StIs w.heap.size (selL (fun x => x.o && (x.r.toList == r.toList)) xs) e w' ∧ Below w.heap.size w w' := by
  obtain ⟨n, hxn⟩ : ∃ n, xs.length = n := ⟨_, rfl⟩
  have HP := Lib.hid (fun W (h : Below w.heap.size w W) => hR.on h)
  have HW := Lib.hid hw2
  have HN := Lib.hid hxn
  have HC := Lib.hid (fun W (h : Below w.heap.size w W) => (h.cell (p := ⟨b0, 0, none⟩) (block_lt_of_cell hc)).trans hc)
  clear hc
  rw [hxn] at hn ⊢
  clear hR hw2 hxn
  go_enter Tryz.func67, Tryz.ntmps67
  go_wp2
  go_loopw [5, 9] (fun vq iq wr => ∃ (k : Nat) (v : Value), k ≤ n ∧ iq = .int .i64 k ∧ vq = v ∧ OwnT wr w.heap.size v (selL (fun x => x.o && (x.r.toList == r.toList)) (xs.take k)) ∧ Below w.heap.size w wr) (fun _ i _ => n - (intOf i).toNat)
  case atStart => exact ⟨0, _, Nat.zero_le _, rfl, rfl, World.ownsRow_nil _ _ _ _, Below.refl _ _⟩
  case round =>
    obtain ⟨k, v, hk, rfl, hvv, hv, hb⟩ := hrel
    subst hvv
    have HV := Lib.hid hv
    have HB := Lib.hid hb
    clear hv
    by_cases hlt : k < n
    · have hlt1 : k < xs.length := by rw [HN.out]; exact hlt
      obtain ⟨g, rfl, hg, a0, a1, a2, a3⟩ := row_se4 (HP.out _ hb) hlt1
      have hxw := HW.out _ (List.getElem_mem hlt1)
      have hps := sel_succ (fun x => x.o && (x.r.toList == r.toList)) hlt1
      obtain ⟨x, hx⟩ : ∃ x, xs[k] = x := ⟨_, rfl⟩
      rw [hx] at a0 a1 a2 a3 hxw hps
      have i3 := fun W (hc : W.cell? ⟨b0, 0, none⟩ = some (.string r)) => clo_named x b0 r W hc
      unfold seV at i3
      have i4 := fun W b hb => joined_at9 x.r W (by omega) b hb
      (try dsimp only at hps)
      obtain ⟨b1, h1⟩ : ∃ b, (x.o && (x.r.toList == r.toList)) = b := ⟨_, rfl⟩
      rw [h1] at i3 hps
      have HPS := Lib.hid hps
      have HL : Hid ((selL (fun x => x.o && (x.r.toList == r.toList)) (xs.take k)).length ≤ 1000000) := Lib.hid (by have := sel_len (fun x => x.o && (x.r.toList == r.toList)) (xs.take k); rw [List.length_take] at this; omega)
      clear hb hx hps h1
      cases b1
      · rw [if_neg (by decide)] at HPS
        go_wp2_with (go_at_call 90; go_fit (i3 _ (HC.out _ HB.out)); rintro e w3 ⟨rfl, hb3⟩; have HB3 := Lib.hid (HB.out.trans (hb3.mono HB.out.size)); have HV3 := Lib.hid (own_on9 HV.out hb3); clear hb3)
        go_roundw
        case rel => exact ⟨k + 1, _, by omega, by go_num, rfl, by rw [HPS.out]; exact HV3.out, HB3.out⟩
        case measure => simp [intOf]; omega
      · rw [if_pos rfl] at HPS
        go_wp2_with (first
          | (go_at_call 90; go_fit (i3 _ (HC.out _ HB.out)); rintro e w3 ⟨rfl, hb3⟩; have c0 := (hb3.cell (p := ⟨g, k * 4, none⟩) hg).trans a0; have HB3 := Lib.hid (HB.out.trans (hb3.mono HB.out.size)); have HV3 := Lib.hid (own_on9 HV.out hb3); clear hb3)
          | (go_at_call 88; have _ := HV3; go_fit (i4 w3 w3.heap.size rfl); rintro e w4 ⟨rfl, hb4⟩; have HB4 := Lib.hid (HB3.out.trans (hb4.mono HB3.out.size)); have HV4 : Hid (OwnT (w4.alloc (.cells #[.string x.r] 9)) w.heap.size u5 (selL (fun x => x.o && (x.r.toList == r.toList)) (xs.take k))) := Lib.hid (World.ownsRow.alloc (own_on9 HV3.out hb4) _); clear hb4)
          | (at_builtin; have _ := HV4; refine wpList_app_str9 rfl _ _ rfl w.heap.size u5 (selL (fun x => x.o && (x.r.toList == r.toList)) (xs.take k)) rfl HV4.out w4.heap.size x.r rfl ((Arr.fresh w4 9 [.string x.r]).cell 0) (by have := HL.out; omega) (by have := HB4.out.size; rw [World.size_alloc]; omega) ?_; intro v5 w5 hv5 hg5 hin5; have HV5 := Lib.hid hv5; have HG5 := Lib.hid hg5; have HI5 := Lib.hid hin5; clear hv5 hg5 hin5))
        go_roundw
        case rel => exact ⟨k + 1, _, by omega, by go_num, rfl, by rw [HPS.out]; exact HV5.out, (HB4.out.alloc HB4.out.size _).grown HG5.out (HB4.out.alloc HB4.out.size _).size (fun q hq => (HI5.out q hq).1)⟩
        case measure => simp [intOf]; omega
    · have HT : Hid (selL (fun x => x.o && (x.r.toList == r.toList)) (xs.take k) = selL (fun x => x.o && (x.r.toList == r.toList)) xs) := Lib.hid (by rw [List.take_of_length_le (by rw [HN.out]; omega)])
      have HVE := HV.out
      rw [HT.out] at HVE
      have HS := ownT_shape HVE
      obtain ⟨q, kq, rfl⟩ := HS
      have HVE2 := Lib.hid (ownT_C HVE)
      clear hb HVE HV
      go_wp2
      go_ret
      exact ⟨⟨q, kq, rfl, HVE2.out⟩, HB.out⟩
set_option maxRecDepth 100000 in
set_option maxHeartbeats 4000000 in
theorem resof_on (xs : List SeL) (p0 : Option Addr) (c : Nat) (w : World)  (hn : xs.length ≤ 1000000) (hw2 : ∀ x ∈ xs, x.r.size ≤ 1048576 ∧ x.s.size ≤ 1048576) (hR : RowC seC 4 w p0 xs) :
    Calls Tryz.prog 67 #[.slice p0 xs.length c, .func (.func 68) #[] #[]] w fun e w' => StIs w.heap.size (selL (fun x => x.o) xs) e w' ∧ Below w.heap.size w w' := by
  obtain ⟨n, hxn⟩ : ∃ n, xs.length = n := ⟨_, rfl⟩
  have HP := Lib.hid (fun W (h : Below w.heap.size w W) => hR.on h)
  have HW := Lib.hid hw2
  have HN := Lib.hid hxn
  rw [hxn] at hn ⊢
  clear hR hw2 hxn
  go_enter Tryz.func67, Tryz.ntmps67
  go_wp2
  go_loopw [5, 9] (fun vq iq wr => ∃ (k : Nat) (v : Value), k ≤ n ∧ iq = .int .i64 k ∧ vq = v ∧ OwnT wr w.heap.size v (selL (fun x => x.o) (xs.take k)) ∧ Below w.heap.size w wr) (fun _ i _ => n - (intOf i).toNat)
  case atStart => exact ⟨0, _, Nat.zero_le _, rfl, rfl, World.ownsRow_nil _ _ _ _, Below.refl _ _⟩
  case round =>
    obtain ⟨k, v, hk, rfl, hvv, hv, hb⟩ := hrel
    subst hvv
    have HV := Lib.hid hv
    have HB := Lib.hid hb
    clear hv
    by_cases hlt : k < n
    · have hlt1 : k < xs.length := by rw [HN.out]; exact hlt
      obtain ⟨g, rfl, hg, a0, a1, a2, a3⟩ := row_se4 (HP.out _ hb) hlt1
      have hxw := HW.out _ (List.getElem_mem hlt1)
      have hps := sel_succ (fun x => x.o) hlt1
      obtain ⟨x, hx⟩ : ∃ x, xs[k] = x := ⟨_, rfl⟩
      rw [hx] at a0 a1 a2 a3 hxw hps
      have i3 := fun W => impl_ison x W
      unfold seV at i3
      have i4 := fun W b hb => joined_at9 x.r W (by omega) b hb
      (try dsimp only at hps)
      obtain ⟨b1, h1⟩ : ∃ b, (x.o) = b := ⟨_, rfl⟩
      rw [h1] at i3 hps a1
      have HPS := Lib.hid hps
      have HL : Hid ((selL (fun x => x.o) (xs.take k)).length ≤ 1000000) := Lib.hid (by have := sel_len (fun x => x.o) (xs.take k); rw [List.length_take] at this; omega)
      clear hb hx hps h1
      cases b1
      · rw [if_neg (by decide)] at HPS
        go_wp2_with (go_at_call 68; go_fit (i3 _); rintro e w3 ⟨rfl, hb3⟩; have HB3 := Lib.hid (HB.out.trans (hb3.mono HB.out.size)); have HV3 := Lib.hid (own_on9 HV.out hb3); clear hb3)
        go_roundw
        case rel => exact ⟨k + 1, _, by omega, by go_num, rfl, by rw [HPS.out]; exact HV3.out, HB3.out⟩
        case measure => simp [intOf]; omega
      · rw [if_pos rfl] at HPS
        go_wp2_with (first
          | (go_at_call 68; go_fit (i3 _); rintro e w3 ⟨rfl, hb3⟩; have c0 := (hb3.cell (p := ⟨g, k * 4, none⟩) hg).trans a0; have HB3 := Lib.hid (HB.out.trans (hb3.mono HB.out.size)); have HV3 := Lib.hid (own_on9 HV.out hb3); clear hb3)
          | (go_at_call 88; have _ := HV3; go_fit (i4 w3 w3.heap.size rfl); rintro e w4 ⟨rfl, hb4⟩; have HB4 := Lib.hid (HB3.out.trans (hb4.mono HB3.out.size)); have HV4 : Hid (OwnT (w4.alloc (.cells #[.string x.r] 9)) w.heap.size u5 (selL (fun x => x.o) (xs.take k))) := Lib.hid (World.ownsRow.alloc (own_on9 HV3.out hb4) _); clear hb4)
          | (at_builtin; have _ := HV4; refine wpList_app_str9 rfl _ _ rfl w.heap.size u5 (selL (fun x => x.o) (xs.take k)) rfl HV4.out w4.heap.size x.r rfl ((Arr.fresh w4 9 [.string x.r]).cell 0) (by have := HL.out; omega) (by have := HB4.out.size; rw [World.size_alloc]; omega) ?_; intro v5 w5 hv5 hg5 hin5; have HV5 := Lib.hid hv5; have HG5 := Lib.hid hg5; have HI5 := Lib.hid hin5; clear hv5 hg5 hin5))
        go_roundw
        case rel => exact ⟨k + 1, _, by omega, by go_num, rfl, by rw [HPS.out]; exact HV5.out, (HB4.out.alloc HB4.out.size _).grown HG5.out (HB4.out.alloc HB4.out.size _).size (fun q hq => (HI5.out q hq).1)⟩
        case measure => simp [intOf]; omega
    · have HT : Hid (selL (fun x => x.o) (xs.take k) = selL (fun x => x.o) xs) := Lib.hid (by rw [List.take_of_length_le (by rw [HN.out]; omega)])
      have HVE := HV.out
      rw [HT.out] at HVE
      have HS := ownT_shape HVE
      obtain ⟨q, kq, rfl⟩ := HS
      have HVE2 := Lib.hid (ownT_C HVE)
      clear hb HVE HV
      go_wp2
      go_ret
      exact ⟨⟨q, kq, rfl, HVE2.out⟩, HB.out⟩
end Go.Proofs.YtpjmcpfmnlfmdaaGreat

namespace Go.Proofs.YtpjmcpfmnlfmdaaGreat
set_option linter.unusedSimpArgs false
set_option linter.unusedVariables false
open Go.RowKit Go.Joins

set_option maxRecDepth 100000 in
set_option maxHeartbeats 4000000 in
theorem impl_best (xs : List SeL) (p0 : Option Addr) (c : Nat) (w : World) (hn : xs.length ≤ 1048576) (hw : ∀ x ∈ xs, x.r.size ≤ maxLen) (hw2 : ∀ x ∈ xs, x.r.size ≤ 1048576 ∧ x.s.size ≤ 1048576) (hR : RowC seC 4 w p0 xs) :
    Calls Tryz.prog 89 #[.slice p0 xs.length c] w fun e w' => StIs w.heap.size (bestR xs) e w' ∧ Below w.heap.size w w' := by
  have i1 := impl_seright xs p0 c w hn hw hR
  unfold bestR
  by_cases hk : okB xs = true
  rotate_left
  · rw [if_neg hk]
    rw [show okB xs = false by simpa using hk] at i1
    clear hk hw hw2 hR
    go_enter Tryz.func89, Tryz.ntmps89
    go_wp2_with (go_at_call 81; go_fit i1; rintro e w1 ⟨rfl, hb⟩)
    go_ret
    exact ⟨⟨none, 0, rfl, ownC_nil _ _ _ _ _⟩, hb⟩
  rw [if_pos hk]
  rw [hk] at i1
  have h5 := (okB_iff.1 hk).1
  have i2 := fun W h => impl_besttest xs p0 c W hn h
  obtain ⟨M, hM⟩ : ∃ M, mxA 0 xs = M := ⟨_, rfl⟩
  rw [hM] at i2 ⊢
  have i3 := fun W b0 hc hR => resof_best xs p0 c W M b0 hc (by omega) hw2 hR
  unfold StIs at i3
  have HP := Lib.hid (fun W (h : Below w.heap.size w W) => hR.on h)
  clear hM hk hR
  obtain ⟨n, hxn⟩ : ∃ n, xs.length = n := ⟨_, rfl⟩
  rw [hxn] at i1 i2 i3 hn h5 ⊢
  clear hw hw2 hxn
  go_enter Tryz.func89, Tryz.ntmps89
  go_wp2_with (first
    | (go_at_call 81; go_fit i1; rintro e w1 ⟨rfl, hb⟩; have HB1 := Lib.hid hb; clear hb)
    | (go_at_call 110; go_fit (i2 _ (HP.out _ HB1.out)); rintro e w2 ⟨rfl, hc2, hb⟩; have HB2 := Lib.hid (HB1.out.trans (hb.mono HB1.out.size)); have HC2 := Lib.hid hc2; clear hb hc2)
    | (go_at_call 67; go_fit (i3 _ _ HC2.out (HP.out _ HB2.out)); rintro e w3 ⟨⟨p3, k3, rfl, hv⟩, hb⟩; have HB3 := Lib.hid (HB2.out.trans (hb.mono HB2.out.size)); have HV3 := Lib.hid (hv.mono HB2.out.size); clear hb hv))
  go_ret
  exact ⟨⟨p3, k3, rfl, HV3.out⟩, HB3.out⟩
end Go.Proofs.YtpjmcpfmnlfmdaaGreat

namespace Go.Proofs.YtpjmcpfmnlfmdaaGreat
set_option linter.unusedSimpArgs false
set_option linter.unusedVariables false
open Go.RowKit Go.Joins

/-- What is known of the priority that is kept, behind k sessions. -/
def BInv (xs : List SeL) (k : Nat) (m : Int) : Prop := 0 ≤ m ∧ (∀ x ∈ xs.take k, x.o = true → x.p ≤ m) ∧ (m = 0 ∨ ∃ x ∈ xs.take k, x.p = m)
theorem mem_succ {xs : List SeL} {k : Nat} (hk : k < xs.length) {x : SeL} (h : x ∈ xs.take (k + 1)) : x ∈ xs.take k ∨ x = xs[k] := by
  rw [List.take_succ_eq_append_getElem hk] at h
  rcases List.mem_append.1 h with h | h
  · exact .inl h
  · exact .inr (List.mem_singleton.1 h)
theorem mem_keep {xs : List SeL} {k : Nat} (hk : k < xs.length) {x : SeL} (h : x ∈ xs.take k) : x ∈ xs.take (k + 1) := by
  rw [List.take_succ_eq_append_getElem hk]
  exact List.mem_append_left _ h
theorem mem_last {xs : List SeL} {k : Nat} (hk : k < xs.length) : xs[k] ∈ xs.take (k + 1) := by
  rw [List.take_succ_eq_append_getElem hk]
  exact List.mem_append_right _ (List.mem_singleton.2 rfl)
theorem binv_skip {xs : List SeL} {k : Nat} {m : Int} (hk : k < xs.length) (h : BInv xs k m) (hx : xs[k].o = true → xs[k].p < m) : BInv xs (k + 1) m ∧ bestL m (xs.take (k + 1)) = bestL m (xs.take k) := by
  obtain ⟨h0, h1, h2⟩ := h
  refine ⟨⟨h0, fun x hm ho => ?_, ?_⟩, ?_⟩
  · rcases mem_succ hk hm with h | rfl
    · exact h1 x h ho
    · have := hx ho; omega
  · rcases h2 with h | ⟨x, hm, h⟩
    · exact .inl h
    · exact .inr ⟨x, mem_keep hk hm, h⟩
  · rw [best_succ m hk, if_neg]
    intro hc
    simp only [Bool.and_eq_true, beq_iff_eq] at hc
    have := hx hc.1
    omega
theorem binv_take {xs : List SeL} {k : Nat} {m : Int} (hk : k < xs.length) (h : BInv xs k m) (ho : xs[k].o = true) (hp : m ≤ xs[k].p) : BInv xs (k + 1) xs[k].p ∧ bestL xs[k].p (xs.take (k + 1)) = (if m < xs[k].p then [] else bestL m (xs.take k)) ++ [xs[k].r] := by
  obtain ⟨h0, h1, h2⟩ := h
  refine ⟨⟨by omega, fun x hm hx => ?_, .inr ⟨_, mem_last hk, rfl⟩⟩, ?_⟩
  · rcases mem_succ hk hm with h | rfl
    · have := h1 x h hx; omega
    · exact Int.le_refl _
  · rw [best_succ _ hk, if_pos (by rw [ho]; simp)]
    split
    · rename_i hlt
      rw [best_none (fun x hm hx => by have := h1 x hm hx; omega)]
    · rename_i hlt
      have he : xs[k].p = m := by omega
      rw [he]
theorem binv_end {xs : List SeL} {m : Int} (hok : okB xs = true) (h : BInv xs xs.length m) : m = mxA 0 xs := by
  obtain ⟨h0, h1, h2⟩ := h
  rw [List.take_length] at h1 h2
  exact mx_same (off_zero hok) h0 h1 h2
theorem empty_str9 (w : World) (B : Nat) (hB : B ≤ w.heap.size) : OwnT (w.alloc (.cells #[] 9)) B (.slice (some ⟨w.heap.size, 0, none⟩) 0 0) [] :=
  ownsRow_le (World.ownsRow_lit w #[] 0 (Nat.le_refl _) (Nat.zero_le _) rfl) hB
set_option maxRecDepth 100000 in
set_option maxHeartbeats 4000000 in
theorem spec_l09best (xs : List SeL) (p0 : Option Addr) (c : Nat) (w : World) (hok : okB xs = true) (hR : RowC seC 4 w p0 xs) :
    Calls Tryz.prog 25 #[.slice p0 xs.length c] w fun e w' => StIs w.heap.size (bestR xs) e w' ∧ Below w.heap.size w w' := by
  unfold bestR
  rw [if_pos hok]
  have hn := (okB_iff.1 hok).1
  have HE := Lib.hid (fun m (h : BInv xs xs.length m) => binv_end hok h)
  obtain ⟨n, hxn⟩ : ∃ n, xs.length = n := ⟨_, rfl⟩
  have HP := Lib.hid (fun W (h : Below w.heap.size w W) => hR.on h)
  have HN := Lib.hid hxn
  rw [hxn] at hn HE ⊢
  clear hR hxn hok
  go_enter Tryz.func25, Tryz.ntmps25
  go_wp2
  go_loopw [3, 4, 5] (fun mq vq iq wr => ∃ (k : Nat) (m : Int) (v : Value), k ≤ n ∧ iq = .int .i64 k ∧ mq = .int .i64 m ∧ vq = v ∧ BInv xs k m ∧ OwnT wr w.heap.size v (bestL m (xs.take k)) ∧ Below w.heap.size w wr) (fun _ _ i _ => n - (intOf i).toNat)
  case atStart => exact ⟨0, 0, _, Nat.zero_le _, rfl, rfl, rfl, ⟨Int.le_refl _, fun x hx => by simp at hx, .inl rfl⟩, empty_str9 w _ (Nat.le_refl _), (Below.refl _ _).alloc (Nat.le_refl _) _⟩
  case round =>
    obtain ⟨k, m, v, hk, rfl, rfl, hvv, hI, hv, hb⟩ := hrel
    subst hvv
    have HV := Lib.hid hv
    have HB := Lib.hid hb
    have HI := Lib.hid hI
    clear hv hI
    by_cases hlt : k < n
    · have hlt1 : k < xs.length := by rw [HN.out]; exact hlt
      obtain ⟨g, rfl, hg, a0, a1, a2, a3⟩ := row_se4 (HP.out _ hb) hlt1
      have hsk := binv_skip hlt1 HI.out
      have htk := binv_take hlt1 HI.out
      obtain ⟨x, hx⟩ : ∃ x, xs[k] = x := ⟨_, rfl⟩
      rw [hx] at a0 a1 a2 a3 hsk htk
      have HL : Hid ((bestL m (xs.take k)).length ≤ 1000000) := Lib.hid (by have := best_len m (xs.take k); rw [List.length_take] at this; omega)
      clear hb hx
      obtain ⟨bo, hbo⟩ : ∃ b, x.o = b := ⟨_, rfl⟩
      rw [hbo] at a1 hsk htk
      obtain ⟨pr, hpr⟩ : ∃ b, x.p = b := ⟨_, rfl⟩
      rw [hpr] at a2 hsk htk
      clear hbo hpr
      cases bo
      · have HS := Lib.hid (hsk (by simp))
        clear hsk htk
        go_wp2
        go_roundw
        case rel => exact ⟨k + 1, m, _, by omega, by go_num, rfl, rfl, HS.out.1, by rw [HS.out.2]; exact HV.out, HB.out⟩
        case measure => simp [intOf]; omega
      · by_cases hq : pr < m
        · have HS := Lib.hid (hsk (fun _ => hq))
          clear hsk htk
          go_wp2
          go_roundw
          case rel => exact ⟨k + 1, m, _, by omega, by go_num, rfl, rfl, HS.out.1, by rw [HS.out.2]; exact HV.out, HB.out⟩
          case measure => simp [intOf]; omega
        · have HS := Lib.hid (htk rfl (by omega))
          clear hsk htk
          by_cases hq2 : m < pr
          · rw [if_pos hq2] at HS
            have HBa := Lib.hid (HB.out.alloc HB.out.size (.cells #[] 9))
            have HVa := Lib.hid (empty_str9 wr w.heap.size HB.out.size)
            have b0 := (((Below.refl wr.heap.size wr).alloc (Nat.le_refl _) (.cells #[] 9)).cell (p := ⟨g, k * 4, none⟩) hg).trans a0
            have b2 := (((Below.refl wr.heap.size wr).alloc (Nat.le_refl _) (.cells #[] 9)).cell (p := ⟨g, k * 4 + 2, none⟩) hg).trans a2
            go_wp2_with (first
              | (at_builtin; refine wpList_app_str9 rfl _ _ rfl w.heap.size _ [] rfl (World.ownsRow.alloc HVa.out _) (wr.heap.size + 1) x.r rfl (by have := (Arr.fresh (wr.alloc (.cells #[] 9)) 9 [.string x.r]).cell 0; rw [World.size_alloc] at this; exact this) (by simp) (by rw [World.size_alloc]; have := HBa.out.size; omega) ?_; intro v5 w5 hv5 hg5 hin5; have HV5 := Lib.hid hv5; have HB5 := Lib.hid ((HBa.out.alloc HBa.out.size _).grown hg5 (HBa.out.alloc HBa.out.size _).size (fun q hq => (hin5 q hq).1)); clear hv5 hg5 hin5))
            go_roundw
            case rel => exact ⟨k + 1, pr, _, by omega, by go_num, rfl, rfl, HS.out.1, by rw [HS.out.2]; exact HV5.out, HB5.out⟩
            case measure => simp [intOf]; omega
          · rw [if_neg hq2] at HS
            go_wp2_with (first
              | (at_builtin; refine wpList_app_str9 rfl _ _ rfl w.heap.size _ (bestL m (xs.take k)) rfl (HV.out.alloc _) wr.heap.size x.r rfl ((Arr.fresh wr 9 [.string x.r]).cell 0) (by have := HL.out; first | omega | simp) (by rw [World.size_alloc]; have := HB.out.size; omega) ?_; intro v5 w5 hv5 hg5 hin5; have HV5 := Lib.hid hv5; have HB5 := Lib.hid ((HB.out.alloc HB.out.size _).grown hg5 (HB.out.alloc HB.out.size _).size (fun q hq => (hin5 q hq).1)); clear hv5 hg5 hin5))
            go_roundw
            case rel => exact ⟨k + 1, pr, _, by omega, by go_num, rfl, rfl, HS.out.1, by rw [HS.out.2]; exact HV5.out, HB5.out⟩
            case measure => simp [intOf]; omega
    · obtain rfl : k = n := by omega
      have hm := HE.out m HI.out
      subst hm
      have HT : Hid (bestL (mxA 0 xs) (xs.take k) = bestL (mxA 0 xs) xs) := Lib.hid (by rw [List.take_of_length_le (by rw [HN.out]; omega)])
      have HVE := HV.out
      rw [HT.out] at HVE
      obtain ⟨q, kq, rfl⟩ := ownT_shape HVE
      have HVE2 := Lib.hid (ownT_C HVE)
      clear hb HVE HV
      go_wp2
      go_ret
      exact ⟨⟨q, kq, rfl, HVE2.out⟩, HB.out⟩
end Go.Proofs.YtpjmcpfmnlfmdaaGreat

namespace Go.Proofs.YtpjmcpfmnlfmdaaGreat
set_option linter.unusedSimpArgs false
set_option linter.unusedVariables false
open Go.RowKit Go.Joins

end Go.Proofs.YtpjmcpfmnlfmdaaGreat

namespace Go.Proofs.YtpjmcpfmnlfmdaaGreat
set_option linter.unusedSimpArgs false
set_option linter.unusedVariables false
open Go.RowKit Go.Joins

end Go.Proofs.YtpjmcpfmnlfmdaaGreat

namespace Go.Proofs.YtpjmcpfmnlfmdaaGreat
set_option linter.unusedSimpArgs false
set_option linter.unusedVariables false
open Go.RowKit Go.Joins

end Go.Proofs.YtpjmcpfmnlfmdaaGreat
