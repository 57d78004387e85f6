/- Several parts in one text: SeAny, SeBestM, SeSel, RwMsg, SeBest, SeBestS, SeLBest. -/
import Derived.Test.YtafdjjdmcnlddaaGreatHIB
import Derived.Deep.RegionHeld3
import Derived.Deep.DeepFit
import Derived.Lib.SmallJoins
namespace Go.Proofs.YtafdjjdmcnlddaaGreat
set_option linter.unusedSimpArgs false
set_option linter.unusedVariables false
open Go.RowKit

end Go.Proofs.YtafdjjdmcnlddaaGreat

namespace Go.Proofs.YtafdjjdmcnlddaaGreat
set_option linter.unusedSimpArgs false
set_option linter.unusedVariables false
open Go.RowKit Go.Joins

end Go.Proofs.YtafdjjdmcnlddaaGreat

namespace Go.Proofs.YtafdjjdmcnlddaaGreat
set_option linter.unusedSimpArgs false
set_option linter.unusedVariables false
open Go.RowKit Go.Joins

theorem str_flat : ∀ ps : List ByteArray, ps.flatMap strC = ps.map Value.string
  | [] => rfl
  | p :: ps => by rw [List.flatMap_cons, List.map_cons, str_flat ps]; rfl
theorem ownT_C {w : World} {B : Nat} {v : Value} {ps : List ByteArray} (h : OwnT w B v ps) : OwnC strC w B 9 1 v ps := by
  unfold OwnC
  rw [str_flat]
  exact h
/-- A row of strings, in memory of the call's own. -/
def StIs (B : Nat) (ps : List ByteArray) (e : Ending) (W : World) : Prop := ∃ p k, e = .returned (.slice p ps.length k) ∧ OwnC strC W B 9 1 (.slice p ps.length k) ps
theorem wpList_app_str9 {ops : Array Oper} {rest : List Oper} {o : Oper} {a : Act} {w : World} {Q : Exit → Act → World → Prop} (hgd : o.guard = none) (s x : Operand)
    (ho : o.op = Op.call { callee := Callee.builtin Builtin.append, args := #[s, x], argTypes := #[31, 31] })
    (B : Nat) (v : Value) (ps : List ByteArray) (hs : a.eval s = v) (hown : OwnT w B v ps) (g : Nat) (y : ByteArray) (hx : a.eval x = .slice (some ⟨g, 0, none⟩) 1 1)
    (hc : w.cell? ⟨g, 0, none⟩ = some (.string y)) (hmax : ps.length ≤ 2000000) (hB : B ≤ w.heap.size)
    (h : ∀ v' w', OwnT w' B v' (ps ++ [y]) → w.grownBy w' v.ownBlock → (∀ k, v.ownBlock = some k → B ≤ k ∧ k < w.heap.size) → wpList Tryz.prog ops Q rest (a.put o.dst v') w') : wpList Tryz.prog ops Q (o :: rest) a w :=
  wpList_plain hgd fun K hK => wp_app_str9 s x ho B v ps hs hown g y hx hc hmax hB (fun v' w' h1 h2 h3 => hK _ _ (h v' w' h1 h2 h3))
theorem ownT_shape {w : World} {B : Nat} {v : Value} {ps : List ByteArray} (h : OwnT w B v ps) : ∃ p k, v = .slice p ps.length k := by
  rcases h.2 with ⟨h0, h1⟩ | ⟨g, cap, cur, h1, _⟩
  · exact ⟨none, 0, by rw [h0, h1]⟩
  · exact ⟨_, _, h1⟩
theorem row_ownT {W : World} {B : Nat} {p : Option Addr} {k n : Nat} {xs : List ByteArray} (h : OwnC strC W B 9 1 (.slice p n k) xs) : RowC strC 1 W p xs := by
  obtain ⟨p', k', e, hR⟩ := h.row strC_len
  injection e with e1 e2 e3
  rw [e1]
  exact hR
/-- The resources of the sessions that pass a test. -/
def selL (f : SeL → Bool) (xs : List SeL) : List ByteArray := (xs.filter f).map (fun x => x.r)
theorem sel_succ (f : SeL → Bool) {xs : List SeL} {k : Nat} (hk : k < xs.length) : selL f (xs.take (k + 1)) = if f xs[k] = true then selL f (xs.take k) ++ [xs[k].r] else selL f (xs.take k) := by
  rw [List.take_succ_eq_append_getElem hk]
  unfold selL
  rw [List.filter_append, List.map_append]
  cases h : f xs[k]
  · simp [List.filter_cons, h]
  · simp [List.filter_cons, h]
theorem sel_len (f : SeL → Bool) (xs : List SeL) : (selL f xs).length ≤ xs.length := by unfold selL; rw [List.length_map]; exact List.length_filter_le _ _
theorem clo_bound (x : SeL) (b : Nat) (r : ByteArray) (w : World) (hc : w.cell? ⟨b, 0, none⟩ = some (.string r)) :
    Calls Tryz.prog 110 #[seV x, .pointer (some ⟨b, 0, none⟩)] w fun e w' => e = .returned (.bool (x.r.toList == r.toList)) ∧ Below w.heap.size w w' := by
  obtain ⟨q, o, p, s⟩ := x
  unfold seV
  have hlt : b < w.heap.size := block_lt_of_cell hc
  have hc2 : (w.alloc (.cells #[.string q, .bool o, .int .i64 p, .string s] 40)).cell? ⟨b, 0, none⟩ = some (.string r) := (((Below.refl w.heap.size w).alloc (Nat.le_refl _) _).cell (p := ⟨b, 0, none⟩) hlt).trans hc
  dsimp only
  go_enter Tryz.func110, Tryz.ntmps110
  go_wp2
  go_ret
  exact ⟨rfl, (Below.refl _ _).alloc (Nat.le_refl _) _⟩
set_option maxRecDepth 100000 in
set_option maxHeartbeats 4000000 in
theorem resof_bound (xs : List SeL) (p0 : Option Addr) (c : Nat) (w : World) (r : ByteArray) (b0 : Nat) (hc : w.cell? ⟨b0, 0, none⟩ = some (.string r)) (hn : xs.length ≤ 1000000) (hw2 : ∀ x ∈ xs, x.r.size ≤ 1048576 ∧ x.s.size ≤ 1048576) (hR : RowC seC 4 w p0 xs) :
    Calls Tryz.prog 86 #[.slice p0 xs.length c, .func (.func 110) #[] #[.pointer (some ⟨b0, 0, none⟩)]] w fun e w' => StIs w.heap.size (selL (fun x => x.r.toList == r.toList) xs) e w' ∧ Below w.heap.size w w' := by
  obtain ⟨n, hxn⟩ : ∃ n, xs.length = n := ⟨_, rfl⟩
  have HP := Lib.hid (fun W (h : Below w.heap.size w W) => hR.on h)
  have HW := Lib.hid hw2
  have HN := Lib.hid hxn
  have HC := Lib.hid (fun W (h : Below w.heap.size w W) => (h.cell (p := ⟨b0, 0, none⟩) (block_lt_of_cell hc)).trans hc)
  clear hc
  rw [hxn] at hn ⊢
  clear hR hw2 hxn
  go_enter Tryz.func86, Tryz.ntmps86
  go_wp2
  go_loopw [5, 9] (fun vq iq wr => ∃ (k : Nat) (v : Value), k ≤ n ∧ iq = .int .i64 k ∧ vq = v ∧ OwnT wr w.heap.size v (selL (fun x => x.r.toList == r.toList) (xs.take k)) ∧ Below w.heap.size w wr) (fun _ i _ => n - (intOf i).toNat)
  case atStart => exact ⟨0, _, Nat.zero_le _, rfl, rfl, World.ownsRow_nil _ _ _ _, Below.refl _ _⟩
  case round =>
    obtain ⟨k, v, hk, rfl, hvv, hv, hb⟩ := hrel
    subst hvv
    have HV := Lib.hid hv
    have HB := Lib.hid hb
    clear hv
    by_cases hlt : k < n
    · have hlt1 : k < xs.length := by rw [HN.out]; exact hlt
      obtain ⟨g, rfl, hg, a0, a1, a2, a3⟩ := row_se4 (HP.out _ hb) hlt1
      have hxw := HW.out _ (List.getElem_mem hlt1)
      have hps := sel_succ (fun x => x.r.toList == r.toList) hlt1
      obtain ⟨x, hx⟩ : ∃ x, xs[k] = x := ⟨_, rfl⟩
      rw [hx] at a0 a1 a2 a3 hxw hps
      have i3 := fun W (hc : W.cell? ⟨b0, 0, none⟩ = some (.string r)) => clo_bound x b0 r W hc
      unfold seV at i3
      have i4 := fun W b hb => joined_at9 x.r W (by omega) b hb
      (try dsimp only at hps)
      obtain ⟨b1, h1⟩ : ∃ b, (x.r.toList == r.toList) = b := ⟨_, rfl⟩
      rw [h1] at i3 hps
      have HPS := Lib.hid hps
      have HL : Hid ((selL (fun x => x.r.toList == r.toList) (xs.take k)).length ≤ 1000000) := Lib.hid (by have := sel_len (fun x => x.r.toList == r.toList) (xs.take k); rw [List.length_take] at this; omega)
      clear hb hx hps h1
      cases b1
      · rw [if_neg (by decide)] at HPS
        go_wp2_with (go_at_call 110; go_fit (i3 _ (HC.out _ HB.out)); rintro e w3 ⟨rfl, hb3⟩; have HB3 := Lib.hid (HB.out.trans (hb3.mono HB.out.size)); have HV3 := Lib.hid (own_on9 HV.out hb3); clear hb3)
        go_roundw
        case rel => exact ⟨k + 1, _, by omega, by go_num, rfl, by rw [HPS.out]; exact HV3.out, HB3.out⟩
        case measure => simp [intOf]; omega
      · rw [if_pos rfl] at HPS
        go_wp2_with (first
          | (go_at_call 110; go_fit (i3 _ (HC.out _ HB.out)); rintro e w3 ⟨rfl, hb3⟩; have c0 := (hb3.cell (p := ⟨g, k * 4, none⟩) hg).trans a0; have HB3 := Lib.hid (HB.out.trans (hb3.mono HB.out.size)); have HV3 := Lib.hid (own_on9 HV.out hb3); clear hb3)
          | (go_at_call 45; have _ := HV3; go_fit (i4 w3 w3.heap.size rfl); rintro e w4 ⟨rfl, hb4⟩; have HB4 := Lib.hid (HB3.out.trans (hb4.mono HB3.out.size)); have HV4 : Hid (OwnT (w4.alloc (.cells #[.string x.r] 9)) w.heap.size u5 (selL (fun x => x.r.toList == r.toList) (xs.take k))) := Lib.hid (World.ownsRow.alloc (own_on9 HV3.out hb4) _); clear hb4)
          | (at_builtin; have _ := HV4; refine wpList_app_str9 rfl _ _ rfl w.heap.size u5 (selL (fun x => x.r.toList == r.toList) (xs.take k)) rfl HV4.out w4.heap.size x.r rfl ((Arr.fresh w4 9 [.string x.r]).cell 0) (by have := HL.out; omega) (by have := HB4.out.size; rw [World.size_alloc]; omega) ?_; intro v5 w5 hv5 hg5 hin5; have HV5 := Lib.hid hv5; have HG5 := Lib.hid hg5; have HI5 := Lib.hid hin5; clear hv5 hg5 hin5))
        go_roundw
        case rel => exact ⟨k + 1, _, by omega, by go_num, rfl, by rw [HPS.out]; exact HV5.out, (HB4.out.alloc HB4.out.size _).grown HG5.out (HB4.out.alloc HB4.out.size _).size (fun q hq => (HI5.out q hq).1)⟩
        case measure => simp [intOf]; omega
    · have HT : Hid (selL (fun x => x.r.toList == r.toList) (xs.take k) = selL (fun x => x.r.toList == r.toList) xs) := Lib.hid (by rw [List.take_of_length_le (by rw [HN.out]; omega)])
      have HVE := HV.out
      rw [HT.out] at HVE
      have HS := ownT_shape HVE
      obtain ⟨q, kq, rfl⟩ := HS
      have HVE2 := Lib.hid (ownT_C HVE)
      clear hb HVE HV
      go_wp2
      go_ret
      exact ⟨⟨q, kq, rfl, HVE2.out⟩, HB.out⟩
end Go.Proofs.YtafdjjdmcnlddaaGreat

namespace Go.Proofs.YtafdjjdmcnlddaaGreat
set_option linter.unusedSimpArgs false
set_option linter.unusedVariables false
open Go.RowKit

def mk_ms (q k : Nat) : Value := if q % 6 = 4 then .int .i64 (k : Int) else .string (mkT k)
end Go.Proofs.YtafdjjdmcnlddaaGreat

namespace Go.Proofs.YtafdjjdmcnlddaaGreat
set_option linter.unusedSimpArgs false
set_option linter.unusedVariables false
open Go.RowKit Go.Joins

end Go.Proofs.YtafdjjdmcnlddaaGreat

namespace Go.Proofs.YtafdjjdmcnlddaaGreat
set_option linter.unusedSimpArgs false
set_option linter.unusedVariables false
open Go.RowKit Go.Joins

end Go.Proofs.YtafdjjdmcnlddaaGreat

namespace Go.Proofs.YtafdjjdmcnlddaaGreat
set_option linter.unusedSimpArgs false
set_option linter.unusedVariables false
open Go.RowKit Go.Joins

end Go.Proofs.YtafdjjdmcnlddaaGreat
