/- Several parts in one text: MbFrame, MbBits, MbDs, MbMath, MbRight, MbCopyS, MbCop, MbOut, MbOut2, MbLawB, MbDraw, MbSome, MbDrawR, MbCopy, MbCopyI, MbTo, MbTake, MbRouted, MbRouteI, MbBegin, MbOn, MbRouteS, MbIqM, MbLwR, MbFnI. -/
import Derived.Test.YtafdjjdmcnlddaaGreatHIB
import Derived.Test.YtafdjjdmcnlddaaGreatHII
import Derived.Test.YtafdjjdmcnlddaaGreatHIK
import Derived.BigQuiet
import Derived.Test.YtafdjjdmcnlddaaGreatHIC
import Derived.Test.YtafdjjdmcnlddaaGreatHIX
import Derived.Test.YtafdjjdmcnlddaaGreatHIS
namespace Go.Proofs.YtafdjjdmcnlddaaGreat
set_option linter.unusedSimpArgs false
set_option linter.unusedVariables false
open Go.ChangeShapes Go.WideShapes Go.ChangeAt Go.RowKit Go.Joins

/-- A slice of stanzas among the arguments. -/
def MsArg (W : World) (a : Option Addr) (len : Nat) (ps : List MsL) : Prop := ps.length = len ∧ len ≤ maxLen ∧ (∀ p ∈ ps, p.wf) ∧ RowA msC 6 W a ps
theorem MsArg.below {W W2 : World} {a : Option Addr} {len : Nat} {ps : List MsL} (h : MsArg W a len ps) (hb : Below W.heap.size W W2) : MsArg W2 a len ps := ⟨h.1, h.2.1, h.2.2.1, h.2.2.2.below hb⟩
theorem mapM_sixM {f : Nat → Option Value} {cs : List Value} (h : (List.range 6).mapM f = some cs) : ∃ c0 c1 c2 c3 c4 c5, cs = [c0, c1, c2, c3, c4, c5] ∧ f 0 = some c0 ∧ f 1 = some c1 ∧ f 2 = some c2 ∧ f 3 = some c3 ∧ f 4 = some c4 ∧ f 5 = some c5 := by
  rw [show List.range 6 = [0, 1, 2, 3, 4, 5] from rfl] at h
  simp only [List.mapM_cons, List.mapM_nil, Option.bind_eq_bind, Option.pure_def] at h
  cases h0 : f 0 with
  | none => rw [h0] at h; simp at h
  | some c0 =>
    cases h1 : f 1 with
    | none => rw [h0, h1] at h; simp at h
    | some c1 =>
      cases h2 : f 2 with
      | none => rw [h0, h1, h2] at h; simp at h
      | some c2 =>
        cases h3 : f 3 with
        | none => rw [h0, h1, h2, h3] at h; simp at h
        | some c3 =>
          cases h4 : f 4 with
          | none => rw [h0, h1, h2, h3, h4] at h; simp at h
          | some c4 =>
            cases h5 : f 5 with
            | none => rw [h0, h1, h2, h3, h4, h5] at h; simp at h
            | some c5 =>
              rw [h0, h1, h2, h3, h4, h5] at h
              simp at h
              exact ⟨c0, c1, c2, c3, c4, c5, h.symm, rfl, rfl, rfl, rfl, rfl, rfl⟩
theorem cells_sixM {W : World} {base : Nat} {a : Addr} {cs : List Value} (h : W.cells? base a 6 = some cs) : ∃ c0 c1 c2 c3 c4 c5, cs = [c0, c1, c2, c3, c4, c5] ∧ W.cell? (a.add 0) = some c0 ∧ W.cell? (a.add 1) = some c1 ∧ W.cell? (a.add 2) = some c2 ∧ W.cell? (a.add 3) = some c3 ∧ W.cell? (a.add 4) = some c4 ∧ W.cell? (a.add 5) = some c5 := by
  unfold World.cells? at h
  split at h
  · exact mapM_sixM h
  · cases h
def mbV (a : Option Addr) (len cap : Nat) (b : Option Addr) (lenb capb : Nat) : Value := .agg #[.slice a len cap, .slice b lenb capb]
/-- A mailbox among the arguments. -/
def MbArg (W : World) (a : Option Addr) (len : Nat) (ps : List SeL) (b : Option Addr) (lenb : Nat) (qs : List MsL) : Prop := SsArg W a len ps ∧ MsArg W b lenb qs
theorem MbArg.below {W W2 : World} {a b : Option Addr} {len lenb : Nat} {ps : List SeL} {qs : List MsL} (h : MbArg W a len ps b lenb qs) (hb : Below W.heap.size W W2) : MbArg W2 a len ps b lenb qs := ⟨h.1.below hb, h.2.below hb⟩
end Go.Proofs.YtafdjjdmcnlddaaGreat

namespace Go.Proofs.YtafdjjdmcnlddaaGreat
set_option linter.unusedSimpArgs false
set_option linter.unusedVariables false
open Go.RowKit Go.Joins

def SzS (xs : List SeL) : Prop := ∀ x ∈ xs, x.r.size ≤ 1048576 ∧ x.s.size ≤ 1048576
def SzM (ys : List MsL) : Prop := ∀ y ∈ ys, y.le 1048576
theorem own_lenM {w : World} {B e size n : Nat} {v : Value} {ys : List MsL} (h : OwnC msC w B e size v ys) (hn : ys.length = n) : ∃ p k, v = .slice p n k := by
  subst hn
  rcases h.2 with ⟨h0, h1⟩ | ⟨g, cap, cur, h1, _⟩
  · exact ⟨none, 0, by rw [h0, h1]⟩
  · exact ⟨_, _, h1⟩
theorem row_ownM {W : World} {B : Nat} {p : Option Addr} {k n : Nat} {ys : List MsL} (h : OwnC msC W B 28 6 (.slice p n k) ys) : RowC msC 6 W p ys := by
  obtain ⟨p', k', e, hR⟩ := h.row msC_len
  injection e with e1 e2 e3
  rw [e1]
  exact hR
theorem oneM {w w1 : World} {cs : List Value} {t : Nat} (h : Below (w.alloc (.cells cs.toArray t)).heap.size (w.alloc (.cells cs.toArray t)) w1) : Arr w1 w.heap.size t cs ∧ Below w.heap.size w w1 := ⟨arr9_on (Arr.fresh w t cs) h, below_one h⟩
end Go.Proofs.YtafdjjdmcnlddaaGreat

namespace Go.Proofs.YtafdjjdmcnlddaaGreat
set_option linter.unusedSimpArgs false
set_option linter.unusedVariables false
open Go.RowKit Go.Joins

set_option maxRecDepth 100000 in
set_option maxHeartbeats 2000000 in
theorem lw_ms (xs : List MsL) (p q : Option Addr) (c d : Nat) (w : World) (hn : xs.length ≤ 1000000) (hp : RowC msC 6 w p xs) (hq : RowC msC 6 w q xs) :
    Calls Tryz.prog 14 #[.slice p xs.length c, .slice q xs.length d] w fun e w' => e = .returned (.bool true) ∧ Below w.heap.size w w' := by
  obtain ⟨n, hxn⟩ : ∃ n, xs.length = n := ⟨_, rfl⟩
  have HP := Lib.hid hp
  have HQ := Lib.hid hq
  have HN := Lib.hid hxn
  rw [hxn] at hn ⊢
  clear hp hq hxn
  go_enter Tryz.func14, Tryz.ntmps14
  go_wp2
  go_loopw [5] (fun iq wr => ∃ i : Nat, i ≤ n ∧ iq = .int .i64 i ∧ Below w.heap.size w wr) (fun i _ => n - (intOf i).toNat)
  case atStart => exact ⟨0, Nat.zero_le _, rfl, Below.refl _ _⟩
  case round =>
    obtain ⟨i, hi, rfl, hb⟩ := hrel
    have HB := Lib.hid hb
    by_cases hlt : i < n
    · obtain ⟨a, rfl, ha, a0, a1, a2, a3, a4, a5⟩ := row_ms HP.out (i := i) (by rw [HN.out]; exact hlt)
      obtain ⟨b, rfl, hb0, b0, b1, b2, b3, b4, b5⟩ := row_ms HQ.out (i := i) (by rw [HN.out]; exact hlt)
      obtain ⟨x, hx⟩ : ∃ x, xs[i]'(by rw [HN.out]; exact hlt) = x := ⟨_, rfl⟩
      rw [hx] at a0 b0 a1 b1 a2 b2 a3 b3 a4 b4 a5 b5
      have HS : Hid (Both_ms a b i x wr wr) := Lib.hid ⟨⟨⟨(hb.cell (p := ⟨a, i * 6, none⟩) ha).trans a0, (hb.cell (p := ⟨a, i * 6 + 1, none⟩) ha).trans a1, (hb.cell (p := ⟨a, i * 6 + 2, none⟩) ha).trans a2, (hb.cell (p := ⟨a, i * 6 + 3, none⟩) ha).trans a3, (hb.cell (p := ⟨a, i * 6 + 4, none⟩) ha).trans a4, (hb.cell (p := ⟨a, i * 6 + 5, none⟩) ha).trans a5⟩, (hb.cell (p := ⟨b, i * 6, none⟩) hb0).trans b0, (hb.cell (p := ⟨b, i * 6 + 1, none⟩) hb0).trans b1, (hb.cell (p := ⟨b, i * 6 + 2, none⟩) hb0).trans b2, (hb.cell (p := ⟨b, i * 6 + 3, none⟩) hb0).trans b3, (hb.cell (p := ⟨b, i * 6 + 4, none⟩) hb0).trans b4, (hb.cell (p := ⟨b, i * 6 + 5, none⟩) hb0).trans b5⟩, Below.refl _ _, Nat.lt_of_lt_of_le ha hb.size, Nat.lt_of_lt_of_le hb0 hb.size⟩
      clear hb a0 b0 a1 b1 a2 b2 a3 b3 a4 b4 a5 b5 hx ha hb0
      obtain ⟨⟨⟨c0, c1, c2, c3, c4, c5⟩, d0, d1, d2, d3, d4, d5⟩, _⟩ := HS.out
      go_wp2
      go_quiet (fail)
      go_wp2
      go_roundw
      case rel => exact ⟨i + 1, by omega, by go_num, below_drewN HB.out _⟩
      case measure => simp [intOf]; omega
    · obtain rfl : i = n := by omega
      go_wp2
      go_ret
      exact ⟨rfl, HB.out⟩

/-- Small stanzas. -/
def MsS (ys : List MsL) : Prop := ∀ y ∈ ys, (y.k.size ≤ 40 ∧ y.t.size ≤ 40 ∧ y.f.size ≤ 40 ∧ y.o.size ≤ 40 ∧ y.b.size ≤ 40) ∧ -1 ≤ y.n ∧ y.n ≤ 1000000001
theorem MsS.sz {ys : List MsL} (h : MsS ys) : SzM ys := fun y hy => by
  obtain ⟨⟨h1, h2, h3, h4, h5⟩, _⟩ := h y hy
  exact ⟨by omega, by omega, by omega, by omega, by omega⟩
theorem src_ms (B g : Nat) (w : World) (hS : Src w B g) :
    Calls Tryz.prog 54 #[.pointer (some ⟨g, 0, none⟩)] w fun e w' => ∃ s : MsL, e = .returned (.agg #[.string s.k, .string s.t, .string s.f, .string s.o, .int .i64 s.n, .string s.b]) ∧ MsS [s] ∧ Src w' B g ∧ w.grownBy w' (some g) := by
  refine (src_st B g w hS).mono ?_
  rintro e w1 ⟨_, rfl, ⟨k, t, f, o, n, b, rfl, h1, h2, h3⟩, hS1, hg1⟩
  exact ⟨⟨k, t, f, o, n, b⟩, rfl, fun y hy => by obtain rfl := List.mem_singleton.1 hy; exact ⟨h1, h2, h3⟩, hS1, hg1⟩
end Go.Proofs.YtafdjjdmcnlddaaGreat

namespace Go.Proofs.YtafdjjdmcnlddaaGreat
set_option linter.unusedSimpArgs false
set_option linter.unusedVariables false
open Go.RowKit Go.Joins

/-- Nothing. -/
def zMs : MsL := ⟨⟨#[]⟩, ⟨#[]⟩, ⟨#[]⟩, ⟨#[]⟩, 0, ⟨#[]⟩⟩
/-- A valid stanza. -/
noncomputable def msB (x : MsL) : Bool := stB x.k x.t x.f x.o x.n x.b
/-- A stanza that may be kept. -/
noncomputable def keepB (x : MsL) : Bool := (x.k.toList == kMess.toList) && msB x
/-- A valid mailbox. -/
noncomputable def mbB (xs : List SeL) (ks : List MsL) : Bool := okB xs && decide (ks.length ≤ 5) && ks.all keepB
noncomputable def repM (s : MsL) (kd bd : ByteArray) : MsL := if (msB s && stB s.k kd s.o s.f s.n bd) = true then ⟨s.k, kd, s.o, s.f, s.n, bd⟩ else zMs
noncomputable def fltM (s : MsL) (nm : ByteArray) : MsL := if ((s.t.toList == errS.toList) || !nameB nm) = true then zMs else repM s errS nm
theorem repV_M (s : MsL) (kd bd : ByteArray) : repV s.k s.t s.f s.o s.n s.b kd bd = msV (repM s kd bd) := by
  unfold repV repM msB
  split <;> rfl
theorem fltV_M (s : MsL) (nm : ByteArray) : fltV s.k s.t s.f s.o s.n s.b nm = msV (fltM s nm) := by
  unfold fltV fltM
  rw [repV_M]
  split <;> rfl
/-- What a route answers. -/
structure RoL where
  l : List SeL
  ks : List MsL
  to : List ByteArray
  bk : MsL
  c : Int
def illM (c : Int) : RoL := ⟨[], [], [], zMs, c⟩
/-- The parts of an address. -/
noncomputable def locA (s : ByteArray) : ByteArray := strOf (readL s.data.toList).1
noncomputable def resA (s : ByteArray) : ByteArray := strOf (readL s.data.toList).2.2
/-- An address with a Local. -/
noncomputable def adrB (s : ByteArray) : Bool := addrB s && decide (0 < (locA s).size)
/-- May the stanza be routed? -/
noncomputable def routB (k : ByteArray) (xs : List SeL) (ks : List MsL) (s : MsL) : Bool := mbB xs ks && msB s && (s.k.toList == k.toList) && adrB s.o
def boundL (r : ByteArray) (xs : List SeL) : List ByteArray := selL (fun x => x.r.toList == r.toList) xs
def unavS : ByteArray := ⟨#[117, 110, 97, 118, 97, 105, 108, 97, 98, 108, 101]⟩
def getS : ByteArray := ⟨#[103, 101, 116]⟩
def setS : ByteArray := ⟨#[115, 101, 116]⟩
/-- What is done with a stanza that may be routed: to whom it goes, and what is left where it goes to nobody: the stanza itself if it is kept, else an answer. -/
structure RtL where
  to : ByteArray → List SeL → List ByteArray
  rest : List MsL → MsL → MsL
open Classical in
noncomputable def withT (T : RtL) (xs : List SeL) (ks : List MsL) (s : MsL) : RoL :=
  if (T.to (resA s.o) xs).length ≠ 0 then ⟨xs, ks, T.to (resA s.o) xs, zMs, 0⟩
  else if T.rest ks s = s then ⟨xs, ks ++ [s], [], zMs, 0⟩ else ⟨xs, ks, [], T.rest ks s, 0⟩
noncomputable def routeR (k : ByteArray) (T : RtL) (xs : List SeL) (ks : List MsL) (s : MsL) : RoL := if routB k xs ks s = true then withT T xs ks s else illM 1
noncomputable def askT : RtL := ⟨boundL, fun _ s => fltM s unavS⟩
def tellT : RtL := ⟨boundL, fun _ _ => zMs⟩
noncomputable def iqT (t : ByteArray) : RtL := if (t.toList == getS.toList) || (t.toList == setS.toList) then askT else tellT
noncomputable def iqR (xs : List SeL) (ks : List MsL) (s : MsL) : RoL := routeR kIq (iqT s.t) xs ks s
/-- The cells of an answer. -/
def roV (R : RoL) (p1 : Option Addr) (k1 : Nat) (p2 : Option Addr) (k2 : Nat) (p3 : Option Addr) (k3 : Nat) : Value :=
  .agg #[.slice p1 R.l.length k1, .slice p2 R.ks.length k2, .slice p3 R.to.length k3, .string R.bk.k, .string R.bk.t, .string R.bk.f, .string R.bk.o, .int .i64 R.bk.n, .string R.bk.b, .int .i64 R.c]
/-- An answer in memory of its own. -/
def RoIs (B : Nat) (R : RoL) (e : Ending) (W : World) : Prop := ∃ p1 k1 p2 k2 p3 k3, e = .returned (roV R p1 k1 p2 k2 p3 k3) ∧ OwnC seC W B 40 4 (.slice p1 R.l.length k1) R.l ∧ OwnC msC W B 28 6 (.slice p2 R.ks.length k2) R.ks ∧ OwnC strC W B 9 1 (.slice p3 R.to.length k3) R.to
theorem ro_ill (B : Nat) (c : Int) (W : World) : RoIs B (illM c) (.returned (.agg #[.slice none 0 0, .slice none 0 0, .slice none 0 0, .string ⟨#[]⟩, .string ⟨#[]⟩, .string ⟨#[]⟩, .string ⟨#[]⟩, .int .i64 0, .string ⟨#[]⟩, .int .i64 c])) W :=
  ⟨none, 0, none, 0, none, 0, rfl, ownC_nil _ _ _ _ _, ownC_nil _ _ _ _ _, ownC_nil _ _ _ _ _⟩
end Go.Proofs.YtafdjjdmcnlddaaGreat

namespace Go.Proofs.YtafdjjdmcnlddaaGreat
set_option linter.unusedSimpArgs false
set_option linter.unusedVariables false
open Go.RowKit Go.Joins

def roC (R : RoL) (p1 : Option Addr) (k1 : Nat) (p2 : Option Addr) (k2 : Nat) (p3 : Option Addr) (k3 : Nat) : List Value :=
  [.slice p1 R.l.length k1, .slice p2 R.ks.length k2, .slice p3 R.to.length k3, .string R.bk.k, .string R.bk.t, .string R.bk.f, .string R.bk.o, .int .i64 R.bk.n, .string R.bk.b, .int .i64 R.c]
theorem mess_list : kMess.toList = [109, 101, 115, 115, 97, 103, 101] := by rw [ByteArray.toList_eq]; rfl
theorem keep_no {ys : List MsL} {k : Nat} (hk : k < ys.length) (h : keepB ys[k] = false) : ys.all keepB = false := by
  rw [List.all_eq_false]
  exact ⟨_, List.getElem_mem hk, by rw [h]; decide⟩
/-- The first k may be kept. -/
def KeepN (ys : List MsL) (k : Nat) : Prop := ∀ i (h : i < ys.length), i < k → keepB ys[i] = true
theorem keepN_all {ys : List MsL} {k : Nat} (h : KeepN ys k) (hk : ¬ k < ys.length) : ys.all keepB = true := by
  rw [List.all_eq_true]
  intro y hy
  obtain ⟨i, hi, rfl⟩ := List.mem_iff_getElem.1 hy
  exact h i hi (by omega)
theorem keepN_succ {ys : List MsL} {k : Nat} (h : KeepN ys k) (hk : k < ys.length) (h1 : keepB ys[k] = true) : KeepN ys (k + 1) := by
  intro i hi hlt
  by_cases e : i = k
  · subst e; exact h1
  · exact h i hi (by omega)
theorem mb_okNo {xs : List SeL} {ys : List MsL} (h : okB xs = false) : mbB xs ys = false := by unfold mbB; rw [h]; rfl
theorem mb_big {xs : List SeL} {ys : List MsL} (h : 5 < ys.length) : mbB xs ys = false := by unfold mbB; rw [decide_eq_false (by omega)]; simp
theorem mb_all {xs : List SeL} {ys : List MsL} (h : okB xs = true) (h2 : ys.length ≤ 5) : mbB xs ys = ys.all keepB := by unfold mbB; rw [h, decide_eq_true h2]; simp
theorem mb_parts {xs : List SeL} {ys : List MsL} (h : mbB xs ys = true) : okB xs = true ∧ ys.length ≤ 5 ∧ ∀ y ∈ ys, keepB y = true := by
  unfold mbB at h
  simp only [Bool.and_eq_true, decide_eq_true_eq, List.all_eq_true] at h
  exact ⟨h.1.1, h.1.2, h.2⟩
set_option maxRecDepth 100000 in
set_option maxHeartbeats 4000000 in
theorem impl_mbright (xs : List SeL) (ys : List MsL) (p1 p2 : Option Addr) (n1 n2 c1 c2 : Nat) (w : World) (hx : xs.length = n1) (hy : ys.length = n2) (hn1 : n1 ≤ 1048576) (hn2 : n2 ≤ 1048576) (hw : SzS xs) (hw2 : SzM ys) (hR1 : RowC seC 4 w p1 xs) (hR2 : RowC msC 6 w p2 ys) (hm : MaxL w) :
    Calls Tryz.prog 11 #[.agg #[.slice p1 n1 c1, .slice p2 n2 c2]] w fun e w' => e = .returned (.bool (mbB xs ys)) ∧ Below w.heap.size w w' := by
  have i1 := fun W hR => impl_seright xs p1 c1 W (by omega) (se_max hw) hR
  have HK := Lib.hid (fun w1 (h : Below (w.alloc (.cells #[.slice p1 n1 c1, .slice p2 n2 c2] 26)).heap.size (w.alloc (.cells #[.slice p1 n1 c1, .slice p2 n2 c2] 26)) w1) => oneM (cs := [.slice p1 n1 c1, .slice p2 n2 c2]) h)
  have HP1 := Lib.hid (hR1.on ((Below.refl w.heap.size w).alloc (Nat.le_refl _) (.cells #[.slice p1 n1 c1, .slice p2 n2 c2] 26)))
  have HP2 := Lib.hid (fun W (h : Below w.heap.size w W) => hR2.on h)
  have HM := Lib.hid (fun W (h : Below w.heap.size w W) => hm.below h hm.pos)
  have HW := Lib.hid hw2
  have HN := Lib.hid hy
  rw [hx] at i1
  cases hk : okB xs
  · rw [mb_okNo hk]
    rw [hk] at i1
    clear hk hw hw2 hR1 hR2 hm hx hy
    go_enter Tryz.func11, Tryz.ntmps11
    go_wp2_with (go_at_call 38; go_fit (i1 _ HP1.out); rintro e w1 ⟨rfl, hb1⟩; obtain ⟨hA, hb⟩ := HK.out _ hb1; obtain ⟨⟨c0, c1_⟩, _⟩ := arr9_two hA; have HB1 := Lib.hid hb; clear hA hb1 hb)
    go_ret
    exact ⟨rfl, HB1.out⟩
  rw [hk] at i1
  by_cases h5 : 5 < n2
  · rw [mb_big (by rw [hy]; exact h5)]
    clear hk hw hw2 hR1 hR2 hm hx hy
    go_enter Tryz.func11, Tryz.ntmps11
    go_wp2_with (go_at_call 38; go_fit (i1 _ HP1.out); rintro e w1 ⟨rfl, hb1⟩; obtain ⟨hA, hb⟩ := HK.out _ hb1; obtain ⟨⟨c0, c1_⟩, _⟩ := arr9_two hA; have HB1 := Lib.hid hb; clear hA hb1 hb)
    go_ret
    exact ⟨rfl, HB1.out⟩
  rw [mb_all hk (by rw [hy]; omega)]
  have HZ := Lib.hid (fun k hk h => keep_no (ys := ys) (k := k) hk h)
  have HZ2 := Lib.hid (fun k h hk => keepN_all (ys := ys) (k := k) h hk)
  obtain ⟨Z, hZ⟩ : ∃ Z, ys.all keepB = Z := ⟨_, rfl⟩
  rw [hZ] at HZ HZ2 ⊢
  clear hk hw hw2 hR1 hR2 hm hx hy hZ
  go_enter Tryz.func11, Tryz.ntmps11
  go_wp2_with (go_at_call 38; go_fit (i1 _ HP1.out); rintro e w1 ⟨rfl, hb1⟩; obtain ⟨hA, hb⟩ := HK.out _ hb1; obtain ⟨⟨c0, c1_⟩, _⟩ := arr9_two hA; have HB1 := Lib.hid hb; clear hA hb1 hb)
  go_loopw [18] (fun iq wr => ∃ k : Nat, k ≤ n2 ∧ iq = .int .i64 k ∧ KeepN ys k ∧ Below w.heap.size w wr) (fun i _ => n2 - (intOf i).toNat)
  case atStart => exact ⟨0, Nat.zero_le _, rfl, fun i _ h => absurd h (Nat.not_lt_zero _), HB1.out⟩
  case round =>
    obtain ⟨k, hk, rfl, hI, hb⟩ := hrel
    have HI := Lib.hid hI
    have HB := Lib.hid hb
    clear hI
    by_cases hlt : k < n2
    · have hlt1 : k < ys.length := by rw [HN.out]; exact hlt
      obtain ⟨g, rfl, hg, a0, a1, a2, a3, a4, a5⟩ := row_ms6 (HP2.out _ hb) hlt1
      have hyw := HW.out _ (List.getElem_mem hlt1)
      have hno := HZ.out k hlt1
      have hsc := keepN_succ HI.out hlt1
      obtain ⟨y, hy⟩ : ∃ y, ys[k] = y := ⟨_, rfl⟩
      rw [hy] at a0 a1 a2 a3 a4 a5 hyw hno hsc
      obtain ⟨s0, s1, s2, s3, s4⟩ := hyw
      have i2 := fun W hm => impl_stright y.k y.t y.f y.o y.n y.b W (by unfold maxLen; omega) (by unfold maxLen; omega) (by unfold maxLen; omega) (by unfold maxLen; omega) hm
      have HBa := Lib.hid (HB.out.alloc HB.out.size (.cells #[.string y.k, .string y.t, .string y.f, .string y.o, .int .i64 y.n, .string y.b] 28))
      unfold keepB msB at hno hsc
      rw [mess_list] at hno hsc
      obtain ⟨bk, hbk⟩ : ∃ b, (y.k.toList == [109, 101, 115, 115, 97, 103, 101]) = b := ⟨_, rfl⟩
      obtain ⟨bs, hbs⟩ : ∃ b, stB y.k y.t y.f y.o y.n y.b = b := ⟨_, rfl⟩
      rw [hbk, hbs] at hno hsc
      rw [hbs] at i2
      have HNO := Lib.hid hno
      have HSC := Lib.hid hsc
      clear hb hy hbs hno hsc
      cases bk
      · go_wp2
        go_ret
        exact ⟨ret_bool (HNO.out rfl).symm, HBa.out⟩
      · cases bs
        · go_wp2_with (go_at_call 39; go_fit (i2 _ (HM.out _ HBa.out)); rintro e w2 ⟨rfl, hb2⟩; have HB2 := Lib.hid (HBa.out.trans (hb2.mono HBa.out.size)); clear hb2)
          go_ret
          exact ⟨ret_bool (HNO.out rfl).symm, HB2.out⟩
        · go_wp2_with (go_at_call 39; go_fit (i2 _ (HM.out _ HBa.out)); rintro e w2 ⟨rfl, hb2⟩; have HB2 := Lib.hid (HBa.out.trans (hb2.mono HBa.out.size)); clear hb2)
          go_roundw
          case rel => exact ⟨k + 1, by omega, by go_num, HSC.out rfl, HB2.out⟩
          case measure => simp [intOf]; omega
    · have HE := Lib.hid (HZ2.out k HI.out (by rw [HN.out]; exact hlt))
      clear hb
      go_wp2
      go_ret
      exact ⟨ret_bool HE.out.symm, HB.out⟩
set_option maxRecDepth 100000 in
set_option maxHeartbeats 4000000 in
theorem spec_mbright (xs : List SeL) (ys : List MsL) (p1 p2 : Option Addr) (n1 n2 c1 c2 : Nat) (w : World) (hx : xs.length = n1) (hy : ys.length = n2) (hn1 : n1 ≤ 1048576) (hn2 : n2 ≤ 1048576) (hw : SzS xs) (hw2 : SzM ys) (hR1 : RowC seC 4 w p1 xs) (hR2 : RowC msC 6 w p2 ys) :
    Calls Tryz.prog 12 #[.agg #[.slice p1 n1 c1, .slice p2 n2 c2]] w fun e w' => e = .returned (.bool (mbB xs ys)) ∧ Below w.heap.size w w' := by
  have i1 := fun W hR => spec_seright xs p1 c1 W (by omega) (se_max hw) hR
  have HK := Lib.hid (fun w1 (h : Below (w.alloc (.cells #[.slice p1 n1 c1, .slice p2 n2 c2] 26)).heap.size (w.alloc (.cells #[.slice p1 n1 c1, .slice p2 n2 c2] 26)) w1) => oneM (cs := [.slice p1 n1 c1, .slice p2 n2 c2]) h)
  have HP1 := Lib.hid (hR1.on ((Below.refl w.heap.size w).alloc (Nat.le_refl _) (.cells #[.slice p1 n1 c1, .slice p2 n2 c2] 26)))
  have HP2 := Lib.hid (fun W (h : Below w.heap.size w W) => hR2.on h)
  have HW := Lib.hid hw2
  have HN := Lib.hid hy
  rw [hx] at i1
  cases hk : okB xs
  · rw [mb_okNo hk]
    rw [hk] at i1
    clear hk hw hw2 hR1 hR2 hx hy
    go_enter Tryz.func12, Tryz.ntmps12
    go_wp2_with (go_at_call 40; go_fit (i1 _ HP1.out); rintro e w1 ⟨rfl, hb1⟩; obtain ⟨hA, hb⟩ := HK.out _ hb1; obtain ⟨⟨c0, c1_⟩, _⟩ := arr9_two hA; have HB1 := Lib.hid hb; clear hA hb1 hb)
    go_ret
    exact ⟨rfl, HB1.out⟩
  rw [hk] at i1
  by_cases h5 : 5 < n2
  · rw [mb_big (by rw [hy]; exact h5)]
    clear hk hw hw2 hR1 hR2 hx hy
    go_enter Tryz.func12, Tryz.ntmps12
    go_wp2_with (go_at_call 40; go_fit (i1 _ HP1.out); rintro e w1 ⟨rfl, hb1⟩; obtain ⟨hA, hb⟩ := HK.out _ hb1; obtain ⟨⟨c0, c1_⟩, _⟩ := arr9_two hA; have HB1 := Lib.hid hb; clear hA hb1 hb)
    go_ret
    exact ⟨rfl, HB1.out⟩
  rw [mb_all hk (by rw [hy]; omega)]
  have HZ := Lib.hid (fun k hk h => keep_no (ys := ys) (k := k) hk h)
  have HZ2 := Lib.hid (fun k h hk => keepN_all (ys := ys) (k := k) h hk)
  obtain ⟨Z, hZ⟩ : ∃ Z, ys.all keepB = Z := ⟨_, rfl⟩
  rw [hZ] at HZ HZ2 ⊢
  clear hk hw hw2 hR1 hR2 hx hy hZ
  go_enter Tryz.func12, Tryz.ntmps12
  go_wp2_with (go_at_call 40; go_fit (i1 _ HP1.out); rintro e w1 ⟨rfl, hb1⟩; obtain ⟨hA, hb⟩ := HK.out _ hb1; obtain ⟨⟨c0, c1_⟩, _⟩ := arr9_two hA; have HB1 := Lib.hid hb; have HA1 := Lib.hid hA; clear hA hb1 hb)
  go_loopw [3] (fun iq wr => ∃ k : Nat, k ≤ n2 ∧ iq = .int .i64 k ∧ KeepN ys k ∧ Arr wr w.heap.size 26 [.slice p1 n1 c1, .slice p2 n2 c2] ∧ Below w.heap.size w wr) (fun i _ => n2 - (intOf i).toNat)
  case atStart => exact ⟨0, Nat.zero_le _, rfl, fun i _ h => absurd h (Nat.not_lt_zero _), HA1.out, HB1.out⟩
  case round =>
    obtain ⟨k, hk, rfl, hI, hA, hb⟩ := hrel
    have HI := Lib.hid hI
    have HB := Lib.hid hb
    have HA := Lib.hid hA
    obtain ⟨⟨d0, d1⟩, _⟩ := arr9_two hA
    clear hI hA c0 c1_
    by_cases hlt : k < n2
    · have hlt1 : k < ys.length := by rw [HN.out]; exact hlt
      obtain ⟨g, rfl, hg, a0, a1, a2, a3, a4, a5⟩ := row_ms6 (HP2.out _ hb) hlt1
      have hyw := HW.out _ (List.getElem_mem hlt1)
      have hno := HZ.out k hlt1
      have hsc := keepN_succ HI.out hlt1
      obtain ⟨y, hy⟩ : ∃ y, ys[k] = y := ⟨_, rfl⟩
      rw [hy] at a0 a1 a2 a3 a4 a5 hyw hno hsc
      obtain ⟨s0, s1, s2, s3, s4⟩ := hyw
      have i2 := fun W => spec_stright y.k y.t y.f y.o y.n y.b W (by unfold maxLen; omega) (by omega) (by omega) (by unfold maxLen; omega)
      unfold keepB msB at hno hsc
      rw [mess_list] at hno hsc
      obtain ⟨bk, hbk⟩ : ∃ b, (y.k.toList == [109, 101, 115, 115, 97, 103, 101]) = b := ⟨_, rfl⟩
      obtain ⟨bs, hbs⟩ : ∃ b, stB y.k y.t y.f y.o y.n y.b = b := ⟨_, rfl⟩
      rw [hbk, hbs] at hno hsc
      rw [hbs] at i2
      have HNO := Lib.hid hno
      have HSC := Lib.hid hsc
      clear hb hy hbs hno hsc
      cases bk
      · go_wp2
        go_ret
        exact ⟨ret_bool (HNO.out rfl).symm, HB.out⟩
      · cases bs
        · go_wp2_with (go_at_call 41; go_fit (i2 _); rintro e w2 ⟨rfl, hb2⟩; have HB2 := Lib.hid (HB.out.trans (hb2.mono HB.out.size)); clear hb2)
          go_ret
          exact ⟨ret_bool (HNO.out rfl).symm, HB2.out⟩
        · go_wp2_with (go_at_call 41; go_fit (i2 _); rintro e w2 ⟨rfl, hb2⟩; have HB2 := Lib.hid (HB.out.trans (hb2.mono HB.out.size)); have HA2 := Lib.hid (arr9_on HA.out hb2); clear hb2)
          go_roundw
          case rel => exact ⟨k + 1, by omega, by go_num, HSC.out rfl, HA2.out, HB2.out⟩
          case measure => simp [intOf]; omega
    · have HE := Lib.hid (HZ2.out k HI.out (by rw [HN.out]; exact hlt))
      clear hb
      go_wp2
      go_ret
      exact ⟨ret_bool HE.out.symm, HB.out⟩
end Go.Proofs.YtafdjjdmcnlddaaGreat

namespace Go.Proofs.YtafdjjdmcnlddaaGreat
set_option linter.unusedSimpArgs false
set_option linter.unusedVariables false
open Go.RowKit Go.Joins

theorem own_two {α β : Type} {f : α → List Value} {h : β → List Value} {w : World} {B1 B2 e1 e2 s1 s2 : Nat} {v1 v2 : Value} {xs : List α} {ys : List β} (h1 : OwnC f w B1 e1 s1 v1 xs) (h2 : OwnC h w B2 e2 s2 v2 ys) (hne : e1 ≠ e2) : ∀ a b, v1.ownBlock = some a → v2.ownBlock = some b → b ≠ a := by
  intro a b ha hb hab
  subst hab
  rcases h1.2 with ⟨h0, _⟩ | ⟨g, c, cur, q1, _, q3, _⟩
  · rw [h0] at ha; cases ha
  · rcases h2.2 with ⟨h0, _⟩ | ⟨g2, c2, cur2, r1, _, r3, _⟩
    · rw [h0] at hb; cases hb
    · rw [q1] at ha
      rw [r1] at hb
      injection ha with ha
      injection hb with hb
      subst ha hb
      rw [q3] at r3
      injection r3 with r3
      injection r3 with _ r4
      exact hne r4
theorem own_beside {α : Type} {enc : α → List Value} {W W2 : World} {B e size : Nat} {u v : Value} {xs : List α} (ho : OwnC enc W B e size u xs) (hg : W.grownBy W2 v.ownBlock) (hne : ∀ a b, v.ownBlock = some a → u.ownBlock = some b → b ≠ a) : OwnC enc W2 B e size u xs := by
  refine ⟨ho.1, ?_⟩
  rcases ho.2 with h0 | ⟨j, c, cur, h1, h2, h3, h4⟩
  · exact .inl h0
  · exact .inr ⟨j, c, cur, h1, h2, (hg.block j (Array.getElem?_eq_some_iff.1 h3).1 (fun e => hne j j e.symm (by rw [h1]; rfl) rfl)).trans h3, h4⟩
theorem arr_beside10 {W W2 : World} {b t : Nat} {cs : List Value} {r : Option Nat} (h : Arr W b t cs) (hg : W.grownBy W2 r) (hne : ∀ k, r = some k → b ≠ k) : Arr W2 b t cs := (hg.block b (arr9_lt h) (fun e => hne b e.symm rfl)).trans h
theorem one_allM (xs : List MsL) : ∀ u ∈ xs.flatMap msC, u.oneCell' = true := by
  intro u hu
  obtain ⟨x, _, hx⟩ := List.mem_flatMap.1 hu
  exact msC_one x u hx
theorem empty_rowM (W : World) : OwnC msC (W.alloc (.cells #[] 28)) W.heap.size 28 6 (.slice (some ⟨W.heap.size, 0, none⟩) 0 0) [] :=
  World.ownsRow_lit W #[] 0 (Nat.le_refl _) (Nat.zero_le _) rfl
/-- append(v, row...). -/
theorem wp_app_rowM {o : Oper} {a : Act} {w : World} {K : Act → World → Prop} {Q : Exit → Act → World → Prop} (s x : Operand)
    (ho : o.op = .call { callee := .builtin .append, args := #[s, x], argTypes := #[24, 24] })
    (B : Nat) (v : Value) (ys : List MsL) (hs : a.eval s = v) (hown : OwnC msC w B 28 6 v ys) (B2 : Nat) (p : Option Addr) (n c : Nat) (xs : List MsL) (hx : a.eval x = .slice p n c) (hrow : OwnC msC w B2 28 6 (.slice p n c) xs)
    (hlen : ys.length + xs.length ≤ 2000000) (hB : B ≤ w.heap.size) (h : ∀ v' w', OwnC msC w' B 28 6 v' (ys ++ xs) → w.grownBy w' v.ownBlock → K (a.put o.dst v') w') : o.wp Tryz.prog a w K Q := by
  obtain ⟨i0, hi, hz0, hz1, hz2⟩ := info_parts info_ms
  rcases hrow.2 with ⟨e, h0⟩ | ⟨g, cap, cur, e, h1, h2, h3, h4, h5, h6⟩
  · obtain rfl := List.eq_nil_of_length_eq_zero h0
    rw [e] at hx
    have hr := run_append_owned_none (P := Tryz.prog) (w := w) B 24 o.type 28 i0 6 Tryz.underlying24 hi v ys.length (ys.flatMap msC) hown
    rw [List.append_nil] at h
    unfold Oper.wp execOp
    simp only [ho, resolve, invoke, builtin, Sem.run_bind, Sem.run_pure, Result.andThen_ok, List.map_toArray, List.map_cons, List.map_nil, hs, hx, hr]
    exact h v w hown (World.grownBy.refl w _)
  · have hc := hrow
    rw [e] at hx hc
    refine wp_append_own w s x 24 ho B 28 i0 _ 6 88 Tryz.underlying24 hi hz0 hz1 hz2 rfl (by decide) v ys.length (ys.flatMap msC) hs hown ⟨g, 0, none⟩ xs.length cap (xs.flatMap msC) hx hc.1 (fun j u hj => ?_) (one_allM xs) (by unfold maxLen; omega) (by omega) hB (fun v' w' h1 h2 _ => h v' w' ?_ h2)
    · have hlt : j < xs.length * 6 := by
        have := (List.getElem?_eq_some_iff.1 hj).1
        rw [hc.1] at this
        exact this
      have := World.ownsRow.cellAt hc j hlt
      rw [hj] at this
      rw [show (⟨g, 0, none⟩ : Addr).add j = ⟨g, j, none⟩ by unfold Addr.add; split <;> simp_all]
      exact this
    · show w'.ownsRow B _ 6 v' (ys ++ xs).length ((ys ++ xs).flatMap msC)
      rw [List.length_append, List.flatMap_append]
      exact h1
/-- append(v, y). -/
theorem wp_app_oneM {o : Oper} {a : Act} {w : World} {K : Act → World → Prop} {Q : Exit → Act → World → Prop} (s x : Operand)
    (ho : o.op = .call { callee := .builtin .append, args := #[s, x], argTypes := #[24, 24] })
    (B : Nat) (v : Value) (ys : List MsL) (hs : a.eval s = v) (hown : OwnC msC w B 28 6 v ys) (g : Nat) (z : MsL) (hx : a.eval x = .slice (some ⟨g, 0, none⟩) 1 1) (hA : Arr w g 28 (msC z))
    (hlen : ys.length ≤ 1000000) (hB : B ≤ w.heap.size) (h : ∀ v' w', OwnC msC w' B 28 6 v' (ys ++ [z]) → w.grownBy w' v.ownBlock → K (a.put o.dst v') w') : o.wp Tryz.prog a w K Q := by
  obtain ⟨i0, hi, hz0, hz1, hz2⟩ := info_parts info_ms
  refine wp_append_own w s x 24 ho B 28 i0 _ 6 88 Tryz.underlying24 hi hz0 hz1 hz2 rfl (by decide) v ys.length (ys.flatMap msC) hs hown ⟨g, 0, none⟩ 1 1 (msC z) hx (by rw [msC_len]) (fun j u hj => ?_) (msC_one z) (by unfold maxLen; omega) (by omega) hB (fun v' w' h1 h2 _ => h v' w' ?_ h2)
  · rw [show (⟨g, 0, none⟩ : Addr).add j = ⟨g, j, none⟩ by unfold Addr.add; split <;> simp_all, hA.cell]
    exact hj
  · show w'.ownsRow B _ 6 v' (ys ++ [z]).length ((ys ++ [z]).flatMap msC)
    rw [List.length_append, List.flatMap_append]
    simpa using h1
/-- The boxes of l10Copy. -/
def LcB (w W : World) (p1 : Option Addr) (n1 c1 : Nat) (p2 : Option Addr) (n2 c2 : Nat) : Prop := Arr W w.heap.size 26 [.slice p1 n1 c1, .slice p2 n2 c2] ∧ Arr W (w.heap.size + 1) 26 [.slice none 0 0, .slice none 0 0] ∧ Below w.heap.size w W
theorem LcB.on {w W W2 : World} {p1 : Option Addr} {n1 c1 : Nat} {p2 : Option Addr} {n2 c2 : Nat} (h : LcB w W p1 n1 c1 p2 n2 c2) (hb : Below W.heap.size W W2) : LcB w W2 p1 n1 c1 p2 n2 c2 := ⟨arr9_on h.1 hb, arr9_on h.2.1 hb, h.2.2.trans (hb.mono h.2.2.size)⟩
theorem LcB.grow {w W W2 : World} {p1 : Option Addr} {n1 c1 : Nat} {p2 : Option Addr} {n2 c2 : Nat} {r : Option Nat} (h : LcB w W p1 n1 c1 p2 n2 c2) (hg : W.grownBy W2 r) (hr : ∀ k, r = some k → w.heap.size + 2 ≤ k) : LcB w W2 p1 n1 c1 p2 n2 c2 :=
  ⟨arr_beside10 h.1 hg (fun k hk => by have := hr k hk; omega), arr_beside10 h.2.1 hg (fun k hk => by have := hr k hk; omega), h.2.2.grown hg h.2.2.size (fun k hk => by have := hr k hk; omega)⟩
theorem LcB.big {w W : World} {p1 : Option Addr} {n1 c1 : Nat} {p2 : Option Addr} {n2 c2 : Nat} (h : LcB w W p1 n1 c1 p2 n2 c2) : w.heap.size + 2 ≤ W.heap.size := by have := arr9_lt h.2.1; omega
theorem lcb_start (w : World) (p1 : Option Addr) (n1 c1 : Nat) (p2 : Option Addr) (n2 c2 : Nat) : LcB w ((w.alloc (.cells #[.slice p1 n1 c1, .slice p2 n2 c2] 26)).alloc (.cells #[.slice none 0 0, .slice none 0 0] 26)) p1 n1 c1 p2 n2 c2 := by
  have h2 := Arr.fresh (w.alloc (.cells #[.slice p1 n1 c1, .slice p2 n2 c2] 26)) 26 [.slice none 0 0, .slice none 0 0]
  rw [World.size_alloc] at h2
  exact ⟨arr9_on (Arr.fresh w 26 [.slice p1 n1 c1, .slice p2 n2 c2]) ((Below.refl _ _).alloc (Nat.le_refl _) _), h2, ((Below.refl _ _).alloc (Nat.le_refl _) _).alloc (by simp) _⟩
theorem own_shape10 {α : Type} {enc : α → List Value} {w : World} {B e size n : Nat} {v : Value} {ys : List α} (h : OwnC enc w B e size v ys) (hn : ys.length = n) : ∃ p k, v = .slice p n k := by
  subst hn
  rcases h.2 with ⟨h0, h1⟩ | ⟨g, cap, cur, h1, _⟩
  · exact ⟨none, 0, by rw [h0, h1]⟩
  · exact ⟨_, _, h1⟩
set_option maxRecDepth 100000 in
set_option maxHeartbeats 2000000 in
theorem spec_l10copy (xs : List SeL) (ys : List MsL) (p1 p2 : Option Addr) (n1 n2 c1 c2 B0 : Nat) (w : World) (hx : xs.length = n1) (hy : ys.length = n2) (hn1 : n1 ≤ 1048576) (hn2 : n2 ≤ 1048576)
    (hO1 : OwnC seC w B0 40 4 (.slice p1 n1 c1) xs) (hO2 : OwnC msC w B0 28 6 (.slice p2 n2 c2) ys) :
    Calls Tryz.prog 47 #[.agg #[.slice p1 n1 c1, .slice p2 n2 c2]] w fun e w' => (∃ q1 l1 q2 l2, e = .returned (.agg #[.slice q1 n1 l1, .slice q2 n2 l2]) ∧ OwnC seC w' w.heap.size 40 4 (.slice q1 n1 l1) xs ∧ OwnC msC w' w.heap.size 28 6 (.slice q2 n2 l2) ys) ∧ Below w.heap.size w w' := by
  have HO1 := Lib.hid (fun W (h : Below w.heap.size w W) => hO1.on h)
  have HO2 := Lib.hid (fun W (h : Below w.heap.size w W) => hO2.on h)
  have HL := Lib.hid (lcb_start w p1 n1 c1 p2 n2 c2)
  clear hO1 hO2
  go_enter Tryz.func47, Tryz.ntmps47
  go_wp2
  refine wp_region_held_drew (S := fun W => Arr W w.heap.size 26 [.slice p1 n1 c1, .slice p2 n2 c2]) (by kernel_rfl) HL.out.1 (fun hHeld => ?_)
  have HB0 := Lib.hid (HL.out.on (Below.refl _ _).drew)
  generalize World.drew _ = W0 at HB0 hHeld ⊢
  refine takeQ (i := 1) (k := 4) (v := .pointer (some ⟨w.heap.size, 0, none⟩)) rfl (by rfl) (by kernel_rfl) (by kernel_rfl) (by kernel_rfl) (fun _ _ _ h => h) (by rfl) ?_ hHeld ?_
  · intro w1 hSw; obtain ⟨⟨m0, m1⟩, _⟩ := arr9_two hSw; go_simp
  (try simp only [Act.put, List.setIfInBounds_toArray, List.set_cons_zero, List.set_cons_succ])
  refine takeQ (i := 2) (k := 5) (v := .slice p1 n1 c1) rfl (by rfl) (by kernel_rfl) (by kernel_rfl) (by kernel_rfl) (fun _ _ _ h => h) (by rfl) ?_ hHeld ?_
  · intro w1 hSw; obtain ⟨⟨m0, m1⟩, _⟩ := arr9_two hSw; go_simp
  (try simp only [Act.put, List.setIfInBounds_toArray, List.set_cons_zero, List.set_cons_succ])
  refine takeQ (i := 5) (k := 8) (v := .pointer (some ⟨w.heap.size, 1, none⟩)) rfl (by rfl) (by kernel_rfl) (by kernel_rfl) (by kernel_rfl) (fun _ _ _ h => h) (by rfl) ?_ hHeld ?_
  · intro w1 hSw; obtain ⟨⟨m0, m1⟩, _⟩ := arr9_two hSw; go_simp
  (try simp only [Act.put, List.setIfInBounds_toArray, List.set_cons_zero, List.set_cons_succ])
  refine takeQ (i := 6) (k := 9) (v := .slice p2 n2 c2) rfl (by rfl) (by kernel_rfl) (by kernel_rfl) (by kernel_rfl) (fun _ _ _ h => h) (by rfl) ?_ hHeld ?_
  · intro w1 hSw; obtain ⟨⟨m0, m1⟩, _⟩ := arr9_two hSw; go_simp
  (try simp only [Act.put, List.setIfInBounds_toArray, List.set_cons_zero, List.set_cons_succ])
  refine wpAnyH_ready (rs := [0, 4]) (by kernel_rfl) (by simp) ?_
  refine AllReadyH.cons rfl (fun K hK => ?_) (AllReadyH.cons rfl (fun K hK => ?_) AllReadyH.nil)
  · skip
    rw [if_pos (by rfl)]
    go_simp
    have HB2 := Lib.hid (HB0.out.on ((Below.refl _ _).alloc (Nat.le_refl _) (.cells #[] 40)))
    have HV3 : Hid (OwnC seC (W0.alloc (.cells #[] 40)) (w.heap.size + 2) 40 4 (.slice (some ⟨W0.heap.size, 0, none⟩) 0 0) []) := Lib.hid ((empty_row9 W0).mono HB0.out.big)
    refine hK.out _ _ HB2.out.1 (fun hHeld => ?_)
    clear hK K
    (try simp only [Act.put, List.setIfInBounds_toArray, List.set_cons_zero, List.set_cons_succ])
    generalize W0.heap.size = bv4 at HV3 ⊢
    generalize W0.alloc (.cells #[] 40) = W1 at HB2 HV3 ⊢
    refine wpAnyH_ready (rs := [3, 4]) (by kernel_rfl) (by simp) ?_
    refine AllReadyH.cons rfl (fun K hK => ?_) (AllReadyH.cons rfl (fun K hK => ?_) AllReadyH.nil)
    · skip
      rw [if_pos (by rfl)]
      refine wp_app_row9 _ _ rfl (w.heap.size + 2) _ [] rfl HV3.out B0 p1 n1 c1 xs rfl (HO1.out _ HB2.out.2.2) (by rw [hx]; show 0 + n1 ≤ 2000000; omega) HB2.out.big ?_
      intro v7 W5 hv hg
      rw [List.nil_append] at hv
      have HV8 := Lib.hid hv
      have HB6 := Lib.hid (HB2.out.grow hg (fun q hq => (own_base HV3.out) q hq))
      clear hv hg
      refine hK.out _ _ HB6.out.1 (fun hHeld => ?_)
      clear hK K
      (try simp only [Act.put, List.setIfInBounds_toArray, List.set_cons_zero, List.set_cons_succ])
      refine wpAnyH_ready (rs := [4]) (by kernel_rfl) (by simp) ?_
      refine AllReadyH.cons rfl (fun K hK => ?_) AllReadyH.nil
      rw [if_pos (by rfl)]
      go_simp
      have HB10 := Lib.hid (HB6.out.on ((Below.refl _ _).alloc (Nat.le_refl _) (.cells #[] 28)))
      have HV11 : Hid (OwnC msC (W5.alloc (.cells #[] 28)) (w.heap.size + 2) 28 6 (.slice (some ⟨W5.heap.size, 0, none⟩) 0 0) []) := Lib.hid ((empty_rowM W5).mono HB6.out.big)
      have HV13 := Lib.hid (HV8.out.alloc (.cells #[] 28))
      refine hK.out _ _ HB10.out.1 (fun hHeld => ?_)
      clear hK K
      (try simp only [Act.put, List.setIfInBounds_toArray, List.set_cons_zero, List.set_cons_succ])
      generalize W5.heap.size = bv12 at HV11 ⊢
      generalize W5.alloc (.cells #[] 28) = W9 at HB10 HV13 HV11 ⊢
      refine wpAnyH_ready (rs := [7]) (by kernel_rfl) (by simp) ?_
      refine AllReadyH.cons rfl (fun K hK => ?_) AllReadyH.nil
      rw [if_pos (by rfl)]
      refine wp_app_rowM _ _ rfl (w.heap.size + 2) _ [] rfl HV11.out B0 p2 n2 c2 ys rfl (HO2.out _ HB10.out.2.2) (by rw [hy]; show 0 + n2 ≤ 2000000; omega) HB10.out.big ?_
      intro v16 W14 hv hg
      rw [List.nil_append] at hv
      have HV17 := Lib.hid hv
      have HB15 := Lib.hid (HB10.out.grow hg (fun q hq => (own_base HV11.out) q hq))
      have HV18 := Lib.hid (own_beside HV13.out hg (own_two HV11.out HV13.out (by decide)))
      clear hv hg
      refine hK.out _ _ HB15.out.1 (fun hHeld => ?_)
      clear hK K
      (try simp only [Act.put, List.setIfInBounds_toArray, List.set_cons_zero, List.set_cons_succ])
      obtain ⟨q1, l1, e1⟩ := own_shape10 HV18.out hx
      obtain ⟨q2, l2, e2⟩ := own_shape10 HV17.out hy
      subst e1 e2
      refine takeQ (i := 8) (k := 11) (v := .agg #[.slice q1 n1 l1, .slice q2 n2 l2]) rfl (by rfl) (by kernel_rfl) (by kernel_rfl) (by kernel_rfl) (fun _ _ _ h => h) (by rfl) ?_ hHeld ?_
      · intro w1 hSw; go_simp
      (try simp only [Act.put, List.setIfInBounds_toArray, List.set_cons_zero, List.set_cons_succ])
      obtain ⟨⟨c0, c1_⟩, f0, f1⟩ := arr9_two HB15.out.2.1
      refine wpAnyH_ready (rs := [9]) (by kernel_rfl) (by simp) ?_
      refine AllReadyH.cons rfl (fun K hK => ?_) AllReadyH.nil
      rw [if_pos (by rfl)]
      go_simp
      have hE := ((HB15.out.2.1.put 0 (.slice q1 n1 l1)).put 1 (.slice q2 n2 l2))
      have hA := arr_other (arr_other HB15.out.1 (w.heap.size + 1) 0 (.slice q1 n1 l1) (by omega)) (w.heap.size + 1) 1 (.slice q2 n2 l2) (by omega)
      refine hK.out _ _ hA (fun hHeld => ?_)
      clear hK K
      (try simp only [Act.put, List.setIfInBounds_toArray, List.set_cons_zero, List.set_cons_succ])
      refine wpAnyH_done (by kernel_rfl) ?_ _
      clear hHeld
      (try go_wp2)
      exact bodyPost_ret (v := .agg #[.slice q1 n1 l1, .slice q2 n2 l2]) (results_cell_row (P := Tryz.prog) Tryz.results47 _ _ (w.heap.size + 1) 26 _ (0, 0) _ rfl hE Tryz.underlying26 rfl (by kernel_rfl)) rfl ⟨⟨q1, l1, q2, l2, rfl, ((HV18.out.low (a := ⟨w.heap.size + 1, 0, none⟩) (Nat.lt_succ_self _) (.slice q1 n1 l1)).low (a := ⟨w.heap.size + 1, 1, none⟩) (Nat.lt_succ_self _) (.slice q2 n2 l2)).mono (Nat.le_add_right _ _), ((HV17.out.low (a := ⟨w.heap.size + 1, 0, none⟩) (Nat.lt_succ_self _) (.slice q1 n1 l1)).low (a := ⟨w.heap.size + 1, 1, none⟩) (Nat.lt_succ_self _) (.slice q2 n2 l2)).mono (Nat.le_add_right _ _)⟩, (HB15.out.2.2.setCell (p := ⟨w.heap.size + 1, 0, none⟩) (Nat.le_succ _) _).setCell (p := ⟨w.heap.size + 1, 1, none⟩) (Nat.le_succ _) _⟩
    · skip
      rw [if_pos (by rfl)]
      go_simp
      have HB20 := Lib.hid (HB2.out.on ((Below.refl _ _).alloc (Nat.le_refl _) (.cells #[] 28)))
      have HV21 : Hid (OwnC msC (W1.alloc (.cells #[] 28)) (w.heap.size + 2) 28 6 (.slice (some ⟨W1.heap.size, 0, none⟩) 0 0) []) := Lib.hid ((empty_rowM W1).mono HB2.out.big)
      have HV23 := Lib.hid (HV3.out.alloc (.cells #[] 28))
      refine hK.out _ _ HB20.out.1 (fun hHeld => ?_)
      clear hK K
      (try simp only [Act.put, List.setIfInBounds_toArray, List.set_cons_zero, List.set_cons_succ])
      generalize W1.heap.size = bv22 at HV21 ⊢
      generalize W1.alloc (.cells #[] 28) = W19 at HB20 HV23 HV21 ⊢
      refine wpAnyH_ready (rs := [3]) (by kernel_rfl) (by simp) ?_
      refine AllReadyH.cons rfl (fun K hK => ?_) AllReadyH.nil
      rw [if_pos (by rfl)]
      refine wp_app_row9 _ _ rfl (w.heap.size + 2) _ [] rfl HV23.out B0 p1 n1 c1 xs rfl (HO1.out _ HB20.out.2.2) (by rw [hx]; show 0 + n1 ≤ 2000000; omega) HB20.out.big ?_
      intro v26 W24 hv hg
      rw [List.nil_append] at hv
      have HV27 := Lib.hid hv
      have HB25 := Lib.hid (HB20.out.grow hg (fun q hq => (own_base HV23.out) q hq))
      have HV28 := Lib.hid (own_beside HV21.out hg (own_two HV23.out HV21.out (by decide)))
      clear hv hg
      refine hK.out _ _ HB25.out.1 (fun hHeld => ?_)
      clear hK K
      (try simp only [Act.put, List.setIfInBounds_toArray, List.set_cons_zero, List.set_cons_succ])
      refine wpAnyH_ready (rs := [7]) (by kernel_rfl) (by simp) ?_
      refine AllReadyH.cons rfl (fun K hK => ?_) AllReadyH.nil
      rw [if_pos (by rfl)]
      refine wp_app_rowM _ _ rfl (w.heap.size + 2) _ [] rfl HV28.out B0 p2 n2 c2 ys rfl (HO2.out _ HB25.out.2.2) (by rw [hy]; show 0 + n2 ≤ 2000000; omega) HB25.out.big ?_
      intro v31 W29 hv hg
      rw [List.nil_append] at hv
      have HV32 := Lib.hid hv
      have HB30 := Lib.hid (HB25.out.grow hg (fun q hq => (own_base HV28.out) q hq))
      have HV33 := Lib.hid (own_beside HV27.out hg (own_two HV28.out HV27.out (by decide)))
      clear hv hg
      refine hK.out _ _ HB30.out.1 (fun hHeld => ?_)
      clear hK K
      (try simp only [Act.put, List.setIfInBounds_toArray, List.set_cons_zero, List.set_cons_succ])
      obtain ⟨q1, l1, e1⟩ := own_shape10 HV33.out hx
      obtain ⟨q2, l2, e2⟩ := own_shape10 HV32.out hy
      subst e1 e2
      refine takeQ (i := 8) (k := 11) (v := .agg #[.slice q1 n1 l1, .slice q2 n2 l2]) rfl (by rfl) (by kernel_rfl) (by kernel_rfl) (by kernel_rfl) (fun _ _ _ h => h) (by rfl) ?_ hHeld ?_
      · intro w1 hSw; go_simp
      (try simp only [Act.put, List.setIfInBounds_toArray, List.set_cons_zero, List.set_cons_succ])
      obtain ⟨⟨c0, c1_⟩, f0, f1⟩ := arr9_two HB30.out.2.1
      refine wpAnyH_ready (rs := [9]) (by kernel_rfl) (by simp) ?_
      refine AllReadyH.cons rfl (fun K hK => ?_) AllReadyH.nil
      rw [if_pos (by rfl)]
      go_simp
      have hE := ((HB30.out.2.1.put 0 (.slice q1 n1 l1)).put 1 (.slice q2 n2 l2))
      have hA := arr_other (arr_other HB30.out.1 (w.heap.size + 1) 0 (.slice q1 n1 l1) (by omega)) (w.heap.size + 1) 1 (.slice q2 n2 l2) (by omega)
      refine hK.out _ _ hA (fun hHeld => ?_)
      clear hK K
      (try simp only [Act.put, List.setIfInBounds_toArray, List.set_cons_zero, List.set_cons_succ])
      refine wpAnyH_done (by kernel_rfl) ?_ _
      clear hHeld
      (try go_wp2)
      exact bodyPost_ret (v := .agg #[.slice q1 n1 l1, .slice q2 n2 l2]) (results_cell_row (P := Tryz.prog) Tryz.results47 _ _ (w.heap.size + 1) 26 _ (0, 0) _ rfl hE Tryz.underlying26 rfl (by kernel_rfl)) rfl ⟨⟨q1, l1, q2, l2, rfl, ((HV33.out.low (a := ⟨w.heap.size + 1, 0, none⟩) (Nat.lt_succ_self _) (.slice q1 n1 l1)).low (a := ⟨w.heap.size + 1, 1, none⟩) (Nat.lt_succ_self _) (.slice q2 n2 l2)).mono (Nat.le_add_right _ _), ((HV32.out.low (a := ⟨w.heap.size + 1, 0, none⟩) (Nat.lt_succ_self _) (.slice q1 n1 l1)).low (a := ⟨w.heap.size + 1, 1, none⟩) (Nat.lt_succ_self _) (.slice q2 n2 l2)).mono (Nat.le_add_right _ _)⟩, (HB30.out.2.2.setCell (p := ⟨w.heap.size + 1, 0, none⟩) (Nat.le_succ _) _).setCell (p := ⟨w.heap.size + 1, 1, none⟩) (Nat.le_succ _) _⟩
  · skip
    rw [if_pos (by rfl)]
    go_simp
    have HB35 := Lib.hid (HB0.out.on ((Below.refl _ _).alloc (Nat.le_refl _) (.cells #[] 28)))
    have HV36 : Hid (OwnC msC (W0.alloc (.cells #[] 28)) (w.heap.size + 2) 28 6 (.slice (some ⟨W0.heap.size, 0, none⟩) 0 0) []) := Lib.hid ((empty_rowM W0).mono HB0.out.big)
    refine hK.out _ _ HB35.out.1 (fun hHeld => ?_)
    clear hK K
    (try simp only [Act.put, List.setIfInBounds_toArray, List.set_cons_zero, List.set_cons_succ])
    generalize W0.heap.size = bv37 at HV36 ⊢
    generalize W0.alloc (.cells #[] 28) = W34 at HB35 HV36 ⊢
    refine wpAnyH_ready (rs := [0]) (by kernel_rfl) (by simp) ?_
    refine AllReadyH.cons rfl (fun K hK => ?_) AllReadyH.nil
    rw [if_pos (by rfl)]
    go_simp
    have HB39 := Lib.hid (HB35.out.on ((Below.refl _ _).alloc (Nat.le_refl _) (.cells #[] 40)))
    have HV40 : Hid (OwnC seC (W34.alloc (.cells #[] 40)) (w.heap.size + 2) 40 4 (.slice (some ⟨W34.heap.size, 0, none⟩) 0 0) []) := Lib.hid ((empty_row9 W34).mono HB35.out.big)
    have HV42 := Lib.hid (HV36.out.alloc (.cells #[] 40))
    refine hK.out _ _ HB39.out.1 (fun hHeld => ?_)
    clear hK K
    (try simp only [Act.put, List.setIfInBounds_toArray, List.set_cons_zero, List.set_cons_succ])
    generalize W34.heap.size = bv41 at HV40 ⊢
    generalize W34.alloc (.cells #[] 40) = W38 at HB39 HV40 HV42 ⊢
    refine wpAnyH_ready (rs := [3]) (by kernel_rfl) (by simp) ?_
    refine AllReadyH.cons rfl (fun K hK => ?_) AllReadyH.nil
    rw [if_pos (by rfl)]
    refine wp_app_row9 _ _ rfl (w.heap.size + 2) _ [] rfl HV40.out B0 p1 n1 c1 xs rfl (HO1.out _ HB39.out.2.2) (by rw [hx]; show 0 + n1 ≤ 2000000; omega) HB39.out.big ?_
    intro v45 W43 hv hg
    rw [List.nil_append] at hv
    have HV46 := Lib.hid hv
    have HB44 := Lib.hid (HB39.out.grow hg (fun q hq => (own_base HV40.out) q hq))
    have HV47 := Lib.hid (own_beside HV42.out hg (own_two HV40.out HV42.out (by decide)))
    clear hv hg
    refine hK.out _ _ HB44.out.1 (fun hHeld => ?_)
    clear hK K
    (try simp only [Act.put, List.setIfInBounds_toArray, List.set_cons_zero, List.set_cons_succ])
    refine wpAnyH_ready (rs := [7]) (by kernel_rfl) (by simp) ?_
    refine AllReadyH.cons rfl (fun K hK => ?_) AllReadyH.nil
    rw [if_pos (by rfl)]
    refine wp_app_rowM _ _ rfl (w.heap.size + 2) _ [] rfl HV47.out B0 p2 n2 c2 ys rfl (HO2.out _ HB44.out.2.2) (by rw [hy]; show 0 + n2 ≤ 2000000; omega) HB44.out.big ?_
    intro v50 W48 hv hg
    rw [List.nil_append] at hv
    have HV51 := Lib.hid hv
    have HB49 := Lib.hid (HB44.out.grow hg (fun q hq => (own_base HV47.out) q hq))
    have HV52 := Lib.hid (own_beside HV46.out hg (own_two HV47.out HV46.out (by decide)))
    clear hv hg
    refine hK.out _ _ HB49.out.1 (fun hHeld => ?_)
    clear hK K
    (try simp only [Act.put, List.setIfInBounds_toArray, List.set_cons_zero, List.set_cons_succ])
    obtain ⟨q1, l1, e1⟩ := own_shape10 HV52.out hx
    obtain ⟨q2, l2, e2⟩ := own_shape10 HV51.out hy
    subst e1 e2
    refine takeQ (i := 8) (k := 11) (v := .agg #[.slice q1 n1 l1, .slice q2 n2 l2]) rfl (by rfl) (by kernel_rfl) (by kernel_rfl) (by kernel_rfl) (fun _ _ _ h => h) (by rfl) ?_ hHeld ?_
    · intro w1 hSw; go_simp
    (try simp only [Act.put, List.setIfInBounds_toArray, List.set_cons_zero, List.set_cons_succ])
    obtain ⟨⟨c0, c1_⟩, f0, f1⟩ := arr9_two HB49.out.2.1
    refine wpAnyH_ready (rs := [9]) (by kernel_rfl) (by simp) ?_
    refine AllReadyH.cons rfl (fun K hK => ?_) AllReadyH.nil
    rw [if_pos (by rfl)]
    go_simp
    have hE := ((HB49.out.2.1.put 0 (.slice q1 n1 l1)).put 1 (.slice q2 n2 l2))
    have hA := arr_other (arr_other HB49.out.1 (w.heap.size + 1) 0 (.slice q1 n1 l1) (by omega)) (w.heap.size + 1) 1 (.slice q2 n2 l2) (by omega)
    refine hK.out _ _ hA (fun hHeld => ?_)
    clear hK K
    (try simp only [Act.put, List.setIfInBounds_toArray, List.set_cons_zero, List.set_cons_succ])
    refine wpAnyH_done (by kernel_rfl) ?_ _
    clear hHeld
    (try go_wp2)
    exact bodyPost_ret (v := .agg #[.slice q1 n1 l1, .slice q2 n2 l2]) (results_cell_row (P := Tryz.prog) Tryz.results47 _ _ (w.heap.size + 1) 26 _ (0, 0) _ rfl hE Tryz.underlying26 rfl (by kernel_rfl)) rfl ⟨⟨q1, l1, q2, l2, rfl, ((HV52.out.low (a := ⟨w.heap.size + 1, 0, none⟩) (Nat.lt_succ_self _) (.slice q1 n1 l1)).low (a := ⟨w.heap.size + 1, 1, none⟩) (Nat.lt_succ_self _) (.slice q2 n2 l2)).mono (Nat.le_add_right _ _), ((HV51.out.low (a := ⟨w.heap.size + 1, 0, none⟩) (Nat.lt_succ_self _) (.slice q1 n1 l1)).low (a := ⟨w.heap.size + 1, 1, none⟩) (Nat.lt_succ_self _) (.slice q2 n2 l2)).mono (Nat.le_add_right _ _)⟩, (HB49.out.2.2.setCell (p := ⟨w.heap.size + 1, 0, none⟩) (Nat.le_succ _) _).setCell (p := ⟨w.heap.size + 1, 1, none⟩) (Nat.le_succ _) _⟩
end Go.Proofs.YtafdjjdmcnlddaaGreat

namespace Go.Proofs.YtafdjjdmcnlddaaGreat
set_option linter.unusedSimpArgs false
set_option linter.unusedVariables false
open Go.RowKit Go.Joins

/-- A mailbox in memory of the law's own. -/
def MbIs (B : Nat) (xs : List SeL) (ys : List MsL) (p1 : Option Addr) (n1 k1 : Nat) (p2 : Option Addr) (n2 k2 : Nat) (W : World) : Prop := OwnC seC W B 40 4 (.slice p1 n1 k1) xs ∧ OwnC msC W B 28 6 (.slice p2 n2 k2) ys
theorem MbIs.on {B : Nat} {xs : List SeL} {ys : List MsL} {p1 : Option Addr} {n1 k1 : Nat} {p2 : Option Addr} {n2 k2 : Nat} {W W2 : World} (h : MbIs B xs ys p1 n1 k1 p2 n2 k2 W) (hb : Below W.heap.size W W2) : MbIs B xs ys p1 n1 k1 p2 n2 k2 W2 := ⟨h.1.on hb, h.2.on hb⟩
theorem MbIs.mono {B B2 : Nat} {xs : List SeL} {ys : List MsL} {p1 : Option Addr} {n1 k1 : Nat} {p2 : Option Addr} {n2 k2 : Nat} {W : World} (h : MbIs B xs ys p1 n1 k1 p2 n2 k2 W) (hB : B2 ≤ B) : MbIs B2 xs ys p1 n1 k1 p2 n2 k2 W := ⟨h.1.mono hB, h.2.mono hB⟩
end Go.Proofs.YtafdjjdmcnlddaaGreat

namespace Go.Proofs.YtafdjjdmcnlddaaGreat
set_option linter.unusedSimpArgs false
set_option linter.unusedVariables false
open Go.RowKit Go.Joins

/-- What marking two slices leaves as it was. -/
def MFrame2 (B : Nat) (u v : Value) (w W : World) : Prop := Below B w W ∧ w.heap.size ≤ W.heap.size ∧ ∀ k, k < w.heap.size → (∀ g, u.ownBlock = some g → k ≠ g) → (∀ g, v.ownBlock = some g → k ≠ g) → W.heap[k]? = w.heap[k]?
theorem MFrame.two {B : Nat} {u v : Value} {w W W2 : World} (h : MFrame B u w W) (h2 : MFrame B v W W2) : MFrame2 B u v w W2 :=
  ⟨h.1.trans h2.1, Nat.le_trans h.2.1 h2.2.1, fun k hk h3 h4 => (h2.2.2 k (Nat.lt_of_lt_of_le hk h.2.1) h4).trans (h.2.2 k hk h3)⟩
theorem mown_frame2 {α : Type} {enc : α → List Value} {B B2 e size : Nat} {u v x : Value} {xs : List α} {w W : World} (h : MFrame2 B u v w W) (ho : OwnC enc w B2 e size x xs) (hu : ∀ a b, u.ownBlock = some a → x.ownBlock = some b → b ≠ a) (hv : ∀ a b, v.ownBlock = some a → x.ownBlock = some b → b ≠ a) : OwnC enc W B2 e size x xs := by
  refine ⟨ho.1, ?_⟩
  rcases ho.2 with h0 | ⟨g, cap, cur, h1, h2, h3, h4⟩
  · exact .inl h0
  · refine .inr ⟨g, cap, cur, h1, h2, (h.2.2 g (Array.getElem?_eq_some_iff.1 h3).1 (fun a ha => hu a g ha (by rw [h1]; rfl)) (fun a ha => hv a g ha (by rw [h1]; rfl))).trans h3, h4⟩
end Go.Proofs.YtafdjjdmcnlddaaGreat

namespace Go.Proofs.YtafdjjdmcnlddaaGreat
set_option linter.unusedSimpArgs false
set_option linter.unusedVariables false
open Go.RowKit Go.Joins

/-- The rows of an answer. -/
def RoOwn (B : Nat) (W : World) (R : RoL) (p1 : Option Addr) (k1 : Nat) (p2 : Option Addr) (k2 : Nat) (p3 : Option Addr) (k3 : Nat) : Prop :=
  OwnC seC W B 40 4 (.slice p1 R.l.length k1) R.l ∧ OwnC msC W B 28 6 (.slice p2 R.ks.length k2) R.ks ∧ OwnC strC W B 9 1 (.slice p3 R.to.length k3) R.to
theorem RoOwn.on {B : Nat} {W W2 : World} {R : RoL} {p1 p2 p3 : Option Addr} {k1 k2 k3 : Nat} (h : RoOwn B W R p1 k1 p2 k2 p3 k3) (hb : Below W.heap.size W W2) : RoOwn B W2 R p1 k1 p2 k2 p3 k3 := ⟨h.1.on hb, h.2.1.on hb, h.2.2.on hb⟩
theorem RoOwn.mono {B B2 : Nat} {W : World} {R : RoL} {p1 p2 p3 : Option Addr} {k1 k2 k3 : Nat} (h : RoOwn B W R p1 k1 p2 k2 p3 k3) (hB : B2 ≤ B) : RoOwn B2 W R p1 k1 p2 k2 p3 k3 := ⟨h.1.mono hB, h.2.1.mono hB, h.2.2.mono hB⟩
/-- .. that are marked. -/
def RoMkd (B : Nat) (W : World) (R : RoL) (p1 : Option Addr) (k1 : Nat) (p2 : Option Addr) (k2 : Nat) (p3 : Option Addr) (k3 : Nat) : Prop :=
  MOwn mk_se 1 B 40 4 (.slice p1 R.l.length k1) R.l.length W ∧ MOwn mk_ms (1 + R.l.length * 4) B 28 6 (.slice p2 R.ks.length k2) R.ks.length W ∧ MOwn mk_ss (1 + R.l.length * 4 + R.ks.length * 6) B 9 1 (.slice p3 R.to.length k3) R.to.length W
theorem RoMkd.on {B : Nat} {W W2 : World} {R : RoL} {p1 p2 p3 : Option Addr} {k1 k2 k3 : Nat} (h : RoMkd B W R p1 k1 p2 k2 p3 k3) (hb : Below W.heap.size W W2) : RoMkd B W2 R p1 k1 p2 k2 p3 k3 := ⟨h.1.on hb, h.2.1.on hb, h.2.2.on hb⟩
/-- A small answer. -/
def RoL.le (R : RoL) : Prop := R.l.length ≤ 6 ∧ R.ks.length ≤ 6 ∧ R.to.length ≤ 6
/-- What marking three slices leaves as it was. -/
def MFrame3 (B : Nat) (u v x : Value) (w W : World) : Prop := Below B w W ∧ w.heap.size ≤ W.heap.size ∧ ∀ k, k < w.heap.size → (∀ g, u.ownBlock = some g → k ≠ g) → (∀ g, v.ownBlock = some g → k ≠ g) → (∀ g, x.ownBlock = some g → k ≠ g) → W.heap[k]? = w.heap[k]?
theorem MFrame2.three {B : Nat} {u v x : Value} {w W W2 : World} (h : MFrame2 B u v w W) (h2 : MFrame B x W W2) : MFrame3 B u v x w W2 :=
  ⟨h.1.trans h2.1, Nat.le_trans h.2.1 h2.2.1, fun k hk h3 h4 h5 => (h2.2.2 k (Nat.lt_of_lt_of_le hk h.2.1) h5).trans (h.2.2 k hk h3 h4)⟩
end Go.Proofs.YtafdjjdmcnlddaaGreat

namespace Go.Proofs.YtafdjjdmcnlddaaGreat
set_option linter.unusedSimpArgs false
set_option linter.unusedVariables false
open Go.RowKit Go.Joins

theorem own_ne10 {α : Type} {enc : α → List Value} {w : World} {B e size b t : Nat} {v : Value} {xs : List α} {cs : List Value} (h : OwnC enc w B e size v xs) (hA : Arr w b t cs) (hne : e ≠ t) : ∀ j, v.ownBlock = some j → b ≠ j := by
  intro j hj hb
  subst hb
  rcases h.2 with ⟨h0, _⟩ | ⟨g, c, cur, q1, _, q3, _⟩
  · rw [h0] at hj; cases hj
  · rw [q1] at hj
    injection hj with hj
    subst hj
    unfold Arr at hA
    rw [q3] at hA
    injection hA with hA
    injection hA with _ h4
    exact hne h4
theorem MFrame2.arr {B b t : Nat} {u v : Value} {cs : List Value} {w W : World} (h : MFrame2 B u v w W) (hA : Arr w b t cs) (h1 : ∀ g, u.ownBlock = some g → b ≠ g) (h2 : ∀ g, v.ownBlock = some g → b ≠ g) : Arr W b t cs := (h.2.2 b (arr9_lt hA) h1 h2).trans hA
theorem MFrame3.arr {B b t : Nat} {u v x : Value} {cs : List Value} {w W : World} (h : MFrame3 B u v x w W) (hA : Arr w b t cs) (h1 : ∀ g, u.ownBlock = some g → b ≠ g) (h2 : ∀ g, v.ownBlock = some g → b ≠ g) (h3 : ∀ g, x.ownBlock = some g → b ≠ g) : Arr W b t cs := (h.2.2 b (arr9_lt hA) h1 h2 h3).trans hA
/-- An answer's box, its rows. -/
def RoBox (b B : Nat) (W : World) (R : RoL) (p1 : Option Addr) (k1 : Nat) (p2 : Option Addr) (k2 : Nat) (p3 : Option Addr) (k3 : Nat) : Prop := Arr W b 33 (roC R p1 k1 p2 k2 p3 k3) ∧ RoOwn B W R p1 k1 p2 k2 p3 k3
theorem RoBox.on {b B : Nat} {W W2 : World} {R : RoL} {p1 : Option Addr} {k1 : Nat} {p2 : Option Addr} {k2 : Nat} {p3 : Option Addr} {k3 : Nat} (h : RoBox b B W R p1 k1 p2 k2 p3 k3) (hb : Below W.heap.size W W2) : RoBox b B W2 R p1 k1 p2 k2 p3 k3 := ⟨arr9_on h.1 hb, h.2.on hb⟩
theorem RoBox.new {B : Nat} {W : World} {R : RoL} {p1 : Option Addr} {k1 : Nat} {p2 : Option Addr} {k2 : Nat} {p3 : Option Addr} {k3 : Nat} (h : RoOwn B W R p1 k1 p2 k2 p3 k3) : RoBox W.heap.size B (W.alloc (.cells (roC R p1 k1 p2 k2 p3 k3).toArray 33)) R p1 k1 p2 k2 p3 k3 := ⟨Arr.fresh W _ _, h.on ((Below.refl _ _).alloc (Nat.le_refl _) _)⟩
/-- Its rows lie from B on and ahead of its box: rows that end ahead of B may be marked. -/
theorem RoBox.beside {b B C : Nat} {W W2 : World} {R : RoL} {p1 : Option Addr} {k1 : Nat} {p2 : Option Addr} {k2 : Nat} {p3 : Option Addr} {k3 : Nat} {u v : Value} (h : RoBox b B W R p1 k1 p2 k2 p3 k3) (hF : MFrame2 C u v W W2) (hb : B ≤ b) (hu : ∀ j, u.ownBlock = some j → j < B) (hv : ∀ j, v.ownBlock = some j → j < B) : RoBox b B W2 R p1 k1 p2 k2 p3 k3 :=
  ⟨hF.arr h.1 (fun g hg => by have := hu g hg; omega) (fun g hg => by have := hv g hg; omega),
   mown_frame2 hF h.2.1 (fun x y hx hy => by have := hu x hx; have := own_base h.2.1 y hy; omega) (fun x y hx hy => by have := hv x hx; have := own_base h.2.1 y hy; omega),
   mown_frame2 hF h.2.2.1 (fun x y hx hy => by have := hu x hx; have := own_base h.2.2.1 y hy; omega) (fun x y hx hy => by have := hv x hx; have := own_base h.2.2.1 y hy; omega),
   mown_frame2 hF h.2.2.2 (fun x y hx hy => by have := hu x hx; have := own_base h.2.2.2 y hy; omega) (fun x y hx hy => by have := hv x hx; have := own_base h.2.2.2 y hy; omega)⟩
/-- The same with its rows marked. -/
def RmBox (b B : Nat) (W : World) (R : RoL) (p1 : Option Addr) (k1 : Nat) (p2 : Option Addr) (k2 : Nat) (p3 : Option Addr) (k3 : Nat) : Prop := Arr W b 33 (roC R p1 k1 p2 k2 p3 k3) ∧ RoMkd B W R p1 k1 p2 k2 p3 k3
theorem RmBox.on {b B : Nat} {W W2 : World} {R : RoL} {p1 : Option Addr} {k1 : Nat} {p2 : Option Addr} {k2 : Nat} {p3 : Option Addr} {k3 : Nat} (h : RmBox b B W R p1 k1 p2 k2 p3 k3) (hb : Below W.heap.size W W2) : RmBox b B W2 R p1 k1 p2 k2 p3 k3 := ⟨arr9_on h.1 hb, h.2.on hb⟩
theorem RoBox.mark {b B C : Nat} {W W2 : World} {R : RoL} {p1 : Option Addr} {k1 : Nat} {p2 : Option Addr} {k2 : Nat} {p3 : Option Addr} {k3 : Nat} (h : RoBox b B W R p1 k1 p2 k2 p3 k3) (hM : RoMkd B W2 R p1 k1 p2 k2 p3 k3) (hF : MFrame3 C (.slice p1 R.l.length k1) (.slice p2 R.ks.length k2) (.slice p3 R.to.length k3) W W2) : RmBox b B W2 R p1 k1 p2 k2 p3 k3 :=
  ⟨hF.arr h.1 (own_ne10 h.2.1 h.1 (by decide)) (own_ne10 h.2.2.1 h.1 (by decide)) (own_ne10 h.2.2.2 h.1 (by decide)), hM⟩
/-- A mailbox's box, its rows. -/
def MxBox (b B : Nat) (W : World) (xs : List SeL) (ys : List MsL) (p1 : Option Addr) (n1 k1 : Nat) (p2 : Option Addr) (n2 k2 : Nat) : Prop := Arr W b 26 [.slice p1 n1 k1, .slice p2 n2 k2] ∧ MbIs B xs ys p1 n1 k1 p2 n2 k2 W
theorem MxBox.on {b B : Nat} {W W2 : World} {xs : List SeL} {ys : List MsL} {p1 : Option Addr} {n1 k1 : Nat} {p2 : Option Addr} {n2 k2 : Nat} (h : MxBox b B W xs ys p1 n1 k1 p2 n2 k2) (hb : Below W.heap.size W W2) : MxBox b B W2 xs ys p1 n1 k1 p2 n2 k2 := ⟨arr9_on h.1 hb, h.2.on hb⟩
theorem MxBox.new {B : Nat} {W : World} {xs : List SeL} {ys : List MsL} {p1 : Option Addr} {n1 k1 : Nat} {p2 : Option Addr} {n2 k2 : Nat} (h : MbIs B xs ys p1 n1 k1 p2 n2 k2 W) : MxBox W.heap.size B (W.alloc (.cells #[.slice p1 n1 k1, .slice p2 n2 k2] 26)) xs ys p1 n1 k1 p2 n2 k2 := ⟨Arr.fresh W _ [.slice p1 n1 k1, .slice p2 n2 k2], h.on ((Below.refl _ _).alloc (Nat.le_refl _) _)⟩
/-- Rows that lie below C. -/
def RoLow (C : Nat) (p1 p2 p3 : Option Addr) (R : RoL) (k1 k2 k3 : Nat) : Prop := (∀ j, (Value.slice p1 R.l.length k1).ownBlock = some j → j < C) ∧ (∀ j, (Value.slice p2 R.ks.length k2).ownBlock = some j → j < C) ∧ (∀ j, (Value.slice p3 R.to.length k3).ownBlock = some j → j < C)
theorem RoLow.mono {C D : Nat} {p1 p2 p3 : Option Addr} {R : RoL} {k1 k2 k3 : Nat} (h : RoLow C p1 p2 p3 R k1 k2 k3) (hC : C ≤ D) : RoLow D p1 p2 p3 R k1 k2 k3 := ⟨fun j hj => Nat.lt_of_lt_of_le (h.1 j hj) hC, fun j hj => Nat.lt_of_lt_of_le (h.2.1 j hj) hC, fun j hj => Nat.lt_of_lt_of_le (h.2.2 j hj) hC⟩
theorem own_low10 {α : Type} {enc : α → List Value} {W W2 : World} {B C e size : Nat} {v : Value} {xs : List α} (h : OwnC enc W B e size v xs) (hb : Below C W W2) (hl : ∀ j, v.ownBlock = some j → j < C) : OwnC enc W2 B e size v xs := by
  refine ⟨h.1, ?_⟩
  rcases h.2 with h0 | ⟨g, c, cur, q1, q2, q3, q4⟩
  · exact .inl h0
  · exact .inr ⟨g, c, cur, q1, q2, (hb.block g (hl g (by rw [q1]; rfl))).trans q3, q4⟩
theorem RoBox.low {b B C : Nat} {W W2 : World} {R : RoL} {p1 : Option Addr} {k1 : Nat} {p2 : Option Addr} {k2 : Nat} {p3 : Option Addr} {k3 : Nat} (h : RoBox b B W R p1 k1 p2 k2 p3 k3) (hb : Below C W W2) (hC : b < C) (hl : RoLow C p1 p2 p3 R k1 k2 k3) : RoBox b B W2 R p1 k1 p2 k2 p3 k3 :=
  ⟨(hb.block b hC).trans h.1, own_low10 h.2.1 hb hl.1, own_low10 h.2.2.1 hb hl.2.1, own_low10 h.2.2.2 hb hl.2.2⟩
end Go.Proofs.YtafdjjdmcnlddaaGreat

namespace Go.Proofs.YtafdjjdmcnlddaaGreat
set_option linter.unusedSimpArgs false
set_option linter.unusedVariables false
open Go.RowKit Go.Joins

/-- Rows of two types lie in two blocks. -/
theorem own_two10 {α β : Type} {enc : α → List Value} {fnc : β → List Value} {w : World} {B C e f s t : Nat} {v u : Value} {xs : List α} {ys : List β} (h : OwnC enc w B e s v xs) (k : OwnC fnc w C f t u ys) (hne : e ≠ f) : ∀ i, v.ownBlock = some i → u.ownBlock ≠ some i := by
  intro i hi hu
  rcases k.2 with ⟨h0, _⟩ | ⟨g, c, cur, q1, _, q3, _⟩
  · rw [h0] at hu; cases hu
  · rw [q1] at hu
    injection hu with hu
    subst hu
    exact own_ne10 h (b := g) (t := f) (cs := cur.toList) (by unfold Arr; simpa using q3) hne g hi rfl
/-- A drawn mailbox in the making. -/
def MxS (w W : World) (B g b : Nat) (xs : List SeL) (p : Option Addr) (k : Nat) (ys : List MsL) (q : Option Addr) (l : Nat) : Prop :=
  Src W B g ∧ w.grownBy W (some g) ∧ OwnC seC W w.heap.size 40 4 (.slice p xs.length k) xs ∧ OwnC msC W w.heap.size 28 6 (.slice q ys.length l) ys ∧ w.heap.size ≤ b ∧ Arr W b 26 [.slice p xs.length k, .slice q ys.length l]
theorem MxS.on {w W W2 : World} {B g b : Nat} {xs : List SeL} {p : Option Addr} {k : Nat} {ys : List MsL} {q : Option Addr} {l : Nat} (h : MxS w W B g b xs p k ys q l) (hb : Below W.heap.size W W2) : MxS w W2 B g b xs p k ys q l :=
  ⟨h.1.on hb, grown_on h.2.1 hb, h.2.2.1.on hb, h.2.2.2.1.on hb, h.2.2.2.2.1, arr9_on h.2.2.2.2.2 hb⟩
theorem MxS.src {w W W2 : World} {B g b : Nat} {xs : List SeL} {p : Option Addr} {k : Nat} {ys : List MsL} {q : Option Addr} {l : Nat} (h : MxS w W B g b xs p k ys q l) (hS : Src W2 B g) (hg : W.grownBy W2 (some g)) (hlt : g < w.heap.size) : MxS w W2 B g b xs p k ys q l :=
  ⟨hS, grown_same h.2.1 hg, own_grown9 h.2.2.1 hg hlt, own_grown9 h.2.2.2.1 hg hlt, h.2.2.2.2.1, arr_grown9 h.2.2.2.2.2 hg (by have := h.2.2.2.2.1; omega)⟩
theorem mxs_app {w W W2 : World} {B g b : Nat} {xs : List SeL} {p : Option Addr} {k : Nat} {ys ys2 : List MsL} {q : Option Addr} {l : Nat} {o : Obj} {v : Value} (h : MxS w W B g b xs p k ys q l) (hlt : g < w.heap.size) (hv : OwnC msC W2 w.heap.size 28 6 v ys2) (hg : (W.alloc o).grownBy W2 (Value.slice q ys.length l).ownBlock) :
    ∃ q4 l4, v = .slice q4 ys2.length l4 ∧ MxS w (W2.setCell ⟨b, 1, none⟩ (.slice q4 ys2.length l4)) B g b xs p k ys2 q4 l4 ∧ Arr W2 b 26 [.slice p xs.length k, .slice q ys.length l] := by
  obtain ⟨q4, l4, e⟩ := own_lenM hv rfl
  obtain ⟨a1, a2, a3, a4, a5, a6⟩ := h
  have hb := own_base a4
  have hB := a1.1
  have hl := a1.lt
  have s1 : Src W2 B g := (a1.alloc o).other hg (fun q hq => by have := hb q hq; omega) (by rw [World.size_alloc]; omega) (fun q hq => by have := hb q hq; omega)
  have s2 : w.grownBy W2 (some g) := grown_over (grown_alloc a2 o) hg hb
  have n0 := own_two10 a3 a4 (by decide)
  have s3 : OwnC seC W2 w.heap.size 40 4 (.slice p xs.length k) xs := by
    have a3' := a3.alloc o
    refine ⟨a3'.1, ?_⟩
    rcases a3'.2 with h0 | ⟨j, c, cur, h1, h2, h3, h4⟩
    · exact .inl h0
    · exact .inr ⟨j, c, cur, h1, h2, (hg.block j (Array.getElem?_eq_some_iff.1 h3).1 (fun e => n0 j (by rw [h1]; rfl) e.symm)).trans h3, h4⟩
  have s6 : Arr W2 b 26 [.slice p xs.length k, .slice q ys.length l] := (hg.block b (by rw [World.size_alloc]; have := arr9_lt a6; omega) (fun e => own_ne10 a4 a6 (by decide) b e.symm rfl)).trans (a6.alloc o)
  subst e
  have n1 := own_ne10 s3 s6 (by decide)
  have n2 := own_ne10 hv s6 (by decide)
  exact ⟨q4, l4, rfl, ⟨s1.set b 1 _ (by omega) (by omega), grown_new s2 b 1 _ a5, own_grownN s3 (grown_setb W2 b 1 _) n1, own_grownN hv (grown_setb W2 b 1 _) n2, a5, s6.put 1 _⟩, s6⟩
/-- What l10Mailbox answers. -/
def MxD (w : World) (B g : Nat) (e : Ending) (W : World) : Prop := ∃ xs p k ys q l, e = .returned (.agg #[.slice p xs.length k, .slice q ys.length l]) ∧ Src W B g ∧ w.grownBy W (some g) ∧ OwnC seC W w.heap.size 40 4 (.slice p xs.length k) xs ∧ OwnC msC W w.heap.size 28 6 (.slice q ys.length l) ys ∧ (xs.length ≤ 6 ∧ ∀ x ∈ xs, x.r.size ≤ 100 ∧ x.s.size ≤ 100) ∧ ys.length ≤ 5 ∧ MsS ys
set_option maxRecDepth 100000 in
set_option maxHeartbeats 8000000 in
theorem draw_mbox (B g : Nat) (w : World) (hS : Src w B g) :
    Calls Tryz.prog 30 #[.pointer (some ⟨g, 0, none⟩)] w fun e w' => MxD w B g e w' := by
  have hlt := hS.lt
  have hBg := hS.1
  have HS := Lib.hid hS
  clear hS
  go_enter Tryz.func30, Tryz.ntmps30
  go_wp2_with fail
  refine (draw_sess B g _ (HS.out.alloc _)).mono ?_
  rintro e w1 ⟨xs, p, k, rfl, hs, hl, hw⟩
  have HW := Lib.hid (And.intro hl hw)
  have hA := (Below.refl w1.heap.size w1).alloc (Nat.le_refl _) (.cells #[.slice p xs.length k, .slice none 0 0] 26)
  have HM1 : Hid (MxS (w.alloc (.cells #[.slice none 0 0, .slice none 0 0] 26)) (w1.alloc (.cells #[.slice p xs.length k, .slice none 0 0] 26)) B g w1.heap.size xs p k [] none 0) :=
    Lib.hid ⟨hs.1.on hA, grown_on hs.2.1 hA, hs.2.2.on hA, ownC_nil _ _ _ _ _, hs.2.1.size, Arr.fresh w1 _ _⟩
  clear hs hl hw hA
  obtain ⟨n, hxn⟩ : ∃ n, xs.length = n := ⟨_, rfl⟩
  have HN := Lib.hid hxn
  rw [hxn]
  go_wp2_with fail
  rw [hxn] at HM1
  obtain ⟨b, hbe⟩ : ∃ b, w1.heap.size = b := ⟨_, rfl⟩
  obtain ⟨v1, hv1⟩ : ∃ v, w1.alloc (.cells #[.slice p n k, .slice none 0 0] 26) = v := ⟨_, rfl⟩
  obtain ⟨wz, hwz⟩ : ∃ v, w.alloc (.cells #[.slice none 0 0, .slice none 0 0] 26) = v := ⟨_, rfl⟩
  have hzz : wz.heap.size = w.heap.size + 1 := by rw [← hwz]; exact World.size_alloc ..
  have HZ : Hid (Arr wz w.heap.size 26 [.slice none 0 0, .slice none 0 0] ∧ w.grownBy wz (some g)) := Lib.hid (by rw [← hwz]; exact ⟨Arr.fresh w _ _, World.grownBy_alloc w _ _⟩)
  rw [hv1] at HM1 ⊢
  rw [hwz, hbe] at HM1
  try rw [hbe]
  clear hv1 hwz hbe hxn HS
  refine (src_n B g 7 _ (by omega) HM1.out.1).mono ?_
  rintro e v2 ⟨_, rfl, ⟨z0, rfl, hz0, hz1⟩, hS2, hg2⟩
  have HM2 := Lib.hid (HM1.out.src hS2 hg2 (by omega))
  clear hS2 hg2 HM1
  go_wp2_with fail
  go_loopw [4, 5] (fun kq xq wr => ∃ (ys : List MsL) (q : Option Addr) (l m : Nat) (z : Int), kq = .int .i64 z ∧ 0 ≤ z ∧ z ≤ 7 ∧ m = ys.length ∧ m ≤ 5 ∧ MxS wz wr B g b xs p k ys q l ∧ MsS ys) (fun z _ _ => (intOf z).toNat)
  case atStart => exact ⟨[], none, 0, 0, z0, rfl, hz0, by omega, rfl, by omega, HM2.out, fun x hx => by cases hx⟩
  case round =>
    obtain ⟨ys, q, l, m, z, rfl, hz, hz7, hm, hm5, hs, hw⟩ := hrel
    have HM := Lib.hid hs
    have HY := Lib.hid hw
    have HL := Lib.hid hm
    obtain ⟨⟨c0, c1⟩, f0, f1⟩ := arr9_two hs.2.2.2.2.2
    rw [HN.out] at c0
    rw [← hm] at c1
    clear hs hw hm
    by_cases h0 : 0 < z
    · by_cases h5 : m < 5
      · go_wp2_with fail
        refine (src_ms B g wr HM.out.1).mono ?_
        rintro e w4 ⟨s, rfl, hs, hS4, hg4⟩
        have HM4 := Lib.hid (HM.out.src hS4 hg4 (by omega))
        have hs1 := hs s (List.mem_singleton.2 rfl)
        clear hS4 hg4 HM c0 c1 f0 f1 hs
        have HX5 : Hid (Arr (w4.alloc (.cells #[.string s.k, .string s.t, .string s.f, .string s.o, .int .i64 s.n, .string s.b] 28)) w4.heap.size 28 [.string s.k, .string s.t, .string s.f, .string s.o, .int .i64 s.n, .string s.b]) := Lib.hid (Arr.fresh w4 _ _)
        have HM5 := Lib.hid (HM4.out.on ((Below.refl w4.heap.size w4).alloc (Nat.le_refl _) (.cells #[.string s.k, .string s.t, .string s.f, .string s.o, .int .i64 s.n, .string s.b] 28)))
        have hx4 : wz.heap.size ≤ w4.heap.size := HM4.out.2.1.size
        obtain ⟨⟨a0, a1, a2, a3, a4, a5⟩, e0, e1, e2, e3, e4, e5⟩ := arr_six0 HX5.out
        go_wp2_with fail
        have hM6 := HM5.out
        have HYS : Hid (MsS (ys ++ [(⟨⟨#[109, 101, 115, 115, 97, 103, 101]⟩, s.t, s.f, s.o, s.n, s.b⟩ : MsL)])) := Lib.hid (fun y hy => (List.mem_append.1 hy).elim (HY.out y) (fun hy => by obtain rfl := List.mem_singleton.1 hy; exact ⟨⟨by show (7 : Nat) ≤ 40; omega, hs1.1.2⟩, hs1.2⟩))
        have HX6 : Hid (Arr (w4.alloc (.cells #[.string ⟨#[109, 101, 115, 115, 97, 103, 101]⟩, .string s.t, .string s.f, .string s.o, .int .i64 s.n, .string s.b] 28)) w4.heap.size 28 [.string ⟨#[109, 101, 115, 115, 97, 103, 101]⟩, .string s.t, .string s.f, .string s.o, .int .i64 s.n, .string s.b]) := Lib.hid (Arr.fresh w4 _ _)
        have HM6 := Lib.hid (HM4.out.on ((Below.refl w4.heap.size w4).alloc (Nat.le_refl _) (.cells #[.string ⟨#[109, 101, 115, 115, 97, 103, 101]⟩, .string s.t, .string s.f, .string s.o, .int .i64 s.n, .string s.b] 28)))
        obtain ⟨⟨z1, z2, z3, z4, z5⟩, z6, z7⟩ := hs1
        have i1 := fun W => spec_stright ⟨#[109, 101, 115, 115, 97, 103, 101]⟩ s.t s.f s.o s.n s.b W (by unfold maxLen; omega) (by omega) (by omega) (by unfold maxLen; omega)
        obtain ⟨b1, hb1⟩ : ∃ b', stB ⟨#[109, 101, 115, 115, 97, 103, 101]⟩ s.t s.f s.o s.n s.b = b' := ⟨_, rfl⟩
        rw [hb1] at i1
        obtain ⟨bx, hbx⟩ : ∃ b', w4.heap.size = b' := ⟨_, rfl⟩
        obtain ⟨y5, hy5⟩ : ∃ v, w4.alloc (.cells #[.string ⟨#[109, 101, 115, 115, 97, 103, 101]⟩, .string s.t, .string s.f, .string s.o, .int .i64 s.n, .string s.b] 28) = v := ⟨_, rfl⟩
        rw [hy5] at HX6 HM6 ⊢
        rw [hbx] at HX6 hx4
        try rw [hbx]
        clear hM6 HM5 HM4 HX5 hb1 hbx hy5 a0 a1 a2 a3 a4 a5 e0 e1 e2 e3 e4 e5 z1 z2 z3 z4 z5 z6 z7
        go_fit (i1 _)
        rintro e w6 ⟨rfl, hb6⟩
        have HM7 := Lib.hid (HM6.out.on hb6)
        have HX7 := Lib.hid (arr9_on HX6.out hb6)
        clear hb6 HM6 HX6 i1 HY
        cases b1
        · go_wp2_with fail
          refine (src_one B g 20 _ (by omega) HM7.out.1).mono ?_
          rintro e w8 ⟨_, rfl, ⟨bo, rfl⟩, hS8, hg8⟩
          have HM8 := Lib.hid (HM7.out.src hS8 hg8 (by omega))
          have HX8 := Lib.hid (arr_grown9 HX7.out hg8 (by omega))
          clear hS8 hg8 HM7 HX7
          cases bo
          · go_wp2_with fail
            go_roundw
            case rel => exact ⟨ys, q, l, m, z - 1, by go_num, by omega, by omega, HL.out, by omega, HM8.out, fun y hy => HYS.out y (List.mem_append_left _ hy)⟩
            case measure => simp [intOf]; omega
          · obtain ⟨⟨c0, c1⟩, f0, f1⟩ := arr9_two HM8.out.2.2.2.2.2
            rw [HN.out] at c0
            rw [← HL.out] at c1
            obtain ⟨⟨a0, a1, a2, a3, a4, a5⟩, e0, e1, e2, e3, e4, e5⟩ := arr_six0 HX8.out
            go_wp2_with (at_builtin; refine wpList_plain rfl fun K hK => ?_; refine wp_app_oneM _ _ rfl wz.heap.size _ ys rfl (by rw [HL.out]; exact HM8.out.2.2.2.1.alloc _) w8.heap.size (⟨⟨#[109, 101, 115, 115, 97, 103, 101]⟩, s.t, s.f, s.o, s.n, s.b⟩ : MsL) rfl (Arr.fresh w8 28 (msC (⟨⟨#[109, 101, 115, 115, 97, 103, 101]⟩, s.t, s.f, s.o, s.n, s.b⟩ : MsL))) (by have := HL.out; omega) (by rw [World.size_alloc]; have := HM8.out.2.1.size; omega) ?_; intro v9 w9 hv9 hg9; rw [HL.out] at hg9; obtain ⟨q9, l9, e9, hm9, ha9⟩ := mxs_app HM8.out (by omega) hv9 hg9; subst e9; clear hv9 hg9; obtain ⟨m9, hm9l⟩ : ∃ m, (ys ++ [(⟨⟨#[109, 101, 115, 115, 97, 103, 101]⟩, s.t, s.f, s.o, s.n, s.b⟩ : MsL)]).length = m := ⟨_, rfl⟩; rw [hm9l] at hm9 ⊢; have HM9 := Lib.hid hm9; have HL9 := Lib.hid hm9l; obtain ⟨⟨c0, c1⟩, f0, f1⟩ := arr9_two ha9; rw [HN.out] at c0; rw [← HL.out] at c1; clear hm9 hm9l ha9; refine hK _ _ ?_)
            go_roundw
            case rel => exact ⟨ys ++ [(⟨⟨#[109, 101, 115, 115, 97, 103, 101]⟩, s.t, s.f, s.o, s.n, s.b⟩ : MsL)], q9, l9, m9, z - 1, by go_num, by omega, by omega, HL9.out.symm, by have h1 := HL9.out; have h2 := HL.out; rw [List.length_append] at h1; simp only [List.length_cons, List.length_nil] at h1; omega, HM9.out, HYS.out⟩
            case measure => simp [intOf]; omega
        · obtain ⟨⟨c0, c1⟩, f0, f1⟩ := arr9_two HM7.out.2.2.2.2.2
          rw [HN.out] at c0
          rw [← HL.out] at c1
          obtain ⟨⟨a0, a1, a2, a3, a4, a5⟩, e0, e1, e2, e3, e4, e5⟩ := arr_six0 HX7.out
          go_wp2_with (at_builtin; refine wpList_plain rfl fun K hK => ?_; refine wp_app_oneM _ _ rfl wz.heap.size _ ys rfl (by rw [HL.out]; exact HM7.out.2.2.2.1.alloc _) w6.heap.size (⟨⟨#[109, 101, 115, 115, 97, 103, 101]⟩, s.t, s.f, s.o, s.n, s.b⟩ : MsL) rfl (Arr.fresh w6 28 (msC (⟨⟨#[109, 101, 115, 115, 97, 103, 101]⟩, s.t, s.f, s.o, s.n, s.b⟩ : MsL))) (by have := HL.out; omega) (by rw [World.size_alloc]; have := HM7.out.2.1.size; omega) ?_; intro v9 w9 hv9 hg9; rw [HL.out] at hg9; obtain ⟨q9, l9, e9, hm9, ha9⟩ := mxs_app HM7.out (by omega) hv9 hg9; subst e9; clear hv9 hg9; obtain ⟨m9, hm9l⟩ : ∃ m, (ys ++ [(⟨⟨#[109, 101, 115, 115, 97, 103, 101]⟩, s.t, s.f, s.o, s.n, s.b⟩ : MsL)]).length = m := ⟨_, rfl⟩; rw [hm9l] at hm9 ⊢; have HM9 := Lib.hid hm9; have HL9 := Lib.hid hm9l; obtain ⟨⟨c0, c1⟩, f0, f1⟩ := arr9_two ha9; rw [HN.out] at c0; rw [← HL.out] at c1; clear hm9 hm9l ha9; refine hK _ _ ?_)
          go_roundw
          case rel => exact ⟨ys ++ [(⟨⟨#[109, 101, 115, 115, 97, 103, 101]⟩, s.t, s.f, s.o, s.n, s.b⟩ : MsL)], q9, l9, m9, z - 1, by go_num, by omega, by omega, HL9.out.symm, by have h1 := HL9.out; have h2 := HL.out; rw [List.length_append] at h1; simp only [List.length_cons, List.length_nil] at h1; omega, HM9.out, HYS.out⟩
          case measure => simp [intOf]; omega
      · have hR := HZ.out.1.other HM.out.2.1 (fun e => by injection e; omega)
        obtain ⟨⟨p0, p1⟩, r0, r1⟩ := arr9_two hR
        have hbz := HM.out.2.2.2.2.1
        have hne : b ≠ w.heap.size := by omega
        have n1 : ∀ j, (Value.slice p xs.length k).ownBlock = some j → w.heap.size ≠ j := fun j hj => by have := own_base HM.out.2.2.1 j hj; omega
        have n2 : ∀ j, (Value.slice q ys.length l).ownBlock = some j → w.heap.size ≠ j := fun j hj => by have := own_base HM.out.2.2.2.1 j hj; omega
        have HN1 := Lib.hid n1
        have HN2 := Lib.hid n2
        clear hR n1 n2
        go_wp2
        exact bodyPost_ret (v := .agg #[.slice p n k, .slice q m l]) (by simp [results, Tryz.results30, go_sem, p0, p1]; try omega) rfl ⟨xs, p, k, ys, q, l, by rw [HN.out, HL.out], (HM.out.1.set w.heap.size 0 _ (by omega) (by omega)).set w.heap.size 1 _ (by omega) (by omega), grown_new (grown_new (grown_same HZ.out.2 HM.out.2.1) w.heap.size 0 _ (Nat.le_refl _)) w.heap.size 1 _ (Nat.le_refl _), (own_grownN (own_grownN HM.out.2.2.1 (grown_setb _ w.heap.size 0 _) HN1.out) (grown_setb _ w.heap.size 1 _) HN1.out).mono (by omega), (own_grownN (own_grownN HM.out.2.2.2.1 (grown_setb _ w.heap.size 0 _) HN2.out) (grown_setb _ w.heap.size 1 _) HN2.out).mono (by omega), HW.out, by have := HL.out; omega, HY.out⟩
    · have hz00 : z = 0 := by omega
      subst hz00
      have hR := HZ.out.1.other HM.out.2.1 (fun e => by injection e; omega)
      obtain ⟨⟨p0, p1⟩, r0, r1⟩ := arr9_two hR
      have hbz := HM.out.2.2.2.2.1
      have hne : b ≠ w.heap.size := by omega
      have n1 : ∀ j, (Value.slice p xs.length k).ownBlock = some j → w.heap.size ≠ j := fun j hj => by have := own_base HM.out.2.2.1 j hj; omega
      have n2 : ∀ j, (Value.slice q ys.length l).ownBlock = some j → w.heap.size ≠ j := fun j hj => by have := own_base HM.out.2.2.2.1 j hj; omega
      have HN1 := Lib.hid n1
      have HN2 := Lib.hid n2
      clear hR n1 n2
      go_wp2
      exact bodyPost_ret (v := .agg #[.slice p n k, .slice q m l]) (by simp [results, Tryz.results30, go_sem, p0, p1]; try omega) rfl ⟨xs, p, k, ys, q, l, by rw [HN.out, HL.out], (HM.out.1.set w.heap.size 0 _ (by omega) (by omega)).set w.heap.size 1 _ (by omega) (by omega), grown_new (grown_new (grown_same HZ.out.2 HM.out.2.1) w.heap.size 0 _ (Nat.le_refl _)) w.heap.size 1 _ (Nat.le_refl _), (own_grownN (own_grownN HM.out.2.2.1 (grown_setb _ w.heap.size 0 _) HN1.out) (grown_setb _ w.heap.size 1 _) HN1.out).mono (by omega), (own_grownN (own_grownN HM.out.2.2.2.1 (grown_setb _ w.heap.size 0 _) HN2.out) (grown_setb _ w.heap.size 1 _) HN2.out).mono (by omega), HW.out, by have := HL.out; omega, HY.out⟩
end Go.Proofs.YtafdjjdmcnlddaaGreat

namespace Go.Proofs.YtafdjjdmcnlddaaGreat
set_option linter.unusedSimpArgs false
set_option linter.unusedVariables false
open Go.RowKit Go.Joins

theorem som_small : (∀ s ∈ [(⟨#[]⟩ : ByteArray), ⟨#[47, 104, 111, 109, 101]⟩, ⟨#[47, 119, 111, 114, 107]⟩, ⟨#[47, 120]⟩], s.size ≤ 5) ∧ (∀ s ∈ [(⟨#[97]⟩ : ByteArray), ⟨#[]⟩, ⟨#[65]⟩], s.size ≤ 5) := by
  constructor
  · intro s hs
    simp at hs
    rcases hs with rfl | rfl | rfl | rfl <;> decide
  · intro s hs
    simp at hs
    rcases hs with rfl | rfl | rfl <;> decide
set_option maxRecDepth 100000 in
set_option maxHeartbeats 2000000 in
theorem draw_some (kind : ByteArray) (hk : kind.size ≤ 40) (B g : Nat) (w : World) (hS : Src w B g) :
    Calls Tryz.prog 31 #[.pointer (some ⟨g, 0, none⟩), .string kind] w fun e w' => ∃ s : MsL, e = .returned (.agg #[.string s.k, .string s.t, .string s.f, .string s.o, .int .i64 s.n, .string s.b]) ∧ MsS [s] ∧ Src w' B g ∧ w.grownBy w' (some g) := by
  have hgw : g < w.heap.size := hS.lt
  have hBg : B ≤ g := hS.1
  have HS := Lib.hid hS
  clear hS
  have Q1 := Lib.hid som_small.1
  have Q2 := Lib.hid som_small.2
  go_enter Tryz.func31, Tryz.ntmps31
  go_wp2_with fail
  refine (src_ms B g _ (HS.out.alloc _)).mono ?_
  rintro e w1 ⟨s, rfl, hs, hS1, hg1⟩
  have hz1 := hg1.size
  try simp at hz1
  obtain ⟨⟨z1, z2, z3, z4, z5⟩, z6, z7⟩ := hs s (List.mem_singleton.2 rfl)
  have G0 : (w.alloc (.cells #[.string ⟨#[]⟩, .string ⟨#[]⟩, .string ⟨#[]⟩, .string ⟨#[]⟩, .int .i64 0, .string ⟨#[]⟩] 28)).grownBy w1 (some g) := hg1
  clear hg1 hs HS
  have HJ : Hid (Arr (w1.alloc (.cells #[.string s.k, .string s.t, .string s.f, .string s.o, .int .i64 s.n, .string s.b] 28)) w1.heap.size 28 [.string s.k, .string s.t, .string s.f, .string s.o, .int .i64 s.n, .string s.b]) := Lib.hid (Arr.fresh w1 _ _)
  obtain ⟨⟨a0, a1, a2, a3, a4, a5⟩, e0, e1, e2, e3, e4, e5⟩ := arr_six0 HJ.out
  go_wp2_with fail
  obtain ⟨y1, hy1⟩ : ∃ v, w1.alloc (.cells #[.string kind, .string s.t, .string s.f, .string s.o, .int .i64 s.n, .string s.b] 28) = v := ⟨_, rfl⟩
  have hA1 : Arr y1 w1.heap.size 28 [.string kind, .string s.t, .string s.f, .string s.o, .int .i64 s.n, .string s.b] := by rw [← hy1]; exact Arr.fresh w1 _ _
  have hS2 : Src y1 B g := by rw [← hy1]; exact hS1.alloc _
  have hG2 := by have := grown_alloc G0 (.cells #[.string kind, .string s.t, .string s.f, .string s.o, .int .i64 s.n, .string s.b] 28); rw [hy1] at this; exact this
  have hyz : y1.heap.size = w1.heap.size + 1 := by rw [← hy1]; exact World.size_alloc ..
  rw [hy1, ← hyz]
  clear hy1 HJ a0 a1 a2 a3 a4 a5 e0 e1 e2 e3 e4 e5 hS1 G0
  refine (src_pick B g y1.heap.size 4 5 _ (by omega) (by omega) (hS2.alloc _) (by omega) (strRow_at y1 9 5 _ [⟨#[]⟩, ⟨#[47, 104, 111, 109, 101]⟩, ⟨#[47, 119, 111, 114, 107]⟩, ⟨#[47, 120]⟩] rfl Q1.out)).mono ?_
  rintro e w3 ⟨_, rfl, ⟨x, rfl, hx⟩, hS3, hg3⟩
  have hA3 := (hA1.alloc (.cells #[.string ⟨#[]⟩, .string ⟨#[47, 104, 111, 109, 101]⟩, .string ⟨#[47, 119, 111, 114, 107]⟩, .string ⟨#[47, 120]⟩] 9)).other hg3 (fun e => by injection e; omega)
  have hG3 := grown_same (grown_alloc hG2 _) hg3
  have hz3 := hg3.size
  try simp at hz3
  clear hA1 hS2 hG2 hg3
  obtain ⟨xo, hxo⟩ : ∃ xo, (⟨#[97, 110, 110, 64, 97]⟩ : ByteArray) ++ x = xo := ⟨_, rfl⟩
  have hxs : xo.size ≤ 40 := by rw [← hxo, ByteArray.size_append]; show 5 + _ ≤ 40; omega
  obtain ⟨⟨a0, a1, a2, a3, a4, a5⟩, e0, e1, e2, e3, e4, e5⟩ := arr_six0 hA3
  obtain ⟨bx, hbx⟩ : ∃ b, w1.heap.size = b := ⟨_, rfl⟩
  rw [hbx] at hA3 a0 a1 a2 a3 a4 a5 e0 e1 e2 e3 e4 e5 hyz hz1 ⊢
  go_wp2_with fail
  have hS4 := hS3.set bx 3 (.string xo) (by omega) (by omega)
  have hG4 := grown_new hG3 bx 3 (.string xo) (by rw [World.size_alloc]; omega)
  have hA4 : Arr (w3.setCell ⟨bx, 3, none⟩ (.string xo)) bx 28 [.string kind, .string s.t, .string s.f, .string xo, .int .i64 s.n, .string s.b] := hA3.put 3 _
  obtain ⟨y4, hy4⟩ : ∃ v, w3.setCell ⟨bx, 3, none⟩ (.string xo) = v := ⟨_, rfl⟩
  rw [hy4] at hS4 hG4 hA4 ⊢
  clear hy4 hS3 hG3 hA3 a0 a1 a2 a3 a4 a5 e0 e1 e2 e3 e4 e5 hxo
  refine (src_one B g 12 _ (by omega) hS4).mono ?_
  rintro e w5 ⟨_, rfl, ⟨q, rfl⟩, hS5, hg5⟩
  have hA5 := hA4.other hg5 (fun e => by injection e; omega)
  have hG5 := grown_same hG4 hg5
  have hz5 := hg5.size
  try simp at hz5
  have hbw := arr9_lt hA5
  clear hS4 hG4 hA4 hg5
  cases q
  · have hR : Arr w5 w.heap.size 28 [.string ⟨#[]⟩, .string ⟨#[]⟩, .string ⟨#[]⟩, .string ⟨#[]⟩, .int .i64 0, .string ⟨#[]⟩] := (Arr.fresh w 28 [.string ⟨#[]⟩, .string ⟨#[]⟩, .string ⟨#[]⟩, .string ⟨#[]⟩, .int .i64 0, .string ⟨#[]⟩]).other hG5 (fun e => by injection e; omega)
    obtain ⟨⟨c0, c1, c2, c3, c4, c5⟩, d0, d1, d2, d3, d4, d5⟩ := arr_six0 hA5
    obtain ⟨⟨p0, p1, p2, p3, p4, p5⟩, f0, f1, f2, f3, f4, f5⟩ := arr_six0 hR
    have hne : bx ≠ w.heap.size := by omega
    have HG := Lib.hid (grown_same (grown_alloc (World.grownBy.refl w (some g)) _) hG5)
    have HSx := Lib.hid hS5
    clear hR hA5 hG5 hS5
    go_wp2
    exact bodyPost_ret (v := .agg #[.string kind, .string s.t, .string s.f, .string xo, .int .i64 s.n, .string s.b]) (by simp [results, Tryz.results31, go_sem, p0, p1, p2, p3, p4, p5]; try omega) rfl ⟨⟨kind, s.t, s.f, xo, s.n, s.b⟩, rfl, fun y hy => by obtain rfl := List.mem_singleton.1 hy; exact ⟨⟨hk, z2, z3, by show xo.size ≤ 40; omega, z5⟩, z6, z7⟩, src_set6 HSx.out _ (by omega) (by omega) _ _ _ _ _ _, grown_put6 HG.out _ (Nat.le_refl _) _ _ _ _ _ _⟩
  · go_wp2_with fail
    refine (src_pick B g w5.heap.size 3 5 _ (by omega) (by omega) (hS5.alloc _) (by have := hS5.lt; omega) (strRow_at w5 9 5 _ [⟨#[97]⟩, ⟨#[]⟩, ⟨#[65]⟩] rfl Q2.out)).mono ?_
    rintro e w6 ⟨_, rfl, ⟨x2, rfl, hx2⟩, hS6, hg6⟩
    have hA6 := (hA5.alloc (.cells #[.string ⟨#[97]⟩, .string ⟨#[]⟩, .string ⟨#[65]⟩] 9)).other hg6 (fun e => by injection e; omega)
    have hG6 := grown_same (grown_alloc hG5 _) hg6
    clear hA5 hG5 hS5 hg6
    have hR : Arr w6 w.heap.size 28 [.string ⟨#[]⟩, .string ⟨#[]⟩, .string ⟨#[]⟩, .string ⟨#[]⟩, .int .i64 0, .string ⟨#[]⟩] := (Arr.fresh w 28 [.string ⟨#[]⟩, .string ⟨#[]⟩, .string ⟨#[]⟩, .string ⟨#[]⟩, .int .i64 0, .string ⟨#[]⟩]).other hG6 (fun e => by injection e; omega)
    obtain ⟨⟨c0, c1, c2, c3, c4, c5⟩, d0, d1, d2, d3, d4, d5⟩ := arr_six0 hA6
    obtain ⟨⟨p0, p1, p2, p3, p4, p5⟩, f0, f1, f2, f3, f4, f5⟩ := arr_six0 hR
    have hne : bx ≠ w.heap.size := by omega
    have HG := Lib.hid (grown_new (grown_same (grown_alloc (World.grownBy.refl w (some g)) _) hG6) bx 3 (.string x2) (by omega))
    have HSx := Lib.hid (hS6.set bx 3 (.string x2) (by omega) (by omega))
    clear hR hA6 hG6 hS6
    go_wp2
    exact bodyPost_ret (v := .agg #[.string kind, .string s.t, .string s.f, .string x2, .int .i64 s.n, .string s.b]) (by simp [results, Tryz.results31, go_sem, p0, p1, p2, p3, p4, p5]; try omega) rfl ⟨⟨kind, s.t, s.f, x2, s.n, s.b⟩, rfl, fun y hy => by obtain rfl := List.mem_singleton.1 hy; exact ⟨⟨hk, z2, z3, by show x2.size ≤ 40; omega, z5⟩, z6, z7⟩, src_set6 HSx.out _ (by omega) (by omega) _ _ _ _ _ _, grown_put6 HG.out _ (Nat.le_refl _) _ _ _ _ _ _⟩
end Go.Proofs.YtafdjjdmcnlddaaGreat

namespace Go.Proofs.YtafdjjdmcnlddaaGreat
set_option linter.unusedSimpArgs false
set_option linter.unusedVariables false
open Go.RowKit Go.Joins

theorem grown_two (W : World) (b : Nat) (x0 x1 : Value) : W.grownBy ((W.setCell ⟨b, 0, none⟩ x0).setCell ⟨b, 1, none⟩ x1) (some b) := grown_same (grown_setb W b 0 x0) (grown_setb _ b 1 x1)
theorem grown_six (W : World) (b : Nat) (x0 x1 x2 x3 x4 x5 : Value) : W.grownBy (put6 W b x0 x1 x2 x3 x4 x5) (some b) :=
  grown_same (grown_same (grown_same (grown_same (grown_same (grown_setb W b 0 x0) (grown_setb _ b 1 x1)) (grown_setb _ b 2 x2)) (grown_setb _ b 3 x3)) (grown_setb _ b 4 x4)) (grown_setb _ b 5 x5)
/-- The two boxes of the answer are written. -/
theorem mr_done {w W : World} {B r : Nat} {xs : List SeL} {p : Option Addr} {k n : Nat} {ys : List MsL} {q : Option Addr} {l m : Nat} {t u c0 c1 d0 d1 d2 d3 d4 d5 x0 x1 x2 x3 x4 x5 : Value} {t1 t2 : Nat}
    (hB : Below w.heap.size w W) (hr : w.heap.size = r) (hx : OwnC seC W B 40 4 (.slice p n k) xs) (hy : OwnC msC W B 28 6 (.slice q m l) ys) (hBr : r + 2 ≤ B) (ha : Arr W r t1 [c0, c1]) (hc : Arr W (r + 1) t2 [d0, d1, d2, d3, d4, d5]) :
    let W2 := put6 ((W.setCell ⟨r, 0, none⟩ t).setCell ⟨r, 1, none⟩ u) (r + 1) x0 x1 x2 x3 x4 x5
    Arr W2 r t1 [t, u] ∧ Arr W2 (r + 1) t2 [x0, x1, x2, x3, x4, x5] ∧ OwnC seC W2 B 40 4 (.slice p n k) xs ∧ OwnC msC W2 B 28 6 (.slice q m l) ys ∧ Below w.heap.size w W2 := by
  intro W2
  have g1 := grown_two W r t u
  have g2 := grown_six ((W.setCell ⟨r, 0, none⟩ t).setCell ⟨r, 1, none⟩ u) (r + 1) x0 x1 x2 x3 x4 x5
  have hc1 := arr_grown9 hc g1 (by omega)
  have hx1 : ∀ j, (Value.slice p n k).ownBlock = some j → r ≠ j := fun j hj => by have := own_base hx j hj; omega
  have hx2 : ∀ j, (Value.slice p n k).ownBlock = some j → r + 1 ≠ j := fun j hj => by have := own_base hx j hj; omega
  have hy1 : ∀ j, (Value.slice q m l).ownBlock = some j → r ≠ j := fun j hj => by have := own_base hy j hj; omega
  have hy2 : ∀ j, (Value.slice q m l).ownBlock = some j → r + 1 ≠ j := fun j hj => by have := own_base hy j hj; omega
  exact ⟨arr_grown9 ((ha.put 0 t).put 1 u) g2 (by omega), (((((hc1.put 0 x0).put 1 x1).put 2 x2).put 3 x3).put 4 x4).put 5 x5, own_grownN (own_grownN hx g1 hx1) g2 hx2, own_grownN (own_grownN hy g1 hy1) g2 hy2,
    (hB.grown g1 hB.size (fun q hq => by injection hq; omega)).grown g2 (Nat.le_trans hB.size g1.size) (fun q hq => by injection hq; omega)⟩
/-- A drawn mailbox and a drawn stanza. -/
def MrD (B : Nat) (e : Ending) (W : World) : Prop := ∃ xs p k ys q l s, e = .returned (.tuple #[.agg #[.slice p xs.length k, .slice q ys.length l], .agg #[.string s.k, .string s.t, .string s.f, .string s.o, .int .i64 s.n, .string s.b]]) ∧ OwnC seC W B 40 4 (.slice p xs.length k) xs ∧ OwnC msC W B 28 6 (.slice q ys.length l) ys ∧ (xs.length ≤ 6 ∧ ∀ x ∈ xs, x.r.size ≤ 100 ∧ x.s.size ≤ 100) ∧ ys.length ≤ 5 ∧ MsS ys ∧ MsS [s]
set_option maxRecDepth 100000 in
set_option maxHeartbeats 4000000 in
theorem draw_riq (a : Option Addr) (len cap : Nat) (w : World) (hlen : len ≤ 1048576) (hrow : SrcRow w w.heap.size a len) :
    Calls Tryz.prog 20 #[.slice a len cap] w fun e w' => MrD w.heap.size e w' ∧ Below w.heap.size w w' := by
  have HT0 := Lib.hid (((Below.refl w.heap.size w).alloc (Nat.le_refl _) (.cells #[.slice none 0 0, .slice none 0 0] 26)).alloc (by simp) (.cells #[.string ⟨#[]⟩, .string ⟨#[]⟩, .string ⟨#[]⟩, .string ⟨#[]⟩, .int .i64 0, .string ⟨#[]⟩] 28))
  obtain ⟨wz, hwz⟩ : ∃ v, (w.alloc (.cells #[.slice none 0 0, .slice none 0 0] 26)).alloc (.cells #[.string ⟨#[]⟩, .string ⟨#[]⟩, .string ⟨#[]⟩, .string ⟨#[]⟩, .int .i64 0, .string ⟨#[]⟩] 28) = v := ⟨_, rfl⟩
  have HA0 : Hid (Arr wz w.heap.size 26 [.slice none 0 0, .slice none 0 0] ∧ Arr wz (w.heap.size + 1) 28 [.string ⟨#[]⟩, .string ⟨#[]⟩, .string ⟨#[]⟩, .string ⟨#[]⟩, .int .i64 0, .string ⟨#[]⟩]) := Lib.hid (by
    rw [← hwz]
    refine ⟨(Arr.fresh w _ _).alloc _, ?_⟩
    have h := Arr.fresh (w.alloc (.cells #[.slice none 0 0, .slice none 0 0] 26)) 28 [.string ⟨#[]⟩, .string ⟨#[]⟩, .string ⟨#[]⟩, .string ⟨#[]⟩, .int .i64 0, .string ⟨#[]⟩]
    rw [World.size_alloc] at h
    exact h)
  have HWZ : Hid (wz.heap.size = w.heap.size + 2) := Lib.hid (by rw [← hwz, World.size_alloc, World.size_alloc])
  rw [hwz] at HT0
  have HR := Lib.hid (fun W (h : Below w.heap.size w W) => (hrow.lift h h.size : SrcRow W W.heap.size a len))
  clear hrow
  go_enter Tryz.func20, Tryz.ntmps20
  go_wp2_with fail
  clear hwz
  refine (src_source a len cap _ hlen (HR.out _ HT0.out)).mono ?_
  rintro e w1 ⟨rfl, hS1, hb1⟩
  have hlt := hS1.lt
  go_wp2_with fail
  refine (draw_mbox wz.heap.size wz.heap.size w1 hS1).mono ?_
  rintro e w2 ⟨xs, p, k, ys, q, l, rfl, hS2, hg2, hx, hy, hxw, hyl, hyw⟩
  have HXW := Lib.hid (And.intro hxw (And.intro hyl hyw))
  have HB2 := Lib.hid (below_grown hb1 hb1.size hg2 (Nat.le_refl _))
  have HS2 := Lib.hid hS2
  have HX2 := Lib.hid hx
  have HY2 := Lib.hid hy
  have hw12 : w1.heap.size ≤ w2.heap.size := hg2.size
  have hw01 : wz.heap.size ≤ w1.heap.size := hb1.size
  clear hS1 hb1 hS2 hg2 hx hy hxw hyl hyw
  obtain ⟨n, hxn⟩ : ∃ n, xs.length = n := ⟨_, rfl⟩
  obtain ⟨m, hym⟩ : ∃ m, ys.length = m := ⟨_, rfl⟩
  have HN := Lib.hid hxn
  have HM := Lib.hid hym
  rw [hxn] at HX2 ⊢
  rw [hym] at HY2 ⊢
  clear hxn hym
  have hA := Lib.hid ((Below.refl w2.heap.size w2).alloc (Nat.le_refl _) (.cells #[.slice p n k, .slice q m l] 26))
  have hF : Hid (Arr (w2.alloc (.cells #[.slice p n k, .slice q m l] 26)) w2.heap.size 26 [.slice p n k, .slice q m l]) := Lib.hid (Arr.fresh w2 _ _)
  go_wp2_with fail
  obtain ⟨b, hbb⟩ : ∃ b, w2.heap.size = b := ⟨_, rfl⟩
  obtain ⟨wb, hwb⟩ : ∃ v, w2.alloc (.cells #[.slice p n k, .slice q m l] 26) = v := ⟨_, rfl⟩
  have HBb := Lib.hid (HB2.out.trans (hA.out.mono HB2.out.size))
  have HSb := Lib.hid (HS2.out.on hA.out)
  have HXb := Lib.hid (HX2.out.on hA.out)
  have HYb := Lib.hid (HY2.out.on hA.out)
  rw [hwb] at HBb HSb HXb HYb hF ⊢
  rw [hbb] at hF hw12
  try rw [hbb]
  clear hA HB2 HS2 HX2 HY2 hbb hwb
  have hbg : b ≠ wz.heap.size := by omega
  refine region_join [10, 11, 12] (fun vs W => ∃ s : MsL, MsS [s] ∧ (Arr W w.heap.size 26 [.slice p n k, .slice q m l] ∧ Arr W (w.heap.size + 1) 28 [.string s.k, .string s.t, .string s.f, .string s.o, .int .i64 s.n, .string s.b] ∧ OwnC seC W w1.heap.size 40 4 (.slice p n k) xs ∧ OwnC msC W w1.heap.size 28 6 (.slice q m l) ys ∧ Below w.heap.size w W)) ?_ ?_
  · refine wp_region_held_drew (S := fun W => Arr W b 26 [.slice p n k, .slice q m l]) (by kernel_rfl) (arr9_on hF.out (Below.refl _ _).drew) (fun hHeld => ?_)
    have HF0 := Lib.hid (arr9_on hF.out (Below.refl _ _).drew)
    have HB0 := Lib.hid (HBb.out.trans ((Below.refl wb.heap.size wb).drew.mono HBb.out.size))
    have HS0 := Lib.hid (HSb.out.on (Below.refl _ _).drew)
    have HX0 := Lib.hid (HXb.out.on (Below.refl _ _).drew)
    have HY0 := Lib.hid (HYb.out.on (Below.refl _ _).drew)
    generalize wb.drew = wd at HF0 HB0 HS0 HX0 HY0 hHeld ⊢
    refine takeQ (i := 0) (k := 10) (v := .agg #[.slice p n k, .slice q m l]) rfl (by rfl) (by kernel_rfl) (by kernel_rfl) (by kernel_rfl) (fun _ _ _ h => h) (by rfl) ?_ hHeld ?_
    · intro w1 hSw; obtain ⟨⟨m0, m1⟩, _⟩ := arr9_two hSw; go_simp
    (try simp only [Act.put, List.setIfInBounds_toArray, List.set_cons_zero, List.set_cons_succ])
    refine takeQ (i := 1) (k := 11) (v := .pointer (some ⟨wz.heap.size, 0, none⟩)) rfl (by rfl) (by kernel_rfl) (by kernel_rfl) (by kernel_rfl) (fun _ _ _ h => h) (by rfl) ?_ hHeld ?_
    · intro w1 hSw; go_simp
    (try simp only [Act.put, List.setIfInBounds_toArray, List.set_cons_zero, List.set_cons_succ])
    refine wpAnyH_ready (rs := [2]) (by kernel_rfl) (by simp) ?_
    refine AllReadyH.cons rfl (fun K hK => ?_) AllReadyH.nil
    rw [if_pos (by rfl)]
    go_simp
    go_fit (draw_some ⟨#[105, 113]⟩ (by decide) wz.heap.size wz.heap.size _ HS0.out)
    rintro e W1 ⟨s, rfl, hs, hS1, hg1⟩
    have HF1 := Lib.hid (arr_grown9 HF0.out hg1 hbg)
    have HB1 := Lib.hid (below_grown HB0.out HB0.out.size hg1 (Nat.le_refl _))
    have HX1 := Lib.hid (own_grown9 HX0.out hg1 hlt)
    have HY1 := Lib.hid (own_grown9 HY0.out hg1 hlt)
    have HSS := Lib.hid hs
    clear hS1 hg1 HF0 HB0 HS0 HX0 HY0 hs
    have HR1 := Lib.hid (And.intro (arr9_on HA0.out.1 HB1.out) (arr9_on HA0.out.2 HB1.out))
    refine hK.out _ _ HF1.out (fun hHeld => ?_)
    clear hK K
    (try simp only [Act.put, List.setIfInBounds_toArray, List.set_cons_zero, List.set_cons_succ])
    have hD := mr_done (w := w) (W := W1) (B := w1.heap.size) (t := .slice p n k) (u := .slice q m l) (x0 := .string s.k) (x1 := .string s.t) (x2 := .string s.f) (x3 := .string s.o) (x4 := .int .i64 s.n) (x5 := .string s.b) (HT0.out.trans (HB1.out.mono HT0.out.size)) rfl HX1.out HY1.out (by have := HWZ.out; omega) HR1.out.1 HR1.out.2
    have HD := Lib.hid hD
    have HFw : Hid (b ≠ w.heap.size ∧ b ≠ w.heap.size + 1) := Lib.hid (by have := HWZ.out; omega)
    have HF2 := Lib.hid (arr_grown9 HF1.out (grown_two W1 w.heap.size (.slice p n k) (.slice q m l)) HFw.out.1)
    have HF3 := Lib.hid (arr_grown9 HF2.out (grown_six _ (w.heap.size + 1) (.string s.k) (.string s.t) (.string s.f) (.string s.o) (.int .i64 s.n) (.string s.b)) HFw.out.2)
    have HC1 := Lib.hid (arr_grown9 HR1.out.2 (grown_two W1 w.heap.size (.slice p n k) (.slice q m l)) (by omega))
    clear hD HFw
    refine wpAnyH_ready (rs := [3]) (by kernel_rfl) (by simp) ?_
    refine AllReadyH.cons rfl (fun K hK => ?_) AllReadyH.nil
    rw [if_pos (by rfl)]
    obtain ⟨⟨m0, m1⟩, f0, f1⟩ := arr9_two HR1.out.1
    go_simp
    refine hK.out _ _ HF2.out (fun hHeld => ?_)
    clear hK K m0 m1 f0 f1
    (try simp only [Act.put, List.setIfInBounds_toArray, List.set_cons_zero, List.set_cons_succ])
    refine wpAnyH_ready (rs := [4]) (by kernel_rfl) (by simp) ?_
    refine AllReadyH.cons rfl (fun K hK => ?_) AllReadyH.nil
    rw [if_pos (by rfl)]
    obtain ⟨⟨a0, a1, a2, a3, a4, a5⟩, e0, e1, e2, e3, e4, e5⟩ := arr_six0 HC1.out
    go_simp
    refine hK.out _ _ HF3.out (fun hHeld => ?_)
    clear hK K
    (try simp only [Act.put, List.setIfInBounds_toArray, List.set_cons_zero, List.set_cons_succ])
    refine wpAnyH_done (by kernel_rfl) ?_ _
    exact ⟨⟨s, HSS.out, HD.out⟩, by simp only [putAll, Act.put, List.setIfInBounds_toArray, List.set_cons_zero, List.set_cons_succ]; rfl⟩
  · rintro vs W9 ⟨s, hss, hA1, hA2, hx9, hy9, hB9⟩
    have HX9 := Lib.hid hx9
    have HY9 := Lib.hid hy9
    have HB9 := Lib.hid hB9
    have HSS := Lib.hid hss
    obtain ⟨⟨p0, p1⟩, _⟩ := arr9_two hA1
    obtain ⟨⟨a0, a1, a2, a3, a4, a5⟩, _⟩ := arr_six0 hA2
    have hwle : w.heap.size ≤ w1.heap.size := by have := HWZ.out; omega
    simp only [putAll, Act.put, List.foldl, List.setIfInBounds_toArray, List.set_cons_zero, List.set_cons_succ]
    clear hss hA1 hA2 hx9 hy9 hB9
    go_wp2_with fail
    exact bodyPost_ret (v := .tuple #[.agg #[.slice p n k, .slice q m l], .agg #[.string s.k, .string s.t, .string s.f, .string s.o, .int .i64 s.n, .string s.b]]) (by simp [results, Tryz.results20, go_sem, p0, p1, a0, a1, a2, a3, a4, a5]) rfl ⟨⟨xs, p, k, ys, q, l, s, by rw [HN.out, HM.out], by rw [HN.out]; exact HX9.out.mono hwle, by rw [HM.out]; exact HY9.out.mono hwle, HXW.out.1, HXW.out.2.1, HXW.out.2.2, HSS.out⟩, HB9.out⟩
end Go.Proofs.YtafdjjdmcnlddaaGreat

namespace Go.Proofs.YtafdjjdmcnlddaaGreat
set_option linter.unusedSimpArgs false
set_option linter.unusedVariables false
open Go.RowKit

/-- What stands all along: the box of the argument. -/
def ScS (w : World) (k t f o : ByteArray) (n : Int) (b : ByteArray) (W : World) : Prop := (W.cell? ⟨w.heap.size, 0, none⟩ = some (.string k) ∧ W.cell? ⟨w.heap.size, 1, none⟩ = some (.string t) ∧ W.cell? ⟨w.heap.size, 2, none⟩ = some (.string f) ∧ W.cell? ⟨w.heap.size, 3, none⟩ = some (.string o) ∧ W.cell? ⟨w.heap.size, 4, none⟩ = some (.int .i64 n) ∧ W.cell? ⟨w.heap.size, 5, none⟩ = some (.string b)) ∧ (Below w.heap.size w W ∧ Arr W w.heap.size 28 [.string k, .string t, .string f, .string o, .int .i64 n, .string b] ∧ w.heap.size + 2 ≤ W.heap.size)
theorem scS {w : World} {k t f o : ByteArray} {n : Int} {b : ByteArray} {W : World} (hb : Below w.heap.size w W) (h1 : Arr W w.heap.size 28 [.string k, .string t, .string f, .string o, .int .i64 n, .string b]) (h3 : w.heap.size + 2 ≤ W.heap.size) : ScS w k t f o n b W := ⟨(arr_six0 h1).1, hb, h1, h3⟩
theorem scS_on {w : World} {k t f o : ByteArray} {n : Int} {b : ByteArray} {W W' : World} (h : ScS w k t f o n b W) (hb : Below W.heap.size W W') : ScS w k t f o n b W' := scS (h.2.1.trans (hb.mono h.2.1.size)) (arr_below h.2.2.1 hb) (Nat.le_trans h.2.2.2 hb.size)
theorem scS_put {w : World} {k t f o : ByteArray} {n : Int} {b : ByteArray} {W : World} (h : ScS w k t f o n b W) (x0 x1 x2 x3 x4 x5 : Value) : ScS w k t f o n b (put6 W (w.heap.size + 1) x0 x1 x2 x3 x4 x5) :=
  scS (below_put6 h.2.1 (Nat.le_succ _) _ _ _ _ _ _) (arr_far6 h.2.2.1 (by omega) _ _ _ _ _ _) (Nat.le_trans h.2.2.2 (below_put6 (Below.refl _ W) (Nat.zero_le (w.heap.size + 1)) x0 x1 x2 x3 x4 x5).size)
/-- What each operation has left. -/
structure ScA (w : World) (k t f o : ByteArray) (n : Int) (b : ByteArray) (b1 c1 b2 c2 b3 c3 b4 c4 b5 c5 bu : Bool) (v5 v6 v9 v10 v13 v14 v17 v18 v23 v24 v25 : Value) (W : World) : Prop where
  p1 : b1 = true → OneStr W v5 k
  q1 : c1 = true → v6 = .string k
  p2 : b2 = true → OneStr W v9 t
  q2 : c2 = true → v10 = .string t
  p3 : b3 = true → OneStr W v13 f
  q3 : c3 = true → v14 = .string f
  p4 : b4 = true → OneStr W v17 o
  q4 : c4 = true → v18 = .string o
  p5 : b5 = true → OneStr W v23 b
  q5 : c5 = true → v24 = .string b
  pu : bu = true → v25 = .agg #[.string k, .string t, .string f, .string o, .int .i64 n, .string b]
  pr : Arr W (w.heap.size + 1) 28 [.string ⟨#[]⟩, .string ⟨#[]⟩, .string ⟨#[]⟩, .string ⟨#[]⟩, .int .i64 0, .string ⟨#[]⟩]
theorem ScA.on {w : World} {k t f o : ByteArray} {n : Int} {b : ByteArray} {b1 c1 b2 c2 b3 c3 b4 c4 b5 c5 bu : Bool} {v5 v6 v9 v10 v13 v14 v17 v18 v23 v24 v25 : Value} {W W' : World} (h : ScA w k t f o n b b1 c1 b2 c2 b3 c3 b4 c4 b5 c5 bu v5 v6 v9 v10 v13 v14 v17 v18 v23 v24 v25 W) (hb : Below W.heap.size W W') : ScA w k t f o n b b1 c1 b2 c2 b3 c3 b4 c4 b5 c5 bu v5 v6 v9 v10 v13 v14 v17 v18 v23 v24 v25 W' :=
  { h with
    p1 := fun e => (h.p1 e).on hb
    p2 := fun e => (h.p2 e).on hb
    p3 := fun e => (h.p3 e).on hb
    p4 := fun e => (h.p4 e).on hb
    p5 := fun e => (h.p5 e).on hb
    pr := arr_below h.pr hb }
/-- The invariant of the region. -/
def ScInv (w : World) (k t f o : ByteArray) (n : Int) (b : ByteArray) (listed : Array Bool) (a : Act) (W : World) : Prop :=
  ∃ (b1 c1 b2 c2 b3 c3 b4 c4 b5 c5 bu st : Bool) (v5 v6 v9 v10 v13 v14 v17 v18 v23 v24 v25 : Value), listed = #[true, true, b1, c1, true, true, b2, c2, true, true, b3, c3, true, true, b4, c4, true, true, true, true, b5, c5, bu, st] ∧
    a = { tmps := #[.agg #[.string k, .string t, .string f, .string o, .int .i64 n, .string b], .pointer (some ⟨w.heap.size, 0, none⟩), .pointer (some ⟨w.heap.size + 1, 0, none⟩), .pointer (some ⟨w.heap.size, 0, none⟩), .string k, v5, v6, .pointer (some ⟨w.heap.size, 1, none⟩), .string t, v9, v10, .pointer (some ⟨w.heap.size, 2, none⟩), .string f, v13, v14, .pointer (some ⟨w.heap.size, 3, none⟩), .string o, v17, v18, .pointer (some ⟨w.heap.size, 4, none⟩), .int .i64 n, .pointer (some ⟨w.heap.size, 5, none⟩), .string b, v23, v24, v25], defers := [] } ∧ ScS w k t f o n b W ∧ (st = false → ScA w k t f o n b b1 c1 b2 c2 b3 c3 b4 c4 b5 c5 bu v5 v6 v9 v10 v13 v14 v17 v18 v23 v24 v25 W) ∧
    (st = true → b1 = true ∧ c1 = true ∧ b2 = true ∧ c2 = true ∧ b3 = true ∧ c3 = true ∧ b4 = true ∧ c4 = true ∧ b5 = true ∧ c5 = true ∧ bu = true) ∧ (st = true → Arr W (w.heap.size + 1) 28 [.string k, .string t, .string f, .string o, .int .i64 n, .string b])
set_option maxRecDepth 100000 in
set_option maxHeartbeats 4000000 in
theorem impl_stcopy (k t f o : ByteArray) (n : Int) (b : ByteArray) (w : World) (hk : k.size ≤ 2000000) (ht : t.size ≤ 2000000) (hf : f.size ≤ 2000000) (ho : o.size ≤ 2000000) (hbz : b.size ≤ 2000000) :
    Calls Tryz.prog 59 #[.agg #[.string k, .string t, .string f, .string o, .int .i64 n, .string b]] w fun e w' => e = .returned (.agg #[.string k, .string t, .string f, .string o, .int .i64 n, .string b]) ∧ Below w.heap.size w w' := by
  go_enter Tryz.func59, Tryz.ntmps59
  go_wp2
  have hR0 := Arr.fresh (w.alloc (.cells #[.string k, .string t, .string f, .string o, .int .i64 n, .string b] 28)) 28 [.string ⟨#[]⟩, .string ⟨#[]⟩, .string ⟨#[]⟩, .string ⟨#[]⟩, .int .i64 0, .string ⟨#[]⟩]
  rw [World.size_alloc] at hR0
  have hS0 : ScS w k t f o n b ((w.alloc (.cells #[.string k, .string t, .string f, .string o, .int .i64 n, .string b] 28)).alloc (.cells #[.string ⟨#[]⟩, .string ⟨#[]⟩, .string ⟨#[]⟩, .string ⟨#[]⟩, .int .i64 0, .string ⟨#[]⟩] 28)).drew :=
    scS (((Below.refl w.heap.size w).alloc (Nat.le_refl _) _).alloc (by simp) _).drew (arr_alloc (Arr.fresh w _ _) _) (by simp [size_drew])
  have hR1 := arr_below hR0 (Below.refl _ _).drew
  refine wp_region_held_drew (S := (fun W => ScS w k t f o n b W)) (by kernel_rfl) hS0 (fun hHeld => ?_)
  clear hS0 hR0
  generalize ((w.alloc (.cells #[.string k, .string t, .string f, .string o, .int .i64 n, .string b] 28)).alloc (.cells #[.string ⟨#[]⟩, .string ⟨#[]⟩, .string ⟨#[]⟩, .string ⟨#[]⟩, .int .i64 0, .string ⟨#[]⟩] 28)).drew = V at hHeld hR1 ⊢
  refine takeH (i := 0) (k := 3) (v := .pointer (some ⟨w.heap.size, 0, none⟩)) rfl (by rfl) (by kernel_rfl) (by kernel_rfl) (by kernel_rfl) (fun _ _ _ h => h) (by rfl) ?_ hHeld ?_
  · intro w1 hSw; obtain ⟨⟨p0, p1, p2, p3, p4, p5⟩, _⟩ := hSw; go_simp
  (try simp only [Act.put, List.setIfInBounds_toArray, List.set_cons_zero, List.set_cons_succ])
  refine takeH (i := 1) (k := 4) (v := .string k) rfl (by rfl) (by kernel_rfl) (by kernel_rfl) (by kernel_rfl) (fun _ _ _ h => h) (by rfl) ?_ hHeld ?_
  · intro w1 hSw; obtain ⟨⟨p0, p1, p2, p3, p4, p5⟩, _⟩ := hSw; go_simp
  (try simp only [Act.put, List.setIfInBounds_toArray, List.set_cons_zero, List.set_cons_succ])
  refine takeH (i := 4) (k := 7) (v := .pointer (some ⟨w.heap.size, 1, none⟩)) rfl (by rfl) (by kernel_rfl) (by kernel_rfl) (by kernel_rfl) (fun _ _ _ h => h) (by rfl) ?_ hHeld ?_
  · intro w1 hSw; obtain ⟨⟨p0, p1, p2, p3, p4, p5⟩, _⟩ := hSw; go_simp
  (try simp only [Act.put, List.setIfInBounds_toArray, List.set_cons_zero, List.set_cons_succ])
  refine takeH (i := 5) (k := 8) (v := .string t) rfl (by rfl) (by kernel_rfl) (by kernel_rfl) (by kernel_rfl) (fun _ _ _ h => h) (by rfl) ?_ hHeld ?_
  · intro w1 hSw; obtain ⟨⟨p0, p1, p2, p3, p4, p5⟩, _⟩ := hSw; go_simp
  (try simp only [Act.put, List.setIfInBounds_toArray, List.set_cons_zero, List.set_cons_succ])
  refine takeH (i := 8) (k := 11) (v := .pointer (some ⟨w.heap.size, 2, none⟩)) rfl (by rfl) (by kernel_rfl) (by kernel_rfl) (by kernel_rfl) (fun _ _ _ h => h) (by rfl) ?_ hHeld ?_
  · intro w1 hSw; obtain ⟨⟨p0, p1, p2, p3, p4, p5⟩, _⟩ := hSw; go_simp
  (try simp only [Act.put, List.setIfInBounds_toArray, List.set_cons_zero, List.set_cons_succ])
  refine takeH (i := 9) (k := 12) (v := .string f) rfl (by rfl) (by kernel_rfl) (by kernel_rfl) (by kernel_rfl) (fun _ _ _ h => h) (by rfl) ?_ hHeld ?_
  · intro w1 hSw; obtain ⟨⟨p0, p1, p2, p3, p4, p5⟩, _⟩ := hSw; go_simp
  (try simp only [Act.put, List.setIfInBounds_toArray, List.set_cons_zero, List.set_cons_succ])
  refine takeH (i := 12) (k := 15) (v := .pointer (some ⟨w.heap.size, 3, none⟩)) rfl (by rfl) (by kernel_rfl) (by kernel_rfl) (by kernel_rfl) (fun _ _ _ h => h) (by rfl) ?_ hHeld ?_
  · intro w1 hSw; obtain ⟨⟨p0, p1, p2, p3, p4, p5⟩, _⟩ := hSw; go_simp
  (try simp only [Act.put, List.setIfInBounds_toArray, List.set_cons_zero, List.set_cons_succ])
  refine takeH (i := 13) (k := 16) (v := .string o) rfl (by rfl) (by kernel_rfl) (by kernel_rfl) (by kernel_rfl) (fun _ _ _ h => h) (by rfl) ?_ hHeld ?_
  · intro w1 hSw; obtain ⟨⟨p0, p1, p2, p3, p4, p5⟩, _⟩ := hSw; go_simp
  (try simp only [Act.put, List.setIfInBounds_toArray, List.set_cons_zero, List.set_cons_succ])
  refine takeH (i := 16) (k := 19) (v := .pointer (some ⟨w.heap.size, 4, none⟩)) rfl (by rfl) (by kernel_rfl) (by kernel_rfl) (by kernel_rfl) (fun _ _ _ h => h) (by rfl) ?_ hHeld ?_
  · intro w1 hSw; obtain ⟨⟨p0, p1, p2, p3, p4, p5⟩, _⟩ := hSw; go_simp
  (try simp only [Act.put, List.setIfInBounds_toArray, List.set_cons_zero, List.set_cons_succ])
  refine takeH (i := 17) (k := 20) (v := .int .i64 n) rfl (by rfl) (by kernel_rfl) (by kernel_rfl) (by kernel_rfl) (fun _ _ _ h => h) (by rfl) ?_ hHeld ?_
  · intro w1 hSw; obtain ⟨⟨p0, p1, p2, p3, p4, p5⟩, _⟩ := hSw; go_simp
  (try simp only [Act.put, List.setIfInBounds_toArray, List.set_cons_zero, List.set_cons_succ])
  refine takeH (i := 18) (k := 21) (v := .pointer (some ⟨w.heap.size, 5, none⟩)) rfl (by rfl) (by kernel_rfl) (by kernel_rfl) (by kernel_rfl) (fun _ _ _ h => h) (by rfl) ?_ hHeld ?_
  · intro w1 hSw; obtain ⟨⟨p0, p1, p2, p3, p4, p5⟩, _⟩ := hSw; go_simp
  (try simp only [Act.put, List.setIfInBounds_toArray, List.set_cons_zero, List.set_cons_succ])
  refine takeH (i := 19) (k := 22) (v := .string b) rfl (by rfl) (by kernel_rfl) (by kernel_rfl) (by kernel_rfl) (fun _ _ _ h => h) (by rfl) ?_ hHeld ?_
  · intro w1 hSw; obtain ⟨⟨p0, p1, p2, p3, p4, p5⟩, _⟩ := hSw; go_simp
  (try simp only [Act.put, List.setIfInBounds_toArray, List.set_cons_zero, List.set_cons_succ])
  refine any_order (ScInv w k t f o n b) ?step ?done _ _ _ _ (of_decide_eq_true (by kernel_rfl)) ?start
  case start => exact ⟨false, false, false, false, false, false, false, false, false, false, false, false, _, _, _, _, _, _, _, _, _, _, _, rfl, rfl, hHeld, fun _ => by constructor <;> first | exact hR1 | (intro h; cases h), fun h => (by cases h), fun h => by cases h⟩
  case step =>
    rintro listed a W i ⟨b1, c1, b2, c2, b3, c3, b4, c4, b5, c5, bu, st, v5, v6, v9, v10, v13, v14, v17, v18, v23, v24, v25, rfl, rfl, hS, hA, hT, hE⟩ hi
    obtain ⟨hlt, hun, hdep⟩ := ready_spec hi
    clear hi
    have hlt' : i < 24 := hlt
    clear hlt
    have h23 : i = 0 ∨ i = 1 ∨ i = 2 ∨ i = 3 ∨ i = 4 ∨ i = 5 ∨ i = 6 ∨ i = 7 ∨ i = 8 ∨ i = 9 ∨ i = 10 ∨ i = 11 ∨ i = 12 ∨ i = 13 ∨ i = 14 ∨ i = 15 ∨ i = 16 ∨ i = 17 ∨ i = 18 ∨ i = 19 ∨ i = 20 ∨ i = 21 ∨ i = 22 ∨ i = 23 := by omega
    rcases h23 with rfl | rfl | rfl | rfl | rfl | rfl | rfl | rfl | rfl | rfl | rfl | rfl | rfl | rfl | rfl | rfl | rfl | rfl | rfl | rfl | rfl | rfl | rfl | rfl
    · cases (show true = false from hun)
    · cases (show true = false from hun)
    · have hun2 : b1 = false := hun
      subst hun2
      obtain rfl : st = false := by
        cases st
        · rfl
        · have := hT rfl; simp at this
      have hA := hA rfl
      clear hdep hun hE hT
      refine wpOp_step rfl (fun K hK => ?_)
      rw [if_pos (by rfl)]
      go_simp
      have hb : Below W.heap.size W (W.alloc (.cells #[.string k] 9)) := (Below.refl _ W).alloc (Nat.le_refl _) _
      exact hK _ _ ⟨scS_on hS hb, true, c1, b2, c2, b3, c3, b4, c4, b5, c5, bu, false, _, v6, v9, v10, v13, v14, v17, v18, v23, v24, v25, rfl, rfl, scS_on hS hb, fun _ => { hA.on hb with p1 := fun _ => oneStr_new W k _ }, fun e => (by cases e), fun e => by cases e⟩
    · have hun2 : c1 = false := hun
      subst hun2
      obtain rfl : st = false := by
        cases st
        · rfl
        · have := hT rfl; simp at this
      have hA := hA rfl
      obtain rfl : b1 = true := by cases b1 with | false => exact absurd hdep (by simp [Region.binds]) | true => rfl
      have hj := (hA.p1 rfl).joined (by omega)
      clear hdep hun hE hT
      refine wpOp_step rfl (fun K hK => ?_)
      rw [if_pos (by rfl)]
      go_simp
      go_fit hj
      rintro e w1 ⟨rfl, hb⟩
      clear hj
      exact hK _ _ ⟨scS_on hS hb, true, true, b2, c2, b3, c3, b4, c4, b5, c5, bu, false, v5, _, v9, v10, v13, v14, v17, v18, v23, v24, v25, rfl, rfl, scS_on hS hb, fun _ => { hA.on hb with q1 := fun _ => rfl }, fun e => (by cases e), fun e => by cases e⟩
    · cases (show true = false from hun)
    · cases (show true = false from hun)
    · have hun2 : b2 = false := hun
      subst hun2
      obtain rfl : st = false := by
        cases st
        · rfl
        · have := hT rfl; simp at this
      have hA := hA rfl
      clear hdep hun hE hT
      refine wpOp_step rfl (fun K hK => ?_)
      rw [if_pos (by rfl)]
      go_simp
      have hb : Below W.heap.size W (W.alloc (.cells #[.string t] 9)) := (Below.refl _ W).alloc (Nat.le_refl _) _
      exact hK _ _ ⟨scS_on hS hb, b1, c1, true, c2, b3, c3, b4, c4, b5, c5, bu, false, v5, v6, _, v10, v13, v14, v17, v18, v23, v24, v25, rfl, rfl, scS_on hS hb, fun _ => { hA.on hb with p2 := fun _ => oneStr_new W t _ }, fun e => (by cases e), fun e => by cases e⟩
    · have hun2 : c2 = false := hun
      subst hun2
      obtain rfl : st = false := by
        cases st
        · rfl
        · have := hT rfl; simp at this
      have hA := hA rfl
      obtain rfl : b2 = true := by cases b2 with | false => exact absurd hdep (by simp [Region.binds]) | true => rfl
      have hj := (hA.p2 rfl).joined (by omega)
      clear hdep hun hE hT
      refine wpOp_step rfl (fun K hK => ?_)
      rw [if_pos (by rfl)]
      go_simp
      go_fit hj
      rintro e w1 ⟨rfl, hb⟩
      clear hj
      exact hK _ _ ⟨scS_on hS hb, b1, c1, true, true, b3, c3, b4, c4, b5, c5, bu, false, v5, v6, v9, _, v13, v14, v17, v18, v23, v24, v25, rfl, rfl, scS_on hS hb, fun _ => { hA.on hb with q2 := fun _ => rfl }, fun e => (by cases e), fun e => by cases e⟩
    · cases (show true = false from hun)
    · cases (show true = false from hun)
    · have hun2 : b3 = false := hun
      subst hun2
      obtain rfl : st = false := by
        cases st
        · rfl
        · have := hT rfl; simp at this
      have hA := hA rfl
      clear hdep hun hE hT
      refine wpOp_step rfl (fun K hK => ?_)
      rw [if_pos (by rfl)]
      go_simp
      have hb : Below W.heap.size W (W.alloc (.cells #[.string f] 9)) := (Below.refl _ W).alloc (Nat.le_refl _) _
      exact hK _ _ ⟨scS_on hS hb, b1, c1, b2, c2, true, c3, b4, c4, b5, c5, bu, false, v5, v6, v9, v10, _, v14, v17, v18, v23, v24, v25, rfl, rfl, scS_on hS hb, fun _ => { hA.on hb with p3 := fun _ => oneStr_new W f _ }, fun e => (by cases e), fun e => by cases e⟩
    · have hun2 : c3 = false := hun
      subst hun2
      obtain rfl : st = false := by
        cases st
        · rfl
        · have := hT rfl; simp at this
      have hA := hA rfl
      obtain rfl : b3 = true := by cases b3 with | false => exact absurd hdep (by simp [Region.binds]) | true => rfl
      have hj := (hA.p3 rfl).joined (by omega)
      clear hdep hun hE hT
      refine wpOp_step rfl (fun K hK => ?_)
      rw [if_pos (by rfl)]
      go_simp
      go_fit hj
      rintro e w1 ⟨rfl, hb⟩
      clear hj
      exact hK _ _ ⟨scS_on hS hb, b1, c1, b2, c2, true, true, b4, c4, b5, c5, bu, false, v5, v6, v9, v10, v13, _, v17, v18, v23, v24, v25, rfl, rfl, scS_on hS hb, fun _ => { hA.on hb with q3 := fun _ => rfl }, fun e => (by cases e), fun e => by cases e⟩
    · cases (show true = false from hun)
    · cases (show true = false from hun)
    · have hun2 : b4 = false := hun
      subst hun2
      obtain rfl : st = false := by
        cases st
        · rfl
        · have := hT rfl; simp at this
      have hA := hA rfl
      clear hdep hun hE hT
      refine wpOp_step rfl (fun K hK => ?_)
      rw [if_pos (by rfl)]
      go_simp
      have hb : Below W.heap.size W (W.alloc (.cells #[.string o] 9)) := (Below.refl _ W).alloc (Nat.le_refl _) _
      exact hK _ _ ⟨scS_on hS hb, b1, c1, b2, c2, b3, c3, true, c4, b5, c5, bu, false, v5, v6, v9, v10, v13, v14, _, v18, v23, v24, v25, rfl, rfl, scS_on hS hb, fun _ => { hA.on hb with p4 := fun _ => oneStr_new W o _ }, fun e => (by cases e), fun e => by cases e⟩
    · have hun2 : c4 = false := hun
      subst hun2
      obtain rfl : st = false := by
        cases st
        · rfl
        · have := hT rfl; simp at this
      have hA := hA rfl
      obtain rfl : b4 = true := by cases b4 with | false => exact absurd hdep (by simp [Region.binds]) | true => rfl
      have hj := (hA.p4 rfl).joined (by omega)
      clear hdep hun hE hT
      refine wpOp_step rfl (fun K hK => ?_)
      rw [if_pos (by rfl)]
      go_simp
      go_fit hj
      rintro e w1 ⟨rfl, hb⟩
      clear hj
      exact hK _ _ ⟨scS_on hS hb, b1, c1, b2, c2, b3, c3, true, true, b5, c5, bu, false, v5, v6, v9, v10, v13, v14, v17, _, v23, v24, v25, rfl, rfl, scS_on hS hb, fun _ => { hA.on hb with q4 := fun _ => rfl }, fun e => (by cases e), fun e => by cases e⟩
    · cases (show true = false from hun)
    · cases (show true = false from hun)
    · cases (show true = false from hun)
    · cases (show true = false from hun)
    · have hun2 : b5 = false := hun
      subst hun2
      obtain rfl : st = false := by
        cases st
        · rfl
        · have := hT rfl; simp at this
      have hA := hA rfl
      clear hdep hun hE hT
      refine wpOp_step rfl (fun K hK => ?_)
      rw [if_pos (by rfl)]
      go_simp
      have hb : Below W.heap.size W (W.alloc (.cells #[.string b] 9)) := (Below.refl _ W).alloc (Nat.le_refl _) _
      exact hK _ _ ⟨scS_on hS hb, b1, c1, b2, c2, b3, c3, b4, c4, true, c5, bu, false, v5, v6, v9, v10, v13, v14, v17, v18, _, v24, v25, rfl, rfl, scS_on hS hb, fun _ => { hA.on hb with p5 := fun _ => oneStr_new W b _ }, fun e => (by cases e), fun e => by cases e⟩
    · have hun2 : c5 = false := hun
      subst hun2
      obtain rfl : st = false := by
        cases st
        · rfl
        · have := hT rfl; simp at this
      have hA := hA rfl
      obtain rfl : b5 = true := by cases b5 with | false => exact absurd hdep (by simp [Region.binds]) | true => rfl
      have hj := (hA.p5 rfl).joined (by omega)
      clear hdep hun hE hT
      refine wpOp_step rfl (fun K hK => ?_)
      rw [if_pos (by rfl)]
      go_simp
      go_fit hj
      rintro e w1 ⟨rfl, hb⟩
      clear hj
      exact hK _ _ ⟨scS_on hS hb, b1, c1, b2, c2, b3, c3, b4, c4, true, true, bu, false, v5, v6, v9, v10, v13, v14, v17, v18, v23, _, v25, rfl, rfl, scS_on hS hb, fun _ => { hA.on hb with q5 := fun _ => rfl }, fun e => (by cases e), fun e => by cases e⟩
    · have hun2 : bu = false := hun
      subst hun2
      obtain rfl : st = false := by
        cases st
        · rfl
        · have := hT rfl; simp at this
      have hA := hA rfl
      obtain rfl : c1 = true := by cases c1 with | false => exact absurd hdep (by simp [Region.binds]) | true => rfl
      obtain rfl : c2 = true := by cases c2 with | false => exact absurd hdep (by simp [Region.binds]) | true => rfl
      obtain rfl : c3 = true := by cases c3 with | false => exact absurd hdep (by simp [Region.binds]) | true => rfl
      obtain rfl : c4 = true := by cases c4 with | false => exact absurd hdep (by simp [Region.binds]) | true => rfl
      obtain rfl : c5 = true := by cases c5 with | false => exact absurd hdep (by simp [Region.binds]) | true => rfl
      obtain rfl := hA.q1 rfl
      obtain rfl := hA.q2 rfl
      obtain rfl := hA.q3 rfl
      obtain rfl := hA.q4 rfl
      obtain rfl := hA.q5 rfl
      clear hdep hun hE hT
      refine wpOp_step rfl (fun K hK => ?_)
      rw [if_pos (by rfl)]
      go_simp
      exact hK _ _ ⟨hS, b1, true, b2, true, b3, true, b4, true, b5, true, true, false, v5, _, v9, _, v13, _, v17, _, v23, _, _, rfl, rfl, hS, fun _ => { hA with pu := fun _ => rfl }, fun e => (by cases e), fun e => by cases e⟩
    · have hun2 : st = false := hun
      subst hun2
      have hA := hA rfl
      obtain rfl : b1 = true := by cases b1 with | false => exact absurd hdep (by simp [Region.binds]) | true => rfl
      obtain rfl : c1 = true := by cases c1 with | false => exact absurd hdep (by simp [Region.binds]) | true => rfl
      obtain rfl : b2 = true := by cases b2 with | false => exact absurd hdep (by simp [Region.binds]) | true => rfl
      obtain rfl : c2 = true := by cases c2 with | false => exact absurd hdep (by simp [Region.binds]) | true => rfl
      obtain rfl : b3 = true := by cases b3 with | false => exact absurd hdep (by simp [Region.binds]) | true => rfl
      obtain rfl : c3 = true := by cases c3 with | false => exact absurd hdep (by simp [Region.binds]) | true => rfl
      obtain rfl : b4 = true := by cases b4 with | false => exact absurd hdep (by simp [Region.binds]) | true => rfl
      obtain rfl : c4 = true := by cases c4 with | false => exact absurd hdep (by simp [Region.binds]) | true => rfl
      obtain rfl : b5 = true := by cases b5 with | false => exact absurd hdep (by simp [Region.binds]) | true => rfl
      obtain rfl : c5 = true := by cases c5 with | false => exact absurd hdep (by simp [Region.binds]) | true => rfl
      obtain rfl : bu = true := by cases bu with | false => exact absurd hdep (by simp [Region.binds]) | true => rfl
      obtain rfl := hA.pu rfl
      obtain ⟨⟨c0, c1, c2, c3, c4, c5⟩, f0, f1, f2, f3, f4, f5⟩ := arr_six0 hA.pr
      have HG := Lib.hid hA.pr
      have HS := Lib.hid hS
      clear hA hS
      clear hdep hun hE hT
      refine wpOp_step rfl (fun K hK => ?_)
      rw [if_pos (by rfl)]
      go_simp
      exact hK _ _ ⟨scS_put HS.out _ _ _ _ _ _, true, true, true, true, true, true, true, true, true, true, true, true, v5, v6, v9, v10, v13, v14, v17, v18, v23, v24, _, rfl, rfl, scS_put HS.out _ _ _ _ _ _, fun e => (by cases e), fun _ => ⟨rfl, rfl, rfl, rfl, rfl, rfl, rfl, rfl, rfl, rfl, rfl⟩, fun _ => arr_put6 HG.out _ _ _ _ _ _⟩
  case done =>
    rintro listed a W ⟨b1, c1, b2, c2, b3, c3, b4, c4, b5, c5, bu, st, v5, v6, v9, v10, v13, v14, v17, v18, v23, v24, v25, rfl, rfl, hS, hA, hT, hE⟩ hr
    obtain rfl : b1 = true := ready_nil hr 2 (show (2 : Nat) < 24 by decide) (by simp [Region.binds])
    obtain rfl : c1 = true := ready_nil hr 3 (show (3 : Nat) < 24 by decide) (by simp [Region.binds])
    obtain rfl : b2 = true := ready_nil hr 6 (show (6 : Nat) < 24 by decide) (by simp [Region.binds])
    obtain rfl : c2 = true := ready_nil hr 7 (show (7 : Nat) < 24 by decide) (by simp [Region.binds])
    obtain rfl : b3 = true := ready_nil hr 10 (show (10 : Nat) < 24 by decide) (by simp [Region.binds])
    obtain rfl : c3 = true := ready_nil hr 11 (show (11 : Nat) < 24 by decide) (by simp [Region.binds])
    obtain rfl : b4 = true := ready_nil hr 14 (show (14 : Nat) < 24 by decide) (by simp [Region.binds])
    obtain rfl : c4 = true := ready_nil hr 15 (show (15 : Nat) < 24 by decide) (by simp [Region.binds])
    obtain rfl : b5 = true := ready_nil hr 20 (show (20 : Nat) < 24 by decide) (by simp [Region.binds])
    obtain rfl : c5 = true := ready_nil hr 21 (show (21 : Nat) < 24 by decide) (by simp [Region.binds])
    obtain rfl : bu = true := ready_nil hr 22 (show (22 : Nat) < 24 by decide) (by simp [Region.binds])
    obtain rfl : st = true := ready_nil hr 23 (show (23 : Nat) < 24 by decide) (by simp [Region.binds])
    have hG := hE rfl
    clear hA hT hE hr
    obtain ⟨_, hB, hBox, hz⟩ := hS
    (try dsimp only)
    (try go_wp2)
    exact bodyPost_ret (v := .agg #[.string k, .string t, .string f, .string o, .int .i64 n, .string b]) (results_cell_row (P := Tryz.prog) Tryz.results59 _ _ (w.heap.size + 1) 28 _ (0, 0) _ rfl hG Tryz.underlying28 rfl (by kernel_rfl)) rfl ⟨rfl, hB⟩
end Go.Proofs.YtafdjjdmcnlddaaGreat

namespace Go.Proofs.YtafdjjdmcnlddaaGreat
set_option linter.unusedSimpArgs false
set_option linter.unusedVariables false
open Go.RowKit Go.Joins

/-- append(v, y) within the capacity. -/
theorem app_fitM (w : World) {ops : Array Oper} {rest : List Oper} {o : Oper} {a : Act} {Q : Exit → Act → World → Prop} (hgd : o.guard = none) (s x : Operand)
    (ho : o.op = Op.call { callee := Callee.builtin Builtin.append, args := #[s, x], argTypes := #[24, 24] })
    (B g k cap : Nat) (xs : List MsL) (hs : a.eval s = .slice (some ⟨g, 0, none⟩) k cap) (hown : OwnC msC w B 28 6 (.slice (some ⟨g, 0, none⟩) k cap) xs) (hk : xs.length = k) (b : Nat) (y : MsL) (hx : a.eval x = .slice (some ⟨b, 0, none⟩) 1 1) (hA : Arr w b 28 (msC y)) (hfit : k + 1 ≤ cap)
    (h : ∀ w', OwnC msC w' B 28 6 (.slice (some ⟨g, 0, none⟩) (k + 1) cap) (xs ++ [y]) → w.grownBy w' (some g) → wpList Tryz.prog ops Q rest (a.put o.dst (.slice (some ⟨g, 0, none⟩) (k + 1) cap)) w') : wpList Tryz.prog ops Q (o :: rest) a w := by
  obtain ⟨i0, hi, hz0, hz1, hz2⟩ := info_parts info_ms
  subst hk
  refine wpList_append_fits w hgd s x 24 ho B 28 i0 6 Tryz.underlying24 hi hz1 g xs.length cap (xs.flatMap msC) hs hown ⟨b, 0, none⟩ 1 1 (msC y) hx (by rw [msC_len]) (fun j u hj => ?_) (msC_one y) hfit (fun w' h1 h2 => h w' ?_ h2)
  · rw [show (⟨b, 0, none⟩ : Addr).add j = ⟨b, j, none⟩ by unfold Addr.add; split <;> simp_all, hA.cell]
    exact hj
  · unfold OwnC
    rw [List.length_append, List.flatMap_append]
    simpa using h1
set_option maxRecDepth 100000 in
set_option maxHeartbeats 2000000 in
theorem impl_mbcopy (xs : List SeL) (ys : List MsL) (p1 p2 : Option Addr) (n1 n2 c1 c2 : Nat) (w : World) (hx : xs.length = n1) (hy : ys.length = n2) (hn1 : n1 ≤ 1048576) (hn2 : n2 ≤ 1048576) (hw : SzS xs) (hw2 : SzM ys) (hR1 : RowC seC 4 w p1 xs) (hR2 : RowC msC 6 w p2 ys) :
    Calls Tryz.prog 58 #[.agg #[.slice p1 n1 c1, .slice p2 n2 c2]] w fun e w' => (∃ q1 l1 q2 l2, e = .returned (.agg #[.slice q1 n1 l1, .slice q2 n2 l2]) ∧ OwnC seC w' w.heap.size 40 4 (.slice q1 n1 l1) xs ∧ OwnC msC w' w.heap.size 28 6 (.slice q2 n2 l2) ys) ∧ Below w.heap.size w w' := by
  have HP1 := Lib.hid (fun W (h : Below w.heap.size w W) => hR1.on h)
  have HP2 := Lib.hid (fun W (h : Below w.heap.size w W) => hR2.on h)
  have i4 := fun W h => impl_sescopy xs p1 c1 W (by omega) hw h
  rw [hx] at i4
  have HW := Lib.hid hw2
  have HN := Lib.hid hy
  have HL := Lib.hid (lcb_start w p1 n1 c1 p2 n2 c2)
  clear hR1 hR2 hw hw2 hx hy
  obtain ⟨i0, hi, hz0, hz1, hz2⟩ := info_parts info_ms
  go_enter Tryz.func58, Tryz.ntmps58
  go_wp2_with (refine wpList_make_own _ rfl _ _ 24 rfl (w.heap.size + 2) 28 i0 _ 6 Tryz.underlying24 hi hz0 hz1 .i64 .i64 _ n2 rfl rfl rfl (by rw [hz2]; omega) (by unfold maxLen; omega) (by simp) ?_; intro w1 ho1 hg1; have HV1 : Hid (OwnC msC w1 (w.heap.size + 2) 28 6 (.slice (some ⟨w.heap.size + 1 + 1, 0, none⟩) 0 n2) []) := Lib.hid (by have h := ho1; simp only [World.size_alloc] at h; exact h); have HL1 : Hid (LcB w w1 p1 n1 c1 p2 n2 c2) := Lib.hid (HL.out.grow hg1 (fun k hk => by cases hk)); clear ho1 hg1; obtain ⟨⟨c0, c1_⟩, _⟩ := arr9_two HL1.out.1)
  go_loopw [3, 13] (fun sq iq wr => ∃ k : Nat, k ≤ n2 ∧ iq = .int .i64 k ∧ sq = .slice (some ⟨w.heap.size + 1 + 1, 0, none⟩) k n2 ∧ OwnC msC wr (w.heap.size + 2) 28 6 (.slice (some ⟨w.heap.size + 1 + 1, 0, none⟩) k n2) (ys.take k) ∧ LcB w wr p1 n1 c1 p2 n2 c2) (fun _ i _ => n2 - (intOf i).toNat)
  case atStart => exact ⟨0, Nat.zero_le _, rfl, by simp, HV1.out, HL1.out⟩
  case round =>
    obtain ⟨k, hk, rfl, rfl, hv, hl⟩ := hrel
    have HV := Lib.hid hv
    have HB := Lib.hid hl
    clear hv c0 c1_
    by_cases hlt : k < n2
    · have hlt1 : k < ys.length := by rw [HN.out]; exact hlt
      obtain ⟨g, rfl, hg, a0, a1, a2, a3, a4, a5⟩ := row_ms6 (HP2.out _ hl.2.2) hlt1
      have hyw := HW.out _ (List.getElem_mem hlt1)
      obtain ⟨y, hy⟩ : ∃ y, ys[k] = y := ⟨_, rfl⟩
      rw [hy] at a0 a1 a2 a3 a4 a5 hyw
      obtain ⟨s0, s1, s2, s3, s4⟩ := hyw
      have i3 := fun W => impl_stcopy y.k y.t y.f y.o y.n y.b W (by omega) (by omega) (by omega) (by omega) (by omega)
      have HT : Hid (ys.take (k + 1) = ys.take k ++ [y]) := Lib.hid (by rw [List.take_succ_eq_append_getElem hlt1, hy])
      have HLL : Hid ((ys.take k).length = k) := Lib.hid (by rw [List.length_take]; omega)
      clear hl hy
      go_wp2_with (first
        | (at_builtin; have _ := HV2; refine app_fitM _ rfl _ _ rfl (w.heap.size + 2) (w.heap.size + 1 + 1) k n2 _ rfl (HV2.out.alloc _) HLL.out w2.heap.size y rfl (Arr.fresh w2 28 (msC y)) (by omega) ?_; intro w3 hv3 hg3; have HV3 := Lib.hid hv3; have HB3 := Lib.hid ((HB2.out.on ((Below.refl _ _).alloc (Nat.le_refl _) _)).grow hg3 (fun q hq => by injection hq with hq; omega)); clear hv3 hg3)
        | (go_at_call 59; go_fit (i3 _); rintro e w2 ⟨rfl, hb2⟩; have HV2 := Lib.hid ((HV.out.alloc _).on hb2); have HB2 := Lib.hid ((HB.out.on ((Below.refl _ _).alloc (Nat.le_refl _) _)).on hb2); clear hb2))
      go_roundw
      case rel => exact ⟨k + 1, by omega, by go_num, rfl, by rw [HT.out]; exact HV3.out, HB3.out⟩
      case measure => simp [intOf]; omega
    · obtain rfl : k = n2 := by omega
      have HT : Hid (ys.take k = ys) := Lib.hid (List.take_of_length_le (by rw [HN.out]; exact Nat.le_refl _))
      obtain ⟨⟨c0, c1_⟩, _⟩ := arr9_two HB.out.1
      clear hl
      go_wp2_with (go_at_call 44; go_fit (i4 _ (HP1.out _ HB.out.2.2)); rintro e w3 ⟨⟨rfl, hv⟩, hb3⟩; have HV3 := Lib.hid hv; have HK3 := Lib.hid (HV.out.on hb3); have HB3 := Lib.hid (HB.out.on hb3); clear hb3 hv; obtain ⟨⟨e0, e1⟩, f0, f1⟩ := arr9_two HB3.out.2.1)
      have hE := (HB3.out.2.1.put 0 (.slice (some ⟨wr.heap.size, 0, none⟩) n1 n1)).put 1 (.slice (some ⟨w.heap.size + 1 + 1, 0, none⟩) k k)
      have hbig := HB.out.big
      have h1 := (HV3.out.low (a := ⟨w.heap.size + 1, 0, none⟩) (by show w.heap.size + 1 < wr.heap.size; omega) (.slice (some ⟨wr.heap.size, 0, none⟩) n1 n1)).low (a := ⟨w.heap.size + 1, 1, none⟩) (by show w.heap.size + 1 < wr.heap.size; omega) (.slice (some ⟨w.heap.size + 1 + 1, 0, none⟩) k k)
      have h2 := (HK3.out.low (a := ⟨w.heap.size + 1, 0, none⟩) (Nat.lt_succ_self _) (.slice (some ⟨wr.heap.size, 0, none⟩) n1 n1)).low (a := ⟨w.heap.size + 1, 1, none⟩) (Nat.lt_succ_self _) (.slice (some ⟨w.heap.size + 1 + 1, 0, none⟩) k k)
      rw [HT.out] at h2
      exact bodyPost_ret (v := .agg #[.slice (some ⟨wr.heap.size, 0, none⟩) n1 n1, .slice (some ⟨w.heap.size + 1 + 1, 0, none⟩) k k]) (results_cell_row (P := Tryz.prog) Tryz.results58 _ _ (w.heap.size + 1) 26 _ (0, 0) _ rfl hE Tryz.underlying26 rfl (by kernel_rfl)) rfl
        ⟨⟨_, _, _, _, rfl, h1.mono (by omega), h2.mono (by omega)⟩, (HB3.out.2.2.setCell (p := ⟨w.heap.size + 1, 0, none⟩) (Nat.le_succ _) _).setCell (p := ⟨w.heap.size + 1, 1, none⟩) (Nat.le_succ _) _⟩
end Go.Proofs.YtafdjjdmcnlddaaGreat

namespace Go.Proofs.YtafdjjdmcnlddaaGreat
set_option linter.unusedSimpArgs false
set_option linter.unusedVariables false
open Go.RowKit Go.Joins

set_option maxHeartbeats 1000000 in
theorem to_bound (xs : List SeL) (r : ByteArray) (p0 : Option Addr) (c : Nat) (w : World) (hn : xs.length ≤ 1000000) (hw : SzS xs) (hR : RowC seC 4 w p0 xs) :
    Calls Tryz.prog 85 #[.slice p0 xs.length c, .string r] w fun e w' => StIs w.heap.size (boundL r xs) e w' ∧ Below w.heap.size w w' := by
  have hb0 := (Below.refl w.heap.size w).alloc (Nat.le_refl _) (.cells #[.string r] 9)
  have i1 := resof_bound xs p0 c (w.alloc (.cells #[.string r] 9)) r w.heap.size ((Arr.fresh w 9 [.string r]).cell 0) hn hw (hR.on hb0)
  unfold boundL
  unfold StIs at i1 ⊢
  clear hR hn hw
  go_enter Tryz.func85, Tryz.ntmps85
  go_wp2_with (go_at_call 86; go_fit i1; rintro e w1 ⟨⟨p1, k1, rfl, hv⟩, hb⟩)
  go_ret
  exact ⟨⟨p1, k1, rfl, hv.mono (by simp)⟩, hb0.trans (hb.mono hb0.size)⟩
theorem rest_none (q1 : Option Addr) (n1 l1 : Nat) (q2 : Option Addr) (n2 l2 : Nat) (s : MsL) (w : World) :
    Calls Tryz.prog 50 #[.agg #[.slice q1 n1 l1, .slice q2 n2 l2], msV s] w fun e w' => e = .returned (msV zMs) ∧ Below w.heap.size w w' := by
  unfold msV
  go_enter Tryz.func50, Tryz.ntmps50
  go_wp2
  exact bodyPost_ret (v := msV zMs) (by simp [results, Tryz.results50, go_sem, msV, zMs]) rfl ⟨rfl, (((Below.refl _ _).alloc (Nat.le_refl _) _).alloc (by simp) _).alloc (by simp; omega) _⟩
/-- The three boxes of a function that says what is left. -/
def RsB (w W : World) (q1 : Option Addr) (n1 l1 : Nat) (q2 : Option Addr) (n2 l2 : Nat) (s : MsL) : Prop := Arr W w.heap.size 26 [.slice q1 n1 l1, .slice q2 n2 l2] ∧ Arr W (w.heap.size + 1) 28 [.string s.k, .string s.t, .string s.f, .string s.o, .int .i64 s.n, .string s.b] ∧ Arr W (w.heap.size + 1 + 1) 28 [.string ⟨#[]⟩, .string ⟨#[]⟩, .string ⟨#[]⟩, .string ⟨#[]⟩, .int .i64 0, .string ⟨#[]⟩] ∧ Below w.heap.size w W
theorem RsB.on {w W W2 : World} {q1 : Option Addr} {n1 l1 : Nat} {q2 : Option Addr} {n2 l2 : Nat} {s : MsL} (h : RsB w W q1 n1 l1 q2 n2 l2 s) (hb : Below W.heap.size W W2) : RsB w W2 q1 n1 l1 q2 n2 l2 s := ⟨arr9_on h.1 hb, arr9_on h.2.1 hb, arr9_on h.2.2.1 hb, h.2.2.2.trans (hb.mono h.2.2.2.size)⟩
theorem rsb_start (w : World) (q1 : Option Addr) (n1 l1 : Nat) (q2 : Option Addr) (n2 l2 : Nat) (s : MsL) : RsB w (((w.alloc (.cells #[.slice q1 n1 l1, .slice q2 n2 l2] 26)).alloc (.cells #[.string s.k, .string s.t, .string s.f, .string s.o, .int .i64 s.n, .string s.b] 28)).alloc (.cells #[.string ⟨#[]⟩, .string ⟨#[]⟩, .string ⟨#[]⟩, .string ⟨#[]⟩, .int .i64 0, .string ⟨#[]⟩] 28)) q1 n1 l1 q2 n2 l2 s := by
  have h2 := Arr.fresh (w.alloc (.cells #[.slice q1 n1 l1, .slice q2 n2 l2] 26)) 28 [.string s.k, .string s.t, .string s.f, .string s.o, .int .i64 s.n, .string s.b]
  have h3 := Arr.fresh ((w.alloc (.cells #[.slice q1 n1 l1, .slice q2 n2 l2] 26)).alloc (.cells #[.string s.k, .string s.t, .string s.f, .string s.o, .int .i64 s.n, .string s.b] 28)) 28 [.string ⟨#[]⟩, .string ⟨#[]⟩, .string ⟨#[]⟩, .string ⟨#[]⟩, .int .i64 0, .string ⟨#[]⟩]
  rw [World.size_alloc] at h2
  rw [World.size_alloc, World.size_alloc] at h3
  exact ⟨arr9_on (arr9_on (Arr.fresh w 26 [.slice q1 n1 l1, .slice q2 n2 l2]) ((Below.refl _ _).alloc (Nat.le_refl _) _)) ((Below.refl _ _).alloc (Nat.le_refl _) _), arr9_on h2 ((Below.refl _ _).alloc (Nat.le_refl _) _), h3, (((Below.refl _ _).alloc (Nat.le_refl _) _).alloc (by simp) _).alloc (by simp; omega) _⟩
set_option maxHeartbeats 1000000 in
theorem rest_unav (q1 : Option Addr) (n1 l1 : Nat) (q2 : Option Addr) (n2 l2 : Nat) (s : MsL) (w : World) (hs : s.le 1048576) (hm : MaxL w) :
    Calls Tryz.prog 63 #[.agg #[.slice q1 n1 l1, .slice q2 n2 l2], msV s] w fun e w' => e = .returned (msV (fltM s unavS)) ∧ Below w.heap.size w w' := by
  obtain ⟨s0, s1, s2, s3, s4⟩ := hs
  have i1 := fun W hm => impl_fault s.k s.t s.f s.o s.n s.b unavS W (by omega) (by omega) (by omega) (by omega) (by omega) (by decide) hm
  rw [fltV_M] at i1
  obtain ⟨y, hy⟩ : ∃ y, fltM s unavS = y := ⟨_, rfl⟩
  rw [hy] at i1 ⊢
  have HS := Lib.hid (rsb_start w q1 n1 l1 q2 n2 l2 s)
  have HM := Lib.hid (fun W (h : Below w.heap.size w W) => hm.below h hm.pos)
  unfold msV at i1 ⊢
  unfold unavS at i1
  clear hm hy s0 s1 s2 s3 s4
  go_enter Tryz.func63, Tryz.ntmps63
  go_wp2_with (go_at_call 101; go_fit (i1 _ (HM.out _ HS.out.2.2.2)); rintro e w1 ⟨rfl, hb⟩; have HS1 := Lib.hid (HS.out.on hb); clear hb; obtain ⟨⟨c0, c1, c2, c3, c4, c5⟩, f0, f1, f2, f3, f4, f5⟩ := arr_six0 HS1.out.2.2.1)
  have hE := arr_put6 HS1.out.2.2.1 (.string y.k) (.string y.t) (.string y.f) (.string y.o) (.int .i64 y.n) (.string y.b)
  exact bodyPost_ret (v := .agg #[.string y.k, .string y.t, .string y.f, .string y.o, .int .i64 y.n, .string y.b]) (results_cell_row (P := Tryz.prog) Tryz.results63 _ _ (w.heap.size + 1 + 1) 28 _ (0, 0) _ rfl hE Tryz.underlying28 rfl (by kernel_rfl)) rfl ⟨rfl, below_put6 HS1.out.2.2.2 (by omega) _ _ _ _ _ _⟩
end Go.Proofs.YtafdjjdmcnlddaaGreat

namespace Go.Proofs.YtafdjjdmcnlddaaGreat
set_option linter.unusedSimpArgs false
set_option linter.unusedVariables false
open Go.RowKit Go.Joins

/-- The mailbox's box, the answer's. -/
def TkB (w W : World) (p1 : Option Addr) (n1 c1 : Nat) (p2 : Option Addr) (n2 c2 : Nat) (cs : List Value) : Prop := Arr W w.heap.size 26 [.slice p1 n1 c1, .slice p2 n2 c2] ∧ Arr W (w.heap.size + 1) 33 cs ∧ Below w.heap.size w W
theorem TkB.on {w W W2 : World} {p1 : Option Addr} {n1 c1 : Nat} {p2 : Option Addr} {n2 c2 : Nat} {cs : List Value} (h : TkB w W p1 n1 c1 p2 n2 c2 cs) (hb : Below W.heap.size W W2) : TkB w W2 p1 n1 c1 p2 n2 c2 cs := ⟨arr9_on h.1 hb, arr9_on h.2.1 hb, h.2.2.trans (hb.mono h.2.2.size)⟩
theorem TkB.two {w W : World} {p1 : Option Addr} {n1 c1 : Nat} {p2 : Option Addr} {n2 c2 : Nat} {cs : List Value} (h : TkB w W p1 n1 c1 p2 n2 c2 cs) : (W.cell? ⟨w.heap.size, 0, none⟩ = some (.slice p1 n1 c1) ∧ W.cell? ⟨w.heap.size, 1, none⟩ = some (.slice p2 n2 c2)) ∧ w.heap.size + 1 < W.heap.size := ⟨(arr9_two h.1).1, arr9_lt h.2.1⟩
theorem ten_all {w : World} {g t : Nat} {a0 a1 a2 a3 a4 a5 a6 a7 a8 a9 : Value} (h : Arr w g t [a0, a1, a2, a3, a4, a5, a6, a7, a8, a9]) : (w.cell? ⟨g, 0, none⟩ = some a0 ∧ w.cell? ⟨g, 1, none⟩ = some a1 ∧ w.cell? ⟨g, 2, none⟩ = some a2 ∧ w.cell? ⟨g, 3, none⟩ = some a3 ∧ w.cell? ⟨g, 4, none⟩ = some a4 ∧ w.cell? ⟨g, 5, none⟩ = some a5 ∧ w.cell? ⟨g, 6, none⟩ = some a6 ∧ w.cell? ⟨g, 7, none⟩ = some a7 ∧ w.cell? ⟨g, 8, none⟩ = some a8 ∧ w.cell? ⟨g, 9, none⟩ = some a9) ∧ w.frozen? ⟨g, 0, none⟩ = false ∧ w.frozen? ⟨g, 1, none⟩ = false ∧ w.frozen? ⟨g, 2, none⟩ = false ∧ w.frozen? ⟨g, 3, none⟩ = false ∧ w.frozen? ⟨g, 4, none⟩ = false ∧ w.frozen? ⟨g, 5, none⟩ = false ∧ w.frozen? ⟨g, 6, none⟩ = false ∧ w.frozen? ⟨g, 7, none⟩ = false ∧ w.frozen? ⟨g, 8, none⟩ = false ∧ w.frozen? ⟨g, 9, none⟩ = false :=
  ⟨⟨h.cell 0, h.cell 1, h.cell 2, h.cell 3, h.cell 4, h.cell 5, h.cell 6, h.cell 7, h.cell 8, h.cell 9⟩, h.free 0, h.free 1, h.free 2, h.free 3, h.free 4, h.free 5, h.free 6, h.free 7, h.free 8, h.free 9⟩
def put10 (w : World) (g : Nat) (b0 b1 b2 b3 b4 b5 b6 b7 b8 b9 : Value) : World := (((((((((w.setCell ⟨g, 0, none⟩ b0).setCell ⟨g, 1, none⟩ b1).setCell ⟨g, 2, none⟩ b2).setCell ⟨g, 3, none⟩ b3).setCell ⟨g, 4, none⟩ b4).setCell ⟨g, 5, none⟩ b5).setCell ⟨g, 6, none⟩ b6).setCell ⟨g, 7, none⟩ b7).setCell ⟨g, 8, none⟩ b8).setCell ⟨g, 9, none⟩ b9
theorem arr_put10 {w : World} {g t : Nat} {a0 a1 a2 a3 a4 a5 a6 a7 a8 a9 : Value} (h : Arr w g t [a0, a1, a2, a3, a4, a5, a6, a7, a8, a9]) (b0 b1 b2 b3 b4 b5 b6 b7 b8 b9 : Value) : Arr (put10 w g b0 b1 b2 b3 b4 b5 b6 b7 b8 b9) g t [b0, b1, b2, b3, b4, b5, b6, b7, b8, b9] :=
  (((((((((h.put 0 b0).put 1 b1).put 2 b2).put 3 b3).put 4 b4).put 5 b5).put 6 b6).put 7 b7).put 8 b8).put 9 b9
theorem below_put10 {D g : Nat} {w w1 : World} (h : Below D w w1) (hg : D ≤ g) (b0 b1 b2 b3 b4 b5 b6 b7 b8 b9 : Value) : Below D w (put10 w1 g b0 b1 b2 b3 b4 b5 b6 b7 b8 b9) :=
  (((((((((h.setCell (p := ⟨g, 0, none⟩) hg b0).setCell (p := ⟨g, 1, none⟩) hg b1).setCell (p := ⟨g, 2, none⟩) hg b2).setCell (p := ⟨g, 3, none⟩) hg b3).setCell (p := ⟨g, 4, none⟩) hg b4).setCell (p := ⟨g, 5, none⟩) hg b5).setCell (p := ⟨g, 6, none⟩) hg b6).setCell (p := ⟨g, 7, none⟩) hg b7).setCell (p := ⟨g, 8, none⟩) hg b8).setCell (p := ⟨g, 9, none⟩) hg b9
theorem own_put10 {α : Type} {enc : α → List Value} {w : World} {D e size g : Nat} {v : Value} {xs : List α} (h : OwnC enc w D e size v xs) (hg : g < D) (b0 b1 b2 b3 b4 b5 b6 b7 b8 b9 : Value) : OwnC enc (put10 w g b0 b1 b2 b3 b4 b5 b6 b7 b8 b9) D e size v xs :=
  (((((((((h.low (a := ⟨g, 0, none⟩) hg b0).low (a := ⟨g, 1, none⟩) hg b1).low (a := ⟨g, 2, none⟩) hg b2).low (a := ⟨g, 3, none⟩) hg b3).low (a := ⟨g, 4, none⟩) hg b4).low (a := ⟨g, 5, none⟩) hg b5).low (a := ⟨g, 6, none⟩) hg b6).low (a := ⟨g, 7, none⟩) hg b7).low (a := ⟨g, 8, none⟩) hg b8).low (a := ⟨g, 9, none⟩) hg b9
end Go.Proofs.YtafdjjdmcnlddaaGreat

namespace Go.Proofs.YtafdjjdmcnlddaaGreat
set_option linter.unusedSimpArgs false
set_option linter.unusedVariables false
open Go.RowKit Go.Joins

theorem adr_fit (s : ByteArray) : ∃ l d r c, jidReadV s = jo l d r c ∧ (addrE s = true → (l.toList == []) = !adrB s) ∧ (adrB s = true → l = locA s ∧ r = resA s) := by
  unfold jidReadV
  by_cases hb : 20000 < s.size
  · rw [if_pos hb]
    have hA := addr_big hb
    exact ⟨_, _, _, _, rfl, fun _ => by unfold adrB; rw [hA]; rw [is_empty]; rfl, fun h => by unfold adrB at h; rw [hA] at h; cases h⟩
  · rw [if_neg hb]
    cases hg : goodR s.data.toList
    · rw [if_neg (by decide)]
      have hA := addr_bad hg
      exact ⟨_, _, _, _, rfl, fun _ => by unfold adrB; rw [hA]; rw [is_empty]; rfl, fun h => by unfold adrB at h; rw [hA] at h; cases h⟩
    · rw [if_pos rfl]
      refine ⟨_, _, _, _, rfl, fun h => ?_, fun h => ⟨rfl, rfl⟩⟩
      rw [is_empty]
      unfold addrE at h
      unfold adrB locA
      rcases Bool.or_eq_true _ _ ▸ h with h0 | h0
      · have h1 : s.data.toList = [] := List.eq_nil_of_length_eq_zero (by rw [size_data]; simpa using h0)
        rw [h1]
        have h2 : (strOf (readL []).1).size = 0 := by rfl
        rw [h2]
        simp
      · rw [h0, Bool.true_and]
        by_cases h3 : (strOf (readL s.data.toList).1).size = 0
        · rw [h3]; rfl
        · rw [decide_eq_false h3, decide_eq_true (by omega)]; rfl
theorem jid_field (l d r : ByteArray) (c : Int) (W : World) : (Instr.field 51 (.agg #[.string l, .string d, .string r, .int .i64 c]) 0).run Tryz.prog W = .ok (.agg #[.string l, .string d, .string r]) W := by kernel_rfl
theorem own_cell10 {α : Type} {enc : α → List Value} {W : World} {B e size b i : Nat} {v u : Value} {xs : List α} (ho : OwnC enc W B e size v xs) (hne : ∀ j, v.ownBlock = some j → b ≠ j) : OwnC enc (W.setCell ⟨b, i, none⟩ u) B e size v xs := by
  refine ⟨ho.1, ?_⟩
  rcases ho.2 with h0 | ⟨j, c, cur, h1, h2, h3, h4⟩
  · exact .inl h0
  · exact .inr ⟨j, c, cur, h1, h2, (heap_setCell_other W ⟨b, i, none⟩ j u (fun e => hne j (by rw [h1]; rfl) e.symm)).trans h3, h4⟩
/-- The boxes of routed: the mailbox, the stanza, the treatment, the answer. -/
def RtB (w W : World) (p1 : Option Addr) (n1 c1 : Nat) (p2 : Option Addr) (n2 c2 : Nat) (s : MsL) (f1 f2 : Nat) : Prop := Arr W w.heap.size 26 [.slice p1 n1 c1, .slice p2 n2 c2] ∧ Arr W (w.heap.size + 1) 28 [.string s.k, .string s.t, .string s.f, .string s.o, .int .i64 s.n, .string s.b] ∧ Arr W (w.heap.size + 1 + 1) 63 [.func (.func f1) #[] #[], .func (.func f2) #[] #[]] ∧ Arr W (w.heap.size + 1 + 1 + 1) 33 [.slice none 0 0, .slice none 0 0, .slice none 0 0, .string ⟨#[]⟩, .string ⟨#[]⟩, .string ⟨#[]⟩, .string ⟨#[]⟩, .int .i64 0, .string ⟨#[]⟩, .int .i64 0] ∧ Below w.heap.size w W
theorem RtB.on {w W W2 : World} {p1 : Option Addr} {n1 c1 : Nat} {p2 : Option Addr} {n2 c2 : Nat} {s : MsL} {f1 f2 : Nat} (h : RtB w W p1 n1 c1 p2 n2 c2 s f1 f2) (hb : Below W.heap.size W W2) : RtB w W2 p1 n1 c1 p2 n2 c2 s f1 f2 := ⟨arr9_on h.1 hb, arr9_on h.2.1 hb, arr9_on h.2.2.1 hb, arr9_on h.2.2.2.1 hb, h.2.2.2.2.trans (hb.mono h.2.2.2.2.size)⟩
theorem RtB.grow {w W W2 : World} {p1 : Option Addr} {n1 c1 : Nat} {p2 : Option Addr} {n2 c2 : Nat} {s : MsL} {f1 f2 : Nat} {r : Option Nat} (h : RtB w W p1 n1 c1 p2 n2 c2 s f1 f2) (hg : W.grownBy W2 r) (hr : ∀ k, r = some k → w.heap.size + 4 ≤ k) : RtB w W2 p1 n1 c1 p2 n2 c2 s f1 f2 :=
  ⟨arr_beside10 h.1 hg (fun k hk => by have := hr k hk; omega), arr_beside10 h.2.1 hg (fun k hk => by have := hr k hk; omega), arr_beside10 h.2.2.1 hg (fun k hk => by have := hr k hk; omega), arr_beside10 h.2.2.2.1 hg (fun k hk => by have := hr k hk; omega), h.2.2.2.2.grown hg h.2.2.2.2.size (fun k hk => by have := hr k hk; omega)⟩
theorem RtB.put {w W : World} {p1 : Option Addr} {n1 c1 : Nat} {p2 : Option Addr} {n2 c2 : Nat} {s : MsL} {f1 f2 : Nat} (h : RtB w W p1 n1 c1 p2 n2 c2 s f1 f2) {b i : Nat} (u : Value) (hb : w.heap.size + 4 ≤ b) : RtB w (W.setCell ⟨b, i, none⟩ u) p1 n1 c1 p2 n2 c2 s f1 f2 :=
  ⟨arr_other h.1 _ _ _ (by omega), arr_other h.2.1 _ _ _ (by omega), arr_other h.2.2.1 _ _ _ (by omega), arr_other h.2.2.2.1 _ _ _ (by omega), h.2.2.2.2.setCell (p := ⟨b, i, none⟩) (by show w.heap.size ≤ b; omega) u⟩
theorem RtB.big {w W : World} {p1 : Option Addr} {n1 c1 : Nat} {p2 : Option Addr} {n2 c2 : Nat} {s : MsL} {f1 f2 : Nat} (h : RtB w W p1 n1 c1 p2 n2 c2 s f1 f2) : w.heap.size + 4 ≤ W.heap.size := by have := arr9_lt h.2.2.2.1; omega
theorem rtb_start (w : World) (p1 : Option Addr) (n1 c1 : Nat) (p2 : Option Addr) (n2 c2 : Nat) (s : MsL) (f1 f2 : Nat) : RtB w ((((w.alloc (.cells #[.slice p1 n1 c1, .slice p2 n2 c2] 26)).alloc (.cells #[.string s.k, .string s.t, .string s.f, .string s.o, .int .i64 s.n, .string s.b] 28)).alloc (.cells #[.func (.func f1) #[] #[], .func (.func f2) #[] #[]] 63)).alloc (.cells #[.slice none 0 0, .slice none 0 0, .slice none 0 0, .string ⟨#[]⟩, .string ⟨#[]⟩, .string ⟨#[]⟩, .string ⟨#[]⟩, .int .i64 0, .string ⟨#[]⟩, .int .i64 0] 33)) p1 n1 c1 p2 n2 c2 s f1 f2 := by
  have h1 := Arr.fresh (w.alloc (.cells #[.slice p1 n1 c1, .slice p2 n2 c2] 26)) 28 [.string s.k, .string s.t, .string s.f, .string s.o, .int .i64 s.n, .string s.b]
  have h2 := Arr.fresh ((w.alloc (.cells #[.slice p1 n1 c1, .slice p2 n2 c2] 26)).alloc (.cells #[.string s.k, .string s.t, .string s.f, .string s.o, .int .i64 s.n, .string s.b] 28)) 63 [.func (.func f1) #[] #[], .func (.func f2) #[] #[]]
  have h3 := Arr.fresh (((w.alloc (.cells #[.slice p1 n1 c1, .slice p2 n2 c2] 26)).alloc (.cells #[.string s.k, .string s.t, .string s.f, .string s.o, .int .i64 s.n, .string s.b] 28)).alloc (.cells #[.func (.func f1) #[] #[], .func (.func f2) #[] #[]] 63)) 33 [.slice none 0 0, .slice none 0 0, .slice none 0 0, .string ⟨#[]⟩, .string ⟨#[]⟩, .string ⟨#[]⟩, .string ⟨#[]⟩, .int .i64 0, .string ⟨#[]⟩, .int .i64 0]
  simp only [World.size_alloc] at h1 h2 h3
  have al : ∀ (W : World) (o : Obj), Below W.heap.size W (W.alloc o) := fun W o => (Below.refl _ _).alloc (Nat.le_refl _) _
  exact ⟨arr9_on (arr9_on (arr9_on (Arr.fresh w 26 [.slice p1 n1 c1, .slice p2 n2 c2]) (al _ _)) (al _ _)) (al _ _), arr9_on (arr9_on h1 (al _ _)) (al _ _), arr9_on h2 (al _ _), h3, ((((Below.refl _ _).alloc (Nat.le_refl _) _).alloc (by simp) _).alloc (by simp; omega) _).alloc (by simp; omega) _⟩
/-- What routed answers. -/
noncomputable def rtdR (k : ByteArray) (xs : List SeL) (ys : List MsL) (s : MsL) (tl : List ByteArray) (y : MsL) : RoL :=
  open Classical in if routB k xs ys s = true then (if tl.length ≠ 0 then ⟨xs, ys, tl, zMs, 0⟩ else if y = s then ⟨xs, ys ++ [s], [], zMs, 0⟩ else ⟨xs, ys, [], y, 0⟩) else illM 1
theorem arr_far10 {w : World} {g g2 t : Nat} {cs : List Value} (h : Arr w g t cs) (hne : g ≠ g2) (b0 b1 b2 b3 b4 b5 b6 b7 b8 b9 : Value) : Arr (put10 w g2 b0 b1 b2 b3 b4 b5 b6 b7 b8 b9) g t cs :=
  arr_other (arr_other (arr_other (arr_other (arr_other (arr_other (arr_other (arr_other (arr_other (arr_other h _ _ _ hne) _ _ _ hne) _ _ _ hne) _ _ _ hne) _ _ _ hne) _ _ _ hne) _ _ _ hne) _ _ _ hne) _ _ _ hne) _ _ _ hne
theorem own_far10 {α : Type} {enc : α → List Value} {W : World} {B e size b : Nat} {v : Value} {xs : List α} (h : OwnC enc W B e size v xs) (hne : ∀ j, v.ownBlock = some j → b ≠ j) (b0 b1 b2 b3 b4 b5 b6 b7 b8 b9 : Value) : OwnC enc (put10 W b b0 b1 b2 b3 b4 b5 b6 b7 b8 b9) B e size v xs :=
  own_cell10 (own_cell10 (own_cell10 (own_cell10 (own_cell10 (own_cell10 (own_cell10 (own_cell10 (own_cell10 (own_cell10 h hne) hne) hne) hne) hne) hne) hne) hne) hne) hne
def put6b (w : World) (g : Nat) (a b c d e f : Value) : World := (((((w.setCell ⟨g, 3, none⟩ a).setCell ⟨g, 4, none⟩ b).setCell ⟨g, 5, none⟩ c).setCell ⟨g, 6, none⟩ d).setCell ⟨g, 7, none⟩ e).setCell ⟨g, 8, none⟩ f
theorem own_put6b {α : Type} {enc : α → List Value} {W : World} {B e size b : Nat} {v : Value} {xs : List α} (h : OwnC enc W B e size v xs) (hne : ∀ j, v.ownBlock = some j → b ≠ j) (x0 x1 x2 x3 x4 x5 : Value) : OwnC enc (put6b W b x0 x1 x2 x3 x4 x5) B e size v xs :=
  own_cell10 (own_cell10 (own_cell10 (own_cell10 (own_cell10 (own_cell10 h hne) hne) hne) hne) hne) hne
theorem RtB.put6b {w W : World} {p1 : Option Addr} {n1 c1 : Nat} {p2 : Option Addr} {n2 c2 : Nat} {s : MsL} {f1 f2 : Nat} (h : RtB w W p1 n1 c1 p2 n2 c2 s f1 f2) {b : Nat} (hb : w.heap.size + 4 ≤ b) (x0 x1 x2 x3 x4 x5 : Value) : RtB w (Go.Proofs.YtafdjjdmcnlddaaGreat.put6b W b x0 x1 x2 x3 x4 x5) p1 n1 c1 p2 n2 c2 s f1 f2 :=
  (((((h.put x0 hb).put x1 hb).put x2 hb).put x3 hb).put x4 hb).put x5 hb
theorem RtB.put10 {w W : World} {p1 : Option Addr} {n1 c1 : Nat} {p2 : Option Addr} {n2 c2 : Nat} {s : MsL} {f1 f2 : Nat} (h : RtB w W p1 n1 c1 p2 n2 c2 s f1 f2) {b : Nat} (hb : w.heap.size + 4 ≤ b) (b0 b1 b2 b3 b4 b5 b6 b7 b8 b9 : Value) : RtB w (Go.Proofs.YtafdjjdmcnlddaaGreat.put10 W b b0 b1 b2 b3 b4 b5 b6 b7 b8 b9) p1 n1 c1 p2 n2 c2 s f1 f2 :=
  (((((((((h.put b0 hb).put b1 hb).put b2 hb).put b3 hb).put b4 hb).put b5 hb).put b6 hb).put b7 hb).put b8 hb).put b9 hb
theorem arr_3j {w : World} {g t : Nat} {a b c : Value} (h : Arr w g t [a, b, c]) : (w.cell? ⟨g, 0, none⟩ = some a ∧ w.cell? ⟨g, 1, none⟩ = some b ∧ w.cell? ⟨g, 2, none⟩ = some c) ∧ g < w.heap.size := ⟨⟨h.cell 0, h.cell 1, h.cell 2⟩, arr9_lt h⟩
set_option maxRecDepth 100000 in
set_option maxHeartbeats 8000000 in
theorem impl_routed (k : ByteArray) (xs : List SeL) (ys : List MsL) (p1 p2 : Option Addr) (n1 n2 c1 c2 : Nat) (s : MsL) (tl : List ByteArray) (y : MsL) (f1 f2 : Nat) (w : World) (hx : xs.length = n1) (hy : ys.length = n2) (hn1 : n1 ≤ 1048576) (hn2 : n2 ≤ 1048576) (hw : SzS xs) (hw2 : SzM ys) (hs : s.le 1048576) (hR1 : RowC seC 4 w p1 xs) (hR2 : RowC msC 6 w p2 ys) (hm : MaxL w)
    (hcmp : routB k xs ys s = true → y = s ∨ (y.k.toList == s.k.toList) = false ∨ (y.k.toList == s.k.toList) = true ∧ (y.t.toList == s.t.toList) = false)
    (hcall1 : ∀ args W, (callFunc f1 args).run Tryz.prog W = .ok (.enter f1 args) W) (hcall2 : ∀ args W, (callFunc f2 args).run Tryz.prog W = .ok (.enter f2 args) W)
    (h1 : ∀ W, routB k xs ys s = true → RowC seC 4 W p1 xs → Calls Tryz.prog f1 #[.slice p1 n1 c1, .string (resA s.o)] W fun e w' => StIs W.heap.size tl e w' ∧ Below W.heap.size W w')
    (h2 : ∀ W, routB k xs ys s = true → MaxL W → Calls Tryz.prog f2 #[.agg #[.slice p1 n1 c1, .slice p2 n2 c2], msV s] W fun e w' => e = .returned (msV y) ∧ Below W.heap.size W w') :
    Calls Tryz.prog 32 #[.agg #[.slice p1 n1 c1, .slice p2 n2 c2], .agg #[.string s.k, .string s.t, .string s.f, .string s.o, .int .i64 s.n, .string s.b], .string k, .agg #[.func (.func f1) #[] #[], .func (.func f2) #[] #[]]] w fun e w' => RoIs w.heap.size (rtdR k xs ys s tl y) e w' ∧ Below w.heap.size w w' := by
  obtain ⟨z0, z1, z2, z3, z4⟩ := hs
  obtain ⟨l, d, r, c, hjv, hl1, hl2⟩ := adr_fit s.o
  have i1 := fun W hm => impl_read s.o W (by unfold maxLen; omega) hm
  rw [hjv] at i1
  unfold jo at i1
  have fld := fun W => jid_field l d r c W
  have i2 := fun W h1 h2 hm => impl_mbright xs ys p1 p2 n1 n2 c1 c2 W hx hy hn1 hn2 hw hw2 h1 h2 hm
  have i3 := fun W hm => impl_stright s.k s.t s.f s.o s.n s.b W (by unfold maxLen; omega) (by unfold maxLen; omega) (by unfold maxLen; omega) (by unfold maxLen; omega) hm
  have HR := Lib.hid (rtb_start w p1 n1 c1 p2 n2 c2 s f1 f2)
  have HM := Lib.hid (fun W (h : Below w.heap.size w W) => hm.below h hm.pos)
  have HP1 := Lib.hid (fun W (h : Below w.heap.size w W) => hR1.on h)
  have HP2 := Lib.hid (fun W (h : Below w.heap.size w W) => hR2.on h)
  cases hmb : mbB xs ys
  · rw [show rtdR k xs ys s tl y = illM 1 by unfold rtdR routB; rw [hmb]; rfl]
    rw [hmb] at i2
    clear hmb hx hy hw hw2 hR1 hR2 hm h1 h2 hjv hl1 hl2 i3 hcmp
    go_enter Tryz.func32, Tryz.ntmps32
    go_wp2_with (first
      | (go_at_call 57; go_fit (i1 _ (HM.out _ HR.out.2.2.2.2)); rintro e w1 ⟨rfl, hb⟩; have HR1 := Lib.hid (HR.out.on hb); have HR1a := Lib.hid (HR1.out.on ((Below.refl _ _).alloc (Nat.le_refl _) (.cells #[.string l, .string d, .string r] 49))); have HJ1a := Lib.hid (Arr.fresh w1 49 [.string l, .string d, .string r]); clear hb; obtain ⟨⟨m0, m1⟩, _⟩ := arr9_two HR1.out.1; obtain ⟨⟨s0, s1, s2, s3, s4, s5⟩, _⟩ := arr_six0 HR1.out.2.1; obtain ⟨⟨t0, t1⟩, _⟩ := arr9_two HR1.out.2.2.1; obtain ⟨⟨r0, r1, r2, r3, r4, r5, r6, r7, r8, r9⟩, u0, u1, u2, u3, u4, u5, u6, u7, u8, u9⟩ := ten_all HR1.out.2.2.2.1; have hzA := arr9_lt HR1.out.1; have hzB := arr9_lt HR1.out.2.1; have hzC := arr9_lt HR1.out.2.2.1; have hzD := arr9_lt HR1.out.2.2.2.1)
      | (go_at_call 11; go_fit (i2 _ (HP1.out _ HR1a.out.2.2.2.2) (HP2.out _ HR1a.out.2.2.2.2) (HM.out _ HR1a.out.2.2.2.2)); rintro e w2 ⟨rfl, hb⟩; have HR2 := Lib.hid (HR1a.out.on hb); have HJ2 := Lib.hid (arr9_on HJ1a.out hb); clear hb; obtain ⟨⟨m0, m1⟩, _⟩ := arr9_two HR2.out.1; obtain ⟨⟨s0, s1, s2, s3, s4, s5⟩, _⟩ := arr_six0 HR2.out.2.1; obtain ⟨⟨t0, t1⟩, _⟩ := arr9_two HR2.out.2.2.1; obtain ⟨⟨r0, r1, r2, r3, r4, r5, r6, r7, r8, r9⟩, u0, u1, u2, u3, u4, u5, u6, u7, u8, u9⟩ := ten_all HR2.out.2.2.2.1; have hzA := arr9_lt HR2.out.1; have hzB := arr9_lt HR2.out.2.1; have hzC := arr9_lt HR2.out.2.2.1; have hzD := arr9_lt HR2.out.2.2.2.1; obtain ⟨⟨j0, j1, j2⟩, _⟩ := arr_3j HJ2.out))
    exact bodyPost_ret (v := .agg #[.slice none 0 0, .slice none 0 0, .slice none 0 0, .string ⟨#[]⟩, .string ⟨#[]⟩, .string ⟨#[]⟩, .string ⟨#[]⟩, .int .i64 0, .string ⟨#[]⟩, .int .i64 1]) (results_cell_row (P := Tryz.prog) Tryz.results32 _ _ (w.heap.size + 1 + 1 + 1) 33 _ (0, 0) _ rfl (arr_put10 HR2.out.2.2.2.1 (.slice none 0 0) (.slice none 0 0) (.slice none 0 0) (.string ⟨#[]⟩) (.string ⟨#[]⟩) (.string ⟨#[]⟩) (.string ⟨#[]⟩) (.int .i64 0) (.string ⟨#[]⟩) (.int .i64 1)) Tryz.underlying33 rfl (by kernel_rfl)) rfl ⟨ro_ill _ _ _, below_put10 HR2.out.2.2.2.2 (by omega) (.slice none 0 0) (.slice none 0 0) (.slice none 0 0) (.string ⟨#[]⟩) (.string ⟨#[]⟩) (.string ⟨#[]⟩) (.string ⟨#[]⟩) (.int .i64 0) (.string ⟨#[]⟩) (.int .i64 1)⟩
  rw [hmb] at i2
  cases hst : stB s.k s.t s.f s.o s.n s.b
  · rw [show rtdR k xs ys s tl y = illM 1 by unfold rtdR routB msB; rw [hmb, hst]; rfl]
    rw [hst] at i3
    clear hmb hst hx hy hw hw2 hR1 hR2 hm h1 h2 hjv hl1 hl2 hcmp
    go_enter Tryz.func32, Tryz.ntmps32
    go_wp2_with (first
      | (go_at_call 57; go_fit (i1 _ (HM.out _ HR.out.2.2.2.2)); rintro e w1 ⟨rfl, hb⟩; have HR1 := Lib.hid (HR.out.on hb); have HR1a := Lib.hid (HR1.out.on ((Below.refl _ _).alloc (Nat.le_refl _) (.cells #[.string l, .string d, .string r] 49))); have HJ1a := Lib.hid (Arr.fresh w1 49 [.string l, .string d, .string r]); clear hb; obtain ⟨⟨m0, m1⟩, _⟩ := arr9_two HR1.out.1; obtain ⟨⟨s0, s1, s2, s3, s4, s5⟩, _⟩ := arr_six0 HR1.out.2.1; obtain ⟨⟨t0, t1⟩, _⟩ := arr9_two HR1.out.2.2.1; obtain ⟨⟨r0, r1, r2, r3, r4, r5, r6, r7, r8, r9⟩, u0, u1, u2, u3, u4, u5, u6, u7, u8, u9⟩ := ten_all HR1.out.2.2.2.1; have hzA := arr9_lt HR1.out.1; have hzB := arr9_lt HR1.out.2.1; have hzC := arr9_lt HR1.out.2.2.1; have hzD := arr9_lt HR1.out.2.2.2.1)
      | (go_at_call 11; go_fit (i2 _ (HP1.out _ HR1a.out.2.2.2.2) (HP2.out _ HR1a.out.2.2.2.2) (HM.out _ HR1a.out.2.2.2.2)); rintro e w2 ⟨rfl, hb⟩; have HR2 := Lib.hid (HR1a.out.on hb); have HJ2 := Lib.hid (arr9_on HJ1a.out hb); clear hb; obtain ⟨⟨m0, m1⟩, _⟩ := arr9_two HR2.out.1; obtain ⟨⟨s0, s1, s2, s3, s4, s5⟩, _⟩ := arr_six0 HR2.out.2.1; obtain ⟨⟨t0, t1⟩, _⟩ := arr9_two HR2.out.2.2.1; obtain ⟨⟨r0, r1, r2, r3, r4, r5, r6, r7, r8, r9⟩, u0, u1, u2, u3, u4, u5, u6, u7, u8, u9⟩ := ten_all HR2.out.2.2.2.1; have hzA := arr9_lt HR2.out.1; have hzB := arr9_lt HR2.out.2.1; have hzC := arr9_lt HR2.out.2.2.1; have hzD := arr9_lt HR2.out.2.2.2.1; obtain ⟨⟨j0, j1, j2⟩, _⟩ := arr_3j HJ2.out)
      | (go_at_call 39; have _ := HR2; go_fit (i3 _ (HM.out _ HR2.out.2.2.2.2)); rintro e w3 ⟨rfl, hb⟩; have HR3 := Lib.hid (HR2.out.on hb); have HJ3 := Lib.hid (arr9_on HJ2.out hb); clear hb; obtain ⟨⟨m0, m1⟩, _⟩ := arr9_two HR3.out.1; obtain ⟨⟨s0, s1, s2, s3, s4, s5⟩, _⟩ := arr_six0 HR3.out.2.1; obtain ⟨⟨t0, t1⟩, _⟩ := arr9_two HR3.out.2.2.1; obtain ⟨⟨r0, r1, r2, r3, r4, r5, r6, r7, r8, r9⟩, u0, u1, u2, u3, u4, u5, u6, u7, u8, u9⟩ := ten_all HR3.out.2.2.2.1; have hzA := arr9_lt HR3.out.1; have hzB := arr9_lt HR3.out.2.1; have hzC := arr9_lt HR3.out.2.2.1; have hzD := arr9_lt HR3.out.2.2.2.1; obtain ⟨⟨j0, j1, j2⟩, _⟩ := arr_3j HJ3.out))
    exact bodyPost_ret (v := .agg #[.slice none 0 0, .slice none 0 0, .slice none 0 0, .string ⟨#[]⟩, .string ⟨#[]⟩, .string ⟨#[]⟩, .string ⟨#[]⟩, .int .i64 0, .string ⟨#[]⟩, .int .i64 1]) (results_cell_row (P := Tryz.prog) Tryz.results32 _ _ (w.heap.size + 1 + 1 + 1) 33 _ (0, 0) _ rfl (arr_put10 HR3.out.2.2.2.1 (.slice none 0 0) (.slice none 0 0) (.slice none 0 0) (.string ⟨#[]⟩) (.string ⟨#[]⟩) (.string ⟨#[]⟩) (.string ⟨#[]⟩) (.int .i64 0) (.string ⟨#[]⟩) (.int .i64 1)) Tryz.underlying33 rfl (by kernel_rfl)) rfl ⟨ro_ill _ _ _, below_put10 HR3.out.2.2.2.2 (by omega) (.slice none 0 0) (.slice none 0 0) (.slice none 0 0) (.string ⟨#[]⟩) (.string ⟨#[]⟩) (.string ⟨#[]⟩) (.string ⟨#[]⟩) (.int .i64 0) (.string ⟨#[]⟩) (.int .i64 1)⟩
  rw [hst] at i3
  cases hkk : (s.k.toList == k.toList)
  · rw [show rtdR k xs ys s tl y = illM 1 by unfold rtdR routB msB; rw [hmb, hst, hkk]; rfl]
    clear hmb hst hx hy hw hw2 hR1 hR2 hm h1 h2 hjv hl1 hl2 hcmp
    go_enter Tryz.func32, Tryz.ntmps32
    go_wp2_with (first
      | (go_at_call 57; go_fit (i1 _ (HM.out _ HR.out.2.2.2.2)); rintro e w1 ⟨rfl, hb⟩; have HR1 := Lib.hid (HR.out.on hb); have HR1a := Lib.hid (HR1.out.on ((Below.refl _ _).alloc (Nat.le_refl _) (.cells #[.string l, .string d, .string r] 49))); have HJ1a := Lib.hid (Arr.fresh w1 49 [.string l, .string d, .string r]); clear hb; obtain ⟨⟨m0, m1⟩, _⟩ := arr9_two HR1.out.1; obtain ⟨⟨s0, s1, s2, s3, s4, s5⟩, _⟩ := arr_six0 HR1.out.2.1; obtain ⟨⟨t0, t1⟩, _⟩ := arr9_two HR1.out.2.2.1; obtain ⟨⟨r0, r1, r2, r3, r4, r5, r6, r7, r8, r9⟩, u0, u1, u2, u3, u4, u5, u6, u7, u8, u9⟩ := ten_all HR1.out.2.2.2.1; have hzA := arr9_lt HR1.out.1; have hzB := arr9_lt HR1.out.2.1; have hzC := arr9_lt HR1.out.2.2.1; have hzD := arr9_lt HR1.out.2.2.2.1)
      | (go_at_call 11; go_fit (i2 _ (HP1.out _ HR1a.out.2.2.2.2) (HP2.out _ HR1a.out.2.2.2.2) (HM.out _ HR1a.out.2.2.2.2)); rintro e w2 ⟨rfl, hb⟩; have HR2 := Lib.hid (HR1a.out.on hb); have HJ2 := Lib.hid (arr9_on HJ1a.out hb); clear hb; obtain ⟨⟨m0, m1⟩, _⟩ := arr9_two HR2.out.1; obtain ⟨⟨s0, s1, s2, s3, s4, s5⟩, _⟩ := arr_six0 HR2.out.2.1; obtain ⟨⟨t0, t1⟩, _⟩ := arr9_two HR2.out.2.2.1; obtain ⟨⟨r0, r1, r2, r3, r4, r5, r6, r7, r8, r9⟩, u0, u1, u2, u3, u4, u5, u6, u7, u8, u9⟩ := ten_all HR2.out.2.2.2.1; have hzA := arr9_lt HR2.out.1; have hzB := arr9_lt HR2.out.2.1; have hzC := arr9_lt HR2.out.2.2.1; have hzD := arr9_lt HR2.out.2.2.2.1; obtain ⟨⟨j0, j1, j2⟩, _⟩ := arr_3j HJ2.out)
      | (go_at_call 39; have _ := HR2; go_fit (i3 _ (HM.out _ HR2.out.2.2.2.2)); rintro e w3 ⟨rfl, hb⟩; have HR3 := Lib.hid (HR2.out.on hb); have HJ3 := Lib.hid (arr9_on HJ2.out hb); clear hb; obtain ⟨⟨m0, m1⟩, _⟩ := arr9_two HR3.out.1; obtain ⟨⟨s0, s1, s2, s3, s4, s5⟩, _⟩ := arr_six0 HR3.out.2.1; obtain ⟨⟨t0, t1⟩, _⟩ := arr9_two HR3.out.2.2.1; obtain ⟨⟨r0, r1, r2, r3, r4, r5, r6, r7, r8, r9⟩, u0, u1, u2, u3, u4, u5, u6, u7, u8, u9⟩ := ten_all HR3.out.2.2.2.1; have hzA := arr9_lt HR3.out.1; have hzB := arr9_lt HR3.out.2.1; have hzC := arr9_lt HR3.out.2.2.1; have hzD := arr9_lt HR3.out.2.2.2.1; obtain ⟨⟨j0, j1, j2⟩, _⟩ := arr_3j HJ3.out))
    exact bodyPost_ret (v := .agg #[.slice none 0 0, .slice none 0 0, .slice none 0 0, .string ⟨#[]⟩, .string ⟨#[]⟩, .string ⟨#[]⟩, .string ⟨#[]⟩, .int .i64 0, .string ⟨#[]⟩, .int .i64 1]) (results_cell_row (P := Tryz.prog) Tryz.results32 _ _ (w.heap.size + 1 + 1 + 1) 33 _ (0, 0) _ rfl (arr_put10 HR3.out.2.2.2.1 (.slice none 0 0) (.slice none 0 0) (.slice none 0 0) (.string ⟨#[]⟩) (.string ⟨#[]⟩) (.string ⟨#[]⟩) (.string ⟨#[]⟩) (.int .i64 0) (.string ⟨#[]⟩) (.int .i64 1)) Tryz.underlying33 rfl (by kernel_rfl)) rfl ⟨ro_ill _ _ _, below_put10 HR3.out.2.2.2.2 (by omega) (.slice none 0 0) (.slice none 0 0) (.slice none 0 0) (.string ⟨#[]⟩) (.string ⟨#[]⟩) (.string ⟨#[]⟩) (.string ⟨#[]⟩) (.int .i64 0) (.string ⟨#[]⟩) (.int .i64 1)⟩
  have hle : (l.toList == []) = !adrB s.o := hl1 (by unfold stB at hst; simp only [Bool.and_eq_true] at hst; exact hst.1.1.2)
  cases had : adrB s.o
  · rw [show rtdR k xs ys s tl y = illM 1 by unfold rtdR routB msB; rw [hmb, hst, hkk, had]; rfl]
    rw [had] at hle
    have hl0 : l = ⟨#[]⟩ := ba_ext (by simpa using hle)
    subst hl0
    clear hmb hst hx hy hw hw2 hR1 hR2 hm h1 h2 hjv hl1 hl2 hle had hcmp
    go_enter Tryz.func32, Tryz.ntmps32
    go_wp2_with (first
      | (go_at_call 57; go_fit (i1 _ (HM.out _ HR.out.2.2.2.2)); rintro e w1 ⟨rfl, hb⟩; have HR1 := Lib.hid (HR.out.on hb); have HR1a := Lib.hid (HR1.out.on ((Below.refl _ _).alloc (Nat.le_refl _) (.cells #[.string ⟨#[]⟩, .string d, .string r] 49))); have HJ1a := Lib.hid (Arr.fresh w1 49 [.string ⟨#[]⟩, .string d, .string r]); clear hb; obtain ⟨⟨m0, m1⟩, _⟩ := arr9_two HR1.out.1; obtain ⟨⟨s0, s1, s2, s3, s4, s5⟩, _⟩ := arr_six0 HR1.out.2.1; obtain ⟨⟨t0, t1⟩, _⟩ := arr9_two HR1.out.2.2.1; obtain ⟨⟨r0, r1, r2, r3, r4, r5, r6, r7, r8, r9⟩, u0, u1, u2, u3, u4, u5, u6, u7, u8, u9⟩ := ten_all HR1.out.2.2.2.1; have hzA := arr9_lt HR1.out.1; have hzB := arr9_lt HR1.out.2.1; have hzC := arr9_lt HR1.out.2.2.1; have hzD := arr9_lt HR1.out.2.2.2.1)
      | (go_at_call 11; go_fit (i2 _ (HP1.out _ HR1a.out.2.2.2.2) (HP2.out _ HR1a.out.2.2.2.2) (HM.out _ HR1a.out.2.2.2.2)); rintro e w2 ⟨rfl, hb⟩; have HR2 := Lib.hid (HR1a.out.on hb); have HJ2 := Lib.hid (arr9_on HJ1a.out hb); clear hb; obtain ⟨⟨m0, m1⟩, _⟩ := arr9_two HR2.out.1; obtain ⟨⟨s0, s1, s2, s3, s4, s5⟩, _⟩ := arr_six0 HR2.out.2.1; obtain ⟨⟨t0, t1⟩, _⟩ := arr9_two HR2.out.2.2.1; obtain ⟨⟨r0, r1, r2, r3, r4, r5, r6, r7, r8, r9⟩, u0, u1, u2, u3, u4, u5, u6, u7, u8, u9⟩ := ten_all HR2.out.2.2.2.1; have hzA := arr9_lt HR2.out.1; have hzB := arr9_lt HR2.out.2.1; have hzC := arr9_lt HR2.out.2.2.1; have hzD := arr9_lt HR2.out.2.2.2.1; obtain ⟨⟨j0, j1, j2⟩, _⟩ := arr_3j HJ2.out)
      | (go_at_call 39; have _ := HR2; go_fit (i3 _ (HM.out _ HR2.out.2.2.2.2)); rintro e w3 ⟨rfl, hb⟩; have HR3 := Lib.hid (HR2.out.on hb); have HJ3 := Lib.hid (arr9_on HJ2.out hb); clear hb; obtain ⟨⟨m0, m1⟩, _⟩ := arr9_two HR3.out.1; obtain ⟨⟨s0, s1, s2, s3, s4, s5⟩, _⟩ := arr_six0 HR3.out.2.1; obtain ⟨⟨t0, t1⟩, _⟩ := arr9_two HR3.out.2.2.1; obtain ⟨⟨r0, r1, r2, r3, r4, r5, r6, r7, r8, r9⟩, u0, u1, u2, u3, u4, u5, u6, u7, u8, u9⟩ := ten_all HR3.out.2.2.2.1; have hzA := arr9_lt HR3.out.1; have hzB := arr9_lt HR3.out.2.1; have hzC := arr9_lt HR3.out.2.2.1; have hzD := arr9_lt HR3.out.2.2.2.1; obtain ⟨⟨j0, j1, j2⟩, _⟩ := arr_3j HJ3.out))
    exact bodyPost_ret (v := .agg #[.slice none 0 0, .slice none 0 0, .slice none 0 0, .string ⟨#[]⟩, .string ⟨#[]⟩, .string ⟨#[]⟩, .string ⟨#[]⟩, .int .i64 0, .string ⟨#[]⟩, .int .i64 1]) (results_cell_row (P := Tryz.prog) Tryz.results32 _ _ (w.heap.size + 1 + 1 + 1) 33 _ (0, 0) _ rfl (arr_put10 HR3.out.2.2.2.1 (.slice none 0 0) (.slice none 0 0) (.slice none 0 0) (.string ⟨#[]⟩) (.string ⟨#[]⟩) (.string ⟨#[]⟩) (.string ⟨#[]⟩) (.int .i64 0) (.string ⟨#[]⟩) (.int .i64 1)) Tryz.underlying33 rfl (by kernel_rfl)) rfl ⟨ro_ill _ _ _, below_put10 HR3.out.2.2.2.2 (by omega) (.slice none 0 0) (.slice none 0 0) (.slice none 0 0) (.string ⟨#[]⟩) (.string ⟨#[]⟩) (.string ⟨#[]⟩) (.string ⟨#[]⟩) (.int .i64 0) (.string ⟨#[]⟩) (.int .i64 1)⟩
  have hrt : routB k xs ys s = true := by unfold routB msB; rw [hmb, hst, hkk, had]; rfl
  obtain ⟨e1, e2⟩ := hl2 had
  subst e2
  rw [had] at hle
  have hle2 : (l.toList == []) = false := hle
  have hle3 : l.toList ≠ [] := by simpa using hle2
  have i4 := fun W h1 h2 => impl_mbcopy xs ys p1 p2 n1 n2 c1 c2 W hx hy hn1 hn2 hw hw2 h1 h2
  have i5 := fun W => impl_stcopy s.k s.t s.f s.o s.n s.b W (by omega) (by omega) (by omega) (by omega) (by omega)
  replace hcmp := hcmp hrt
  have i6 := fun W h => h1 W hrt h
  have i7 := fun W h => h2 W hrt h
  unfold StIs at i6
  unfold msV at i7
  have h5 := (mb_parts hmb).2.1
  have HX := Lib.hid hx
  have HY := Lib.hid hy
  have hRT : rtdR k xs ys s tl y = (open Classical in if tl.length ≠ 0 then ⟨xs, ys, tl, zMs, 0⟩ else if y = s then ⟨xs, ys ++ [s], [], zMs, 0⟩ else ⟨xs, ys, [], y, 0⟩) := by unfold rtdR; rw [if_pos hrt]
  rw [hRT]
  obtain ⟨R, hRR⟩ : ∃ R, (open Classical in if tl.length ≠ 0 then (⟨xs, ys, tl, zMs, 0⟩ : RoL) else if y = s then ⟨xs, ys ++ [s], [], zMs, 0⟩ else ⟨xs, ys, [], y, 0⟩) = R := ⟨_, rfl⟩
  rw [hRR]
  have HRR := Lib.hid hRR
  have hm5 : n2 ≤ 5 := by rw [← hy]; exact h5
  clear hmb hst hx hy hw hw2 hR1 hR2 hm h1 h2 hjv hl1 hl2 hle had hrt hRT hRR e1 h5
  go_enter Tryz.func32, Tryz.ntmps32
  go_wp2_with (first
    | (go_at_call 57; go_fit (i1 _ (HM.out _ HR.out.2.2.2.2)); rintro e w1 ⟨rfl, hb⟩; have HR1 := Lib.hid (HR.out.on hb); have HR1a := Lib.hid (HR1.out.on ((Below.refl _ _).alloc (Nat.le_refl _) (.cells #[.string l, .string d, .string (resA s.o)] 49))); have HJ1a := Lib.hid (Arr.fresh w1 49 [.string l, .string d, .string (resA s.o)]); clear hb; obtain ⟨⟨m0, m1⟩, _⟩ := arr9_two HR1.out.1; obtain ⟨⟨s0, s1, s2, s3, s4, s5⟩, _⟩ := arr_six0 HR1.out.2.1; obtain ⟨⟨t0, t1⟩, _⟩ := arr9_two HR1.out.2.2.1; obtain ⟨⟨r0, r1, r2, r3, r4, r5, r6, r7, r8, r9⟩, u0, u1, u2, u3, u4, u5, u6, u7, u8, u9⟩ := ten_all HR1.out.2.2.2.1; have hzA := arr9_lt HR1.out.1; have hzB := arr9_lt HR1.out.2.1; have hzC := arr9_lt HR1.out.2.2.1; have hzD := arr9_lt HR1.out.2.2.2.1)
    | (go_at_call 11; go_fit (i2 _ (HP1.out _ HR1a.out.2.2.2.2) (HP2.out _ HR1a.out.2.2.2.2) (HM.out _ HR1a.out.2.2.2.2)); rintro e w2 ⟨rfl, hb⟩; have HR2 := Lib.hid (HR1a.out.on hb); have HJ2 := Lib.hid (arr9_on HJ1a.out hb); clear hb; obtain ⟨⟨m0, m1⟩, _⟩ := arr9_two HR2.out.1; obtain ⟨⟨s0, s1, s2, s3, s4, s5⟩, _⟩ := arr_six0 HR2.out.2.1; obtain ⟨⟨t0, t1⟩, _⟩ := arr9_two HR2.out.2.2.1; obtain ⟨⟨r0, r1, r2, r3, r4, r5, r6, r7, r8, r9⟩, u0, u1, u2, u3, u4, u5, u6, u7, u8, u9⟩ := ten_all HR2.out.2.2.2.1; have hzA := arr9_lt HR2.out.1; have hzB := arr9_lt HR2.out.2.1; have hzC := arr9_lt HR2.out.2.2.1; have hzD := arr9_lt HR2.out.2.2.2.1; obtain ⟨⟨j0, j1, j2⟩, _⟩ := arr_3j HJ2.out)
    | (go_at_call 39; have _ := HR2; go_fit (i3 _ (HM.out _ HR2.out.2.2.2.2)); rintro e w3 ⟨rfl, hb⟩; have HR3 := Lib.hid (HR2.out.on hb); have HJ3 := Lib.hid (arr9_on HJ2.out hb); clear hb; obtain ⟨⟨m0, m1⟩, _⟩ := arr9_two HR3.out.1; obtain ⟨⟨s0, s1, s2, s3, s4, s5⟩, _⟩ := arr_six0 HR3.out.2.1; obtain ⟨⟨t0, t1⟩, _⟩ := arr9_two HR3.out.2.2.1; obtain ⟨⟨r0, r1, r2, r3, r4, r5, r6, r7, r8, r9⟩, u0, u1, u2, u3, u4, u5, u6, u7, u8, u9⟩ := ten_all HR3.out.2.2.2.1; have hzA := arr9_lt HR3.out.1; have hzB := arr9_lt HR3.out.2.1; have hzC := arr9_lt HR3.out.2.2.1; have hzD := arr9_lt HR3.out.2.2.2.1; obtain ⟨⟨j0, j1, j2⟩, _⟩ := arr_3j HJ3.out))
  refine region_join [36, 37, 38, 39, 40, 41, 42, 43, 44, 45, 10] (fun vs W => ∃ b q1 l1 q2 l2 q3 l3, vs 10 = .pointer (some ⟨b, 0, none⟩) ∧ w.heap.size + 4 ≤ b ∧ Arr W b 33 [.slice q1 n1 l1, .slice q2 n2 l2, .slice q3 tl.length l3, .string ⟨#[]⟩, .string ⟨#[]⟩, .string ⟨#[]⟩, .string ⟨#[]⟩, .int .i64 0, .string ⟨#[]⟩, .int .i64 0] ∧ RtB w W p1 n1 c1 p2 n2 c2 s f1 f2 ∧ OwnC seC W (w.heap.size + 4) 40 4 (.slice q1 n1 l1) xs ∧ OwnC msC W (w.heap.size + 4) 28 6 (.slice q2 n2 l2) ys ∧ OwnC strC W (w.heap.size + 4) 9 1 (.slice q3 tl.length l3) tl) ?_ ?_
  · refine wp_region_held_drew (S := fun W => (RtB w W p1 n1 c1 p2 n2 c2 s f1 f2 ∧ Arr W w1.heap.size 49 [.string l, .string d, .string (resA s.o)])) (by kernel_rfl) ⟨HR3.out.on (Below.refl _ _).drew, arr9_on HJ3.out (Below.refl _ _).drew⟩ (fun hHeld => ?_)
    have HS0 := Lib.hid (And.intro (HR3.out.on (Below.refl _ _).drew) (arr9_on HJ3.out (Below.refl _ _).drew))
    generalize World.drew _ = wd at HS0 hHeld ⊢
    refine takeQ (i := 0) (k := 36) (v := .agg #[.slice p1 n1 c1, .slice p2 n2 c2]) rfl (by rfl) (by kernel_rfl) (by kernel_rfl) (by kernel_rfl) (fun _ _ _ h => h) (by rfl) ?_ hHeld ?_
    · intro w1 hSw; obtain ⟨⟨m0, m1⟩, _⟩ := arr9_two hSw.1.1; obtain ⟨⟨t0, t1⟩, _⟩ := arr9_two hSw.1.2.2.1; obtain ⟨⟨j0, j1, j2⟩, _⟩ := arr_3j hSw.2; go_simp
    (try simp only [Act.put, List.setIfInBounds_toArray, List.set_cons_zero, List.set_cons_succ])
    refine takeQ (i := 2) (k := 38) (v := .pointer (some ⟨w.heap.size + 1 + 1, 0, none⟩)) rfl (by rfl) (by kernel_rfl) (by kernel_rfl) (by kernel_rfl) (fun _ _ _ h => h) (by rfl) ?_ hHeld ?_
    · intro w1 hSw; obtain ⟨⟨m0, m1⟩, _⟩ := arr9_two hSw.1.1; obtain ⟨⟨t0, t1⟩, _⟩ := arr9_two hSw.1.2.2.1; obtain ⟨⟨j0, j1, j2⟩, _⟩ := arr_3j hSw.2; go_simp
    (try simp only [Act.put, List.setIfInBounds_toArray, List.set_cons_zero, List.set_cons_succ])
    refine takeQ (i := 3) (k := 39) (v := .func (.func f1) #[] #[]) rfl (by rfl) (by kernel_rfl) (by kernel_rfl) (by kernel_rfl) (fun _ _ _ h => h) (by rfl) ?_ hHeld ?_
    · intro w1 hSw; obtain ⟨⟨m0, m1⟩, _⟩ := arr9_two hSw.1.1; obtain ⟨⟨t0, t1⟩, _⟩ := arr9_two hSw.1.2.2.1; obtain ⟨⟨j0, j1, j2⟩, _⟩ := arr_3j hSw.2; go_simp
    (try simp only [Act.put, List.setIfInBounds_toArray, List.set_cons_zero, List.set_cons_succ])
    refine takeQ (i := 4) (k := 40) (v := .pointer (some ⟨w.heap.size, 0, none⟩)) rfl (by rfl) (by kernel_rfl) (by kernel_rfl) (by kernel_rfl) (fun _ _ _ h => h) (by rfl) ?_ hHeld ?_
    · intro w1 hSw; obtain ⟨⟨m0, m1⟩, _⟩ := arr9_two hSw.1.1; obtain ⟨⟨t0, t1⟩, _⟩ := arr9_two hSw.1.2.2.1; obtain ⟨⟨j0, j1, j2⟩, _⟩ := arr_3j hSw.2; go_simp
    (try simp only [Act.put, List.setIfInBounds_toArray, List.set_cons_zero, List.set_cons_succ])
    refine takeQ (i := 5) (k := 41) (v := .slice p1 n1 c1) rfl (by rfl) (by kernel_rfl) (by kernel_rfl) (by kernel_rfl) (fun _ _ _ h => h) (by rfl) ?_ hHeld ?_
    · intro w1 hSw; obtain ⟨⟨m0, m1⟩, _⟩ := arr9_two hSw.1.1; obtain ⟨⟨t0, t1⟩, _⟩ := arr9_two hSw.1.2.2.1; obtain ⟨⟨j0, j1, j2⟩, _⟩ := arr_3j hSw.2; go_simp
    (try simp only [Act.put, List.setIfInBounds_toArray, List.set_cons_zero, List.set_cons_succ])
    refine takeQ (i := 6) (k := 42) (v := .pointer (some ⟨w1.heap.size, 2, none⟩)) rfl (by rfl) (by kernel_rfl) (by kernel_rfl) (by kernel_rfl) (fun _ _ _ h => h) (by rfl) ?_ hHeld ?_
    · intro w1 hSw; obtain ⟨⟨m0, m1⟩, _⟩ := arr9_two hSw.1.1; obtain ⟨⟨t0, t1⟩, _⟩ := arr9_two hSw.1.2.2.1; obtain ⟨⟨j0, j1, j2⟩, _⟩ := arr_3j hSw.2; go_simp
    (try simp only [Act.put, List.setIfInBounds_toArray, List.set_cons_zero, List.set_cons_succ])
    refine takeQ (i := 7) (k := 43) (v := .string (resA s.o)) rfl (by rfl) (by kernel_rfl) (by kernel_rfl) (by kernel_rfl) (fun _ _ _ h => h) (by rfl) ?_ hHeld ?_
    · intro w1 hSw; obtain ⟨⟨m0, m1⟩, _⟩ := arr9_two hSw.1.1; obtain ⟨⟨t0, t1⟩, _⟩ := arr9_two hSw.1.2.2.1; obtain ⟨⟨j0, j1, j2⟩, _⟩ := arr_3j hSw.2; go_simp
    (try simp only [Act.put, List.setIfInBounds_toArray, List.set_cons_zero, List.set_cons_succ])
    refine wpAnyH_ready (rs := [1, 10]) (by kernel_rfl) (by simp) ?_
    refine AllReadyH.cons rfl (fun K hK => ?_) (AllReadyH.cons rfl (fun K hK => ?_) AllReadyH.nil)
    · skip
      rw [if_pos (by rfl)]
      go_simp
      go_fit (i4 _ (HP1.out _ HS0.out.1.2.2.2.2) (HP2.out _ HS0.out.1.2.2.2.2))
      rintro e W1 ⟨⟨q1, l1, q2, l2, rfl, hv1, hv2⟩, hb⟩
      have HS2 := Lib.hid (And.intro (HS0.out.1.on hb) (arr9_on HS0.out.2 hb))
      have HC3 := Lib.hid (And.intro (hv1.mono HS0.out.1.big) (hv2.mono HS0.out.1.big))
      clear hb hv1 hv2
      refine hK.out _ _ HS2.out (fun hHeld => ?_)
      clear hK K
      (try simp only [Act.put, List.setIfInBounds_toArray, List.set_cons_zero, List.set_cons_succ])
      refine wpAnyH_ready (rs := [8, 10]) (by kernel_rfl) (by simp) ?_
      refine AllReadyH.cons rfl (fun K hK => ?_) (AllReadyH.cons rfl (fun K hK => ?_) AllReadyH.nil)
      · skip
        rw [if_pos (by rfl)]
        go_simp
        (try (rw [hcall1]; go_simp))
        go_fit (i6 _ (HP1.out _ HS2.out.1.2.2.2.2))
        rintro e W4 ⟨⟨q3, l3, rfl, hv⟩, hb⟩
        have HS5 := Lib.hid (And.intro (HS2.out.1.on hb) (arr9_on HS2.out.2 hb))
        have HC6 := Lib.hid (And.intro (HC3.out.1.on hb) (HC3.out.2.on hb))
        have HT7 := Lib.hid (hv.mono HS2.out.1.big)
        clear hb hv
        refine hK.out _ _ HS5.out (fun hHeld => ?_)
        clear hK K
        (try simp only [Act.put, List.setIfInBounds_toArray, List.set_cons_zero, List.set_cons_succ])
        refine takeQ (i := 9) (k := 45) (v := .agg #[.slice q1 n1 l1, .slice q2 n2 l2, .slice q3 tl.length l3, .string ⟨#[]⟩, .string ⟨#[]⟩, .string ⟨#[]⟩, .string ⟨#[]⟩, .int .i64 0, .string ⟨#[]⟩, .int .i64 0]) rfl (by rfl) (by kernel_rfl) (by kernel_rfl) (by kernel_rfl) (fun _ _ _ h => h) (by rfl) ?_ hHeld ?_
        · intro w1 hSw; go_simp
        (try simp only [Act.put, List.setIfInBounds_toArray, List.set_cons_zero, List.set_cons_succ])
        refine wpAnyH_ready (rs := [10]) (by kernel_rfl) (by simp) ?_
        refine AllReadyH.cons rfl (fun K hK => ?_) AllReadyH.nil
        rw [if_pos (by rfl)]
        go_simp
        have hb : Below W4.heap.size W4 (W4.alloc (.cells #[.slice none 0 0, .slice none 0 0, .slice none 0 0, .string ⟨#[]⟩, .string ⟨#[]⟩, .string ⟨#[]⟩, .string ⟨#[]⟩, .int .i64 0, .string ⟨#[]⟩, .int .i64 0] 33)) := (Below.refl _ _).alloc (Nat.le_refl _) _
        have HS9 := Lib.hid (And.intro (HS5.out.1.on hb) (arr9_on HS5.out.2 hb))
        have HA10 := Lib.hid (Arr.fresh W4 33 [.slice none 0 0, .slice none 0 0, .slice none 0 0, .string ⟨#[]⟩, .string ⟨#[]⟩, .string ⟨#[]⟩, .string ⟨#[]⟩, .int .i64 0, .string ⟨#[]⟩, .int .i64 0])
        have HC11 := Lib.hid (And.intro (HC6.out.1.on hb) (HC6.out.2.on hb))
        have HT12 := Lib.hid (HT7.out.on hb)
        have hq13 : w.heap.size + 4 ≤ W4.heap.size := HS5.out.1.big
        have hq14 : w1.heap.size < W4.heap.size := arr9_lt HS5.out.2
        clear hb
        refine hK.out _ _ HS9.out (fun hHeld => ?_)
        clear hK K
        (try simp only [Act.put, List.setIfInBounds_toArray, List.set_cons_zero, List.set_cons_succ])
        generalize W4.heap.size = b15 at HA10 hq13 hq14 ⊢
        generalize W4.alloc (.cells #[.slice none 0 0, .slice none 0 0, .slice none 0 0, .string ⟨#[]⟩, .string ⟨#[]⟩, .string ⟨#[]⟩, .string ⟨#[]⟩, .int .i64 0, .string ⟨#[]⟩, .int .i64 0] 33) = W8 at HS9 HA10 HC11 HT12 hHeld ⊢
        obtain ⟨⟨x0, x1, x2, x3, x4, x5, x6, x7, x8, x9⟩, y0, y1, y2, y3, y4, y5, y6, y7, y8, y9⟩ := ten_all HA10.out
        refine wpAnyH_ready (rs := [11]) (by kernel_rfl) (by simp) ?_
        refine AllReadyH.cons rfl (fun K hK => ?_) AllReadyH.nil
        rw [if_pos (by rfl)]
        go_simp
        have hE := arr_put10 HA10.out (.slice q1 n1 l1) (.slice q2 n2 l2) (.slice q3 tl.length l3) (.string ⟨#[]⟩) (.string ⟨#[]⟩) (.string ⟨#[]⟩) (.string ⟨#[]⟩) (.int .i64 0) (.string ⟨#[]⟩) (.int .i64 0)
        have hRf := RtB.put10 HS9.out.1 hq13 (.slice q1 n1 l1) (.slice q2 n2 l2) (.slice q3 tl.length l3) (.string ⟨#[]⟩) (.string ⟨#[]⟩) (.string ⟨#[]⟩) (.string ⟨#[]⟩) (.int .i64 0) (.string ⟨#[]⟩) (.int .i64 0)
        have hJf := arr_far10 HS9.out.2 (show w1.heap.size ≠ b15 by omega) (.slice q1 n1 l1) (.slice q2 n2 l2) (.slice q3 tl.length l3) (.string ⟨#[]⟩) (.string ⟨#[]⟩) (.string ⟨#[]⟩) (.string ⟨#[]⟩) (.int .i64 0) (.string ⟨#[]⟩) (.int .i64 0)
        have hc1 := own_far10 HC11.out.1 (own_ne10 HC11.out.1 HA10.out (by decide)) (.slice q1 n1 l1) (.slice q2 n2 l2) (.slice q3 tl.length l3) (.string ⟨#[]⟩) (.string ⟨#[]⟩) (.string ⟨#[]⟩) (.string ⟨#[]⟩) (.int .i64 0) (.string ⟨#[]⟩) (.int .i64 0)
        have hc2 := own_far10 HC11.out.2 (own_ne10 HC11.out.2 HA10.out (by decide)) (.slice q1 n1 l1) (.slice q2 n2 l2) (.slice q3 tl.length l3) (.string ⟨#[]⟩) (.string ⟨#[]⟩) (.string ⟨#[]⟩) (.string ⟨#[]⟩) (.int .i64 0) (.string ⟨#[]⟩) (.int .i64 0)
        have hc3 := own_far10 HT12.out (own_ne10 HT12.out HA10.out (by decide)) (.slice q1 n1 l1) (.slice q2 n2 l2) (.slice q3 tl.length l3) (.string ⟨#[]⟩) (.string ⟨#[]⟩) (.string ⟨#[]⟩) (.string ⟨#[]⟩) (.int .i64 0) (.string ⟨#[]⟩) (.int .i64 0)
        refine hK.out _ _ ⟨hRf, hJf⟩ (fun hHeld => ?_)
        clear hK K
        (try simp only [Act.put, List.setIfInBounds_toArray, List.set_cons_zero, List.set_cons_succ])
        refine wpAnyH_done (by kernel_rfl) ?_ _
        exact ⟨⟨b15, q1, l1, q2, l2, q3, l3, rfl, hq13, hE, hRf, hc1, hc2, hc3⟩, by simp only [putAll, Act.put, List.setIfInBounds_toArray, List.set_cons_zero, List.set_cons_succ]; rfl⟩
      · skip
        rw [if_pos (by rfl)]
        go_simp
        have hb : Below W1.heap.size W1 (W1.alloc (.cells #[.slice none 0 0, .slice none 0 0, .slice none 0 0, .string ⟨#[]⟩, .string ⟨#[]⟩, .string ⟨#[]⟩, .string ⟨#[]⟩, .int .i64 0, .string ⟨#[]⟩, .int .i64 0] 33)) := (Below.refl _ _).alloc (Nat.le_refl _) _
        have HS17 := Lib.hid (And.intro (HS2.out.1.on hb) (arr9_on HS2.out.2 hb))
        have HA18 := Lib.hid (Arr.fresh W1 33 [.slice none 0 0, .slice none 0 0, .slice none 0 0, .string ⟨#[]⟩, .string ⟨#[]⟩, .string ⟨#[]⟩, .string ⟨#[]⟩, .int .i64 0, .string ⟨#[]⟩, .int .i64 0])
        have HC19 := Lib.hid (And.intro (HC3.out.1.on hb) (HC3.out.2.on hb))
        have hq20 : w.heap.size + 4 ≤ W1.heap.size := HS2.out.1.big
        have hq21 : w1.heap.size < W1.heap.size := arr9_lt HS2.out.2
        clear hb
        refine hK.out _ _ HS17.out (fun hHeld => ?_)
        clear hK K
        (try simp only [Act.put, List.setIfInBounds_toArray, List.set_cons_zero, List.set_cons_succ])
        generalize W1.heap.size = b22 at HA18 hq20 hq21 ⊢
        generalize W1.alloc (.cells #[.slice none 0 0, .slice none 0 0, .slice none 0 0, .string ⟨#[]⟩, .string ⟨#[]⟩, .string ⟨#[]⟩, .string ⟨#[]⟩, .int .i64 0, .string ⟨#[]⟩, .int .i64 0] 33) = W16 at HS17 HA18 HC19 hHeld ⊢
        refine wpAnyH_ready (rs := [8]) (by kernel_rfl) (by simp) ?_
        refine AllReadyH.cons rfl (fun K hK => ?_) AllReadyH.nil
        rw [if_pos (by rfl)]
        go_simp
        (try (rw [hcall1]; go_simp))
        go_fit (i6 _ (HP1.out _ HS17.out.1.2.2.2.2))
        rintro e W23 ⟨⟨q3, l3, rfl, hv⟩, hb⟩
        have HS24 := Lib.hid (And.intro (HS17.out.1.on hb) (arr9_on HS17.out.2 hb))
        have HC25 := Lib.hid (And.intro (HC19.out.1.on hb) (HC19.out.2.on hb))
        have HT26 := Lib.hid (hv.mono HS17.out.1.big)
        have HA27 := Lib.hid (arr9_on HA18.out hb)
        clear hb hv
        refine hK.out _ _ HS24.out (fun hHeld => ?_)
        clear hK K
        (try simp only [Act.put, List.setIfInBounds_toArray, List.set_cons_zero, List.set_cons_succ])
        refine takeQ (i := 9) (k := 45) (v := .agg #[.slice q1 n1 l1, .slice q2 n2 l2, .slice q3 tl.length l3, .string ⟨#[]⟩, .string ⟨#[]⟩, .string ⟨#[]⟩, .string ⟨#[]⟩, .int .i64 0, .string ⟨#[]⟩, .int .i64 0]) rfl (by rfl) (by kernel_rfl) (by kernel_rfl) (by kernel_rfl) (fun _ _ _ h => h) (by rfl) ?_ hHeld ?_
        · intro w1 hSw; go_simp
        (try simp only [Act.put, List.setIfInBounds_toArray, List.set_cons_zero, List.set_cons_succ])
        obtain ⟨⟨x0, x1, x2, x3, x4, x5, x6, x7, x8, x9⟩, y0, y1, y2, y3, y4, y5, y6, y7, y8, y9⟩ := ten_all HA27.out
        refine wpAnyH_ready (rs := [11]) (by kernel_rfl) (by simp) ?_
        refine AllReadyH.cons rfl (fun K hK => ?_) AllReadyH.nil
        rw [if_pos (by rfl)]
        go_simp
        have hE := arr_put10 HA27.out (.slice q1 n1 l1) (.slice q2 n2 l2) (.slice q3 tl.length l3) (.string ⟨#[]⟩) (.string ⟨#[]⟩) (.string ⟨#[]⟩) (.string ⟨#[]⟩) (.int .i64 0) (.string ⟨#[]⟩) (.int .i64 0)
        have hRf := RtB.put10 HS24.out.1 hq20 (.slice q1 n1 l1) (.slice q2 n2 l2) (.slice q3 tl.length l3) (.string ⟨#[]⟩) (.string ⟨#[]⟩) (.string ⟨#[]⟩) (.string ⟨#[]⟩) (.int .i64 0) (.string ⟨#[]⟩) (.int .i64 0)
        have hJf := arr_far10 HS24.out.2 (show w1.heap.size ≠ b22 by omega) (.slice q1 n1 l1) (.slice q2 n2 l2) (.slice q3 tl.length l3) (.string ⟨#[]⟩) (.string ⟨#[]⟩) (.string ⟨#[]⟩) (.string ⟨#[]⟩) (.int .i64 0) (.string ⟨#[]⟩) (.int .i64 0)
        have hc1 := own_far10 HC25.out.1 (own_ne10 HC25.out.1 HA27.out (by decide)) (.slice q1 n1 l1) (.slice q2 n2 l2) (.slice q3 tl.length l3) (.string ⟨#[]⟩) (.string ⟨#[]⟩) (.string ⟨#[]⟩) (.string ⟨#[]⟩) (.int .i64 0) (.string ⟨#[]⟩) (.int .i64 0)
        have hc2 := own_far10 HC25.out.2 (own_ne10 HC25.out.2 HA27.out (by decide)) (.slice q1 n1 l1) (.slice q2 n2 l2) (.slice q3 tl.length l3) (.string ⟨#[]⟩) (.string ⟨#[]⟩) (.string ⟨#[]⟩) (.string ⟨#[]⟩) (.int .i64 0) (.string ⟨#[]⟩) (.int .i64 0)
        have hc3 := own_far10 HT26.out (own_ne10 HT26.out HA27.out (by decide)) (.slice q1 n1 l1) (.slice q2 n2 l2) (.slice q3 tl.length l3) (.string ⟨#[]⟩) (.string ⟨#[]⟩) (.string ⟨#[]⟩) (.string ⟨#[]⟩) (.int .i64 0) (.string ⟨#[]⟩) (.int .i64 0)
        refine hK.out _ _ ⟨hRf, hJf⟩ (fun hHeld => ?_)
        clear hK K
        (try simp only [Act.put, List.setIfInBounds_toArray, List.set_cons_zero, List.set_cons_succ])
        refine wpAnyH_done (by kernel_rfl) ?_ _
        exact ⟨⟨b22, q1, l1, q2, l2, q3, l3, rfl, hq20, hE, hRf, hc1, hc2, hc3⟩, by simp only [putAll, Act.put, List.setIfInBounds_toArray, List.set_cons_zero, List.set_cons_succ]; rfl⟩
    · skip
      rw [if_pos (by rfl)]
      go_simp
      have hb : Below wd.heap.size wd (wd.alloc (.cells #[.slice none 0 0, .slice none 0 0, .slice none 0 0, .string ⟨#[]⟩, .string ⟨#[]⟩, .string ⟨#[]⟩, .string ⟨#[]⟩, .int .i64 0, .string ⟨#[]⟩, .int .i64 0] 33)) := (Below.refl _ _).alloc (Nat.le_refl _) _
      have HS29 := Lib.hid (And.intro (HS0.out.1.on hb) (arr9_on HS0.out.2 hb))
      have HA30 := Lib.hid (Arr.fresh wd 33 [.slice none 0 0, .slice none 0 0, .slice none 0 0, .string ⟨#[]⟩, .string ⟨#[]⟩, .string ⟨#[]⟩, .string ⟨#[]⟩, .int .i64 0, .string ⟨#[]⟩, .int .i64 0])
      have hq31 : w.heap.size + 4 ≤ wd.heap.size := HS0.out.1.big
      have hq32 : w1.heap.size < wd.heap.size := arr9_lt HS0.out.2
      clear hb
      refine hK.out _ _ HS29.out (fun hHeld => ?_)
      clear hK K
      (try simp only [Act.put, List.setIfInBounds_toArray, List.set_cons_zero, List.set_cons_succ])
      generalize wd.heap.size = b33 at HA30 hq31 hq32 ⊢
      generalize wd.alloc (.cells #[.slice none 0 0, .slice none 0 0, .slice none 0 0, .string ⟨#[]⟩, .string ⟨#[]⟩, .string ⟨#[]⟩, .string ⟨#[]⟩, .int .i64 0, .string ⟨#[]⟩, .int .i64 0] 33) = W28 at HS29 HA30 hHeld ⊢
      refine wpAnyH_ready (rs := [1]) (by kernel_rfl) (by simp) ?_
      refine AllReadyH.cons rfl (fun K hK => ?_) AllReadyH.nil
      rw [if_pos (by rfl)]
      go_simp
      go_fit (i4 _ (HP1.out _ HS29.out.1.2.2.2.2) (HP2.out _ HS29.out.1.2.2.2.2))
      rintro e W34 ⟨⟨q1, l1, q2, l2, rfl, hv1, hv2⟩, hb⟩
      have HS35 := Lib.hid (And.intro (HS29.out.1.on hb) (arr9_on HS29.out.2 hb))
      have HC36 := Lib.hid (And.intro (hv1.mono HS29.out.1.big) (hv2.mono HS29.out.1.big))
      have HA37 := Lib.hid (arr9_on HA30.out hb)
      clear hb hv1 hv2
      refine hK.out _ _ HS35.out (fun hHeld => ?_)
      clear hK K
      (try simp only [Act.put, List.setIfInBounds_toArray, List.set_cons_zero, List.set_cons_succ])
      refine wpAnyH_ready (rs := [8]) (by kernel_rfl) (by simp) ?_
      refine AllReadyH.cons rfl (fun K hK => ?_) AllReadyH.nil
      rw [if_pos (by rfl)]
      go_simp
      (try (rw [hcall1]; go_simp))
      go_fit (i6 _ (HP1.out _ HS35.out.1.2.2.2.2))
      rintro e W38 ⟨⟨q3, l3, rfl, hv⟩, hb⟩
      have HS39 := Lib.hid (And.intro (HS35.out.1.on hb) (arr9_on HS35.out.2 hb))
      have HC40 := Lib.hid (And.intro (HC36.out.1.on hb) (HC36.out.2.on hb))
      have HT41 := Lib.hid (hv.mono HS35.out.1.big)
      have HA42 := Lib.hid (arr9_on HA37.out hb)
      clear hb hv
      refine hK.out _ _ HS39.out (fun hHeld => ?_)
      clear hK K
      (try simp only [Act.put, List.setIfInBounds_toArray, List.set_cons_zero, List.set_cons_succ])
      refine takeQ (i := 9) (k := 45) (v := .agg #[.slice q1 n1 l1, .slice q2 n2 l2, .slice q3 tl.length l3, .string ⟨#[]⟩, .string ⟨#[]⟩, .string ⟨#[]⟩, .string ⟨#[]⟩, .int .i64 0, .string ⟨#[]⟩, .int .i64 0]) rfl (by rfl) (by kernel_rfl) (by kernel_rfl) (by kernel_rfl) (fun _ _ _ h => h) (by rfl) ?_ hHeld ?_
      · intro w1 hSw; go_simp
      (try simp only [Act.put, List.setIfInBounds_toArray, List.set_cons_zero, List.set_cons_succ])
      obtain ⟨⟨x0, x1, x2, x3, x4, x5, x6, x7, x8, x9⟩, y0, y1, y2, y3, y4, y5, y6, y7, y8, y9⟩ := ten_all HA42.out
      refine wpAnyH_ready (rs := [11]) (by kernel_rfl) (by simp) ?_
      refine AllReadyH.cons rfl (fun K hK => ?_) AllReadyH.nil
      rw [if_pos (by rfl)]
      go_simp
      have hE := arr_put10 HA42.out (.slice q1 n1 l1) (.slice q2 n2 l2) (.slice q3 tl.length l3) (.string ⟨#[]⟩) (.string ⟨#[]⟩) (.string ⟨#[]⟩) (.string ⟨#[]⟩) (.int .i64 0) (.string ⟨#[]⟩) (.int .i64 0)
      have hRf := RtB.put10 HS39.out.1 hq31 (.slice q1 n1 l1) (.slice q2 n2 l2) (.slice q3 tl.length l3) (.string ⟨#[]⟩) (.string ⟨#[]⟩) (.string ⟨#[]⟩) (.string ⟨#[]⟩) (.int .i64 0) (.string ⟨#[]⟩) (.int .i64 0)
      have hJf := arr_far10 HS39.out.2 (show w1.heap.size ≠ b33 by omega) (.slice q1 n1 l1) (.slice q2 n2 l2) (.slice q3 tl.length l3) (.string ⟨#[]⟩) (.string ⟨#[]⟩) (.string ⟨#[]⟩) (.string ⟨#[]⟩) (.int .i64 0) (.string ⟨#[]⟩) (.int .i64 0)
      have hc1 := own_far10 HC40.out.1 (own_ne10 HC40.out.1 HA42.out (by decide)) (.slice q1 n1 l1) (.slice q2 n2 l2) (.slice q3 tl.length l3) (.string ⟨#[]⟩) (.string ⟨#[]⟩) (.string ⟨#[]⟩) (.string ⟨#[]⟩) (.int .i64 0) (.string ⟨#[]⟩) (.int .i64 0)
      have hc2 := own_far10 HC40.out.2 (own_ne10 HC40.out.2 HA42.out (by decide)) (.slice q1 n1 l1) (.slice q2 n2 l2) (.slice q3 tl.length l3) (.string ⟨#[]⟩) (.string ⟨#[]⟩) (.string ⟨#[]⟩) (.string ⟨#[]⟩) (.int .i64 0) (.string ⟨#[]⟩) (.int .i64 0)
      have hc3 := own_far10 HT41.out (own_ne10 HT41.out HA42.out (by decide)) (.slice q1 n1 l1) (.slice q2 n2 l2) (.slice q3 tl.length l3) (.string ⟨#[]⟩) (.string ⟨#[]⟩) (.string ⟨#[]⟩) (.string ⟨#[]⟩) (.int .i64 0) (.string ⟨#[]⟩) (.int .i64 0)
      refine hK.out _ _ ⟨hRf, hJf⟩ (fun hHeld => ?_)
      clear hK K
      (try simp only [Act.put, List.setIfInBounds_toArray, List.set_cons_zero, List.set_cons_succ])
      refine wpAnyH_done (by kernel_rfl) ?_ _
      exact ⟨⟨b33, q1, l1, q2, l2, q3, l3, rfl, hq31, hE, hRf, hc1, hc2, hc3⟩, by simp only [putAll, Act.put, List.setIfInBounds_toArray, List.set_cons_zero, List.set_cons_succ]; rfl⟩
  · rintro vs W4 ⟨b, q1, l1, q2, l2, q3, l3, e10, hb4, hE, hRf, hc1, hc2, hc3⟩
    have HR4 := Lib.hid hRf
    have HE4 := Lib.hid hE
    have HC4 := Lib.hid (And.intro hc1 (And.intro hc2 hc3))
    simp only [putAll, Act.put, List.setIfInBounds_toArray, List.set_cons_zero, List.set_cons_succ, e10]
    clear e10 hE hRf hc1 hc2 hc3 HR3 HJ3 HR2 HJ2 HR1 HR1a HJ1a HR j0 j1 j2
    clear m0 m1 s0 s1 s2 s3 s4 s5 t0 t1 r0 r1 r2 r3 r4 r5 r6 r7 r8 r9 u0 u1 u2 u3 u4 u5 u6 u7 u8 u9 hzA hzB hzC hzD
    obtain ⟨⟨x0, x1, x2, x3, x4, x5, x6, x7, x8, x9⟩, y0, y1, y2, y3, y4, y5, y6, y7, y8, y9⟩ := ten_all HE4.out
    obtain ⟨⟨m0, m1⟩, _⟩ := arr9_two HR4.out.1; obtain ⟨⟨s0, s1, s2, s3, s4, s5⟩, _⟩ := arr_six0 HR4.out.2.1; obtain ⟨⟨t0, t1⟩, _⟩ := arr9_two HR4.out.2.2.1; obtain ⟨⟨r0, r1, r2, r3, r4, r5, r6, r7, r8, r9⟩, u0, u1, u2, u3, u4, u5, u6, u7, u8, u9⟩ := ten_all HR4.out.2.2.2.1; have hzA := arr9_lt HR4.out.1; have hzB := arr9_lt HR4.out.2.1; have hzC := arr9_lt HR4.out.2.2.1; have hzD := arr9_lt HR4.out.2.2.2.1
    have hzb := arr9_lt HE4.out
    have hbn : ¬ b = w.heap.size + 1 + 1 + 1 := by omega
    have hbn2 : ¬ w.heap.size + 1 + 1 + 1 = b := by omega
    by_cases htl : tl.length = 0
    rotate_left
    · obtain rfl : R = ⟨xs, ys, tl, zMs, 0⟩ := by rw [← HRR.out]; exact if_pos htl
      have ht1 : ((tl.length : Int) != 0) = true := by simpa using htl
      have ht2 : ¬ (tl.length : Int) = 0 := by omega
      go_wp2
      exact bodyPost_ret (v := .agg #[.slice q1 n1 l1, .slice q2 n2 l2, .slice q3 tl.length l3, .string ⟨#[]⟩, .string ⟨#[]⟩, .string ⟨#[]⟩, .string ⟨#[]⟩, .int .i64 0, .string ⟨#[]⟩, .int .i64 0]) (results_cell_row (P := Tryz.prog) Tryz.results32 _ _ (w.heap.size + 1 + 1 + 1) 33 _ (0, 0) _ rfl (arr_put10 HR4.out.2.2.2.1 (.slice q1 n1 l1) (.slice q2 n2 l2) (.slice q3 tl.length l3) (.string ⟨#[]⟩) (.string ⟨#[]⟩) (.string ⟨#[]⟩) (.string ⟨#[]⟩) (.int .i64 0) (.string ⟨#[]⟩) (.int .i64 0)) Tryz.underlying33 rfl (by kernel_rfl)) rfl
        ⟨⟨q1, l1, q2, l2, q3, l3, by unfold roV; rw [HX.out, HY.out]; rfl, by rw [HX.out]; exact (own_put10 HC4.out.1 (by omega) (.slice q1 n1 l1) (.slice q2 n2 l2) (.slice q3 tl.length l3) (.string ⟨#[]⟩) (.string ⟨#[]⟩) (.string ⟨#[]⟩) (.string ⟨#[]⟩) (.int .i64 0) (.string ⟨#[]⟩) (.int .i64 0)).mono (by omega), by rw [HY.out]; exact (own_put10 HC4.out.2.1 (by omega) (.slice q1 n1 l1) (.slice q2 n2 l2) (.slice q3 tl.length l3) (.string ⟨#[]⟩) (.string ⟨#[]⟩) (.string ⟨#[]⟩) (.string ⟨#[]⟩) (.int .i64 0) (.string ⟨#[]⟩) (.int .i64 0)).mono (by omega), (own_put10 HC4.out.2.2 (by omega) (.slice q1 n1 l1) (.slice q2 n2 l2) (.slice q3 tl.length l3) (.string ⟨#[]⟩) (.string ⟨#[]⟩) (.string ⟨#[]⟩) (.string ⟨#[]⟩) (.int .i64 0) (.string ⟨#[]⟩) (.int .i64 0)).mono (by omega)⟩, below_put10 HR4.out.2.2.2.2 (by omega) (.slice q1 n1 l1) (.slice q2 n2 l2) (.slice q3 tl.length l3) (.string ⟨#[]⟩) (.string ⟨#[]⟩) (.string ⟨#[]⟩) (.string ⟨#[]⟩) (.int .i64 0) (.string ⟨#[]⟩) (.int .i64 0)⟩
    · have hR2 : R = (open Classical in if y = s then (⟨xs, ys ++ [s], [], zMs, 0⟩ : RoL) else ⟨xs, ys, [], y, 0⟩) := by rw [← HRR.out]; exact if_neg (by simpa using htl)
      have HTL : Hid (tl = []) := Lib.hid (List.eq_nil_of_length_eq_zero htl)
      rw [htl] at x2 HE4 HC4
      clear htl HRR
      rcases hcmp with hys | hcm
      · obtain rfl : R = ⟨xs, ys ++ [s], [], zMs, 0⟩ := by rw [hR2]; exact if_pos hys
        rw [hys] at i7
        clear hR2 hys
        go_wp2_with (first | (go_fit (i7 _ (HM.out _ HR4.out.2.2.2.2)); rintro e W5 ⟨rfl, hb⟩; have HR5 := Lib.hid (HR4.out.on hb); have HE5 := Lib.hid (arr9_on HE4.out hb); have HC5 := Lib.hid (And.intro (HC4.out.1.on hb) (And.intro (HC4.out.2.1.on hb) (HC4.out.2.2.on hb))); clear hb; obtain ⟨⟨x0, x1, x2, x3, x4, x5, x6, x7, x8, x9⟩, y0, y1, y2, y3, y4, y5, y6, y7, y8, y9⟩ := ten_all HE5.out; obtain ⟨⟨m0, m1⟩, _⟩ := arr9_two HR5.out.1; obtain ⟨⟨s0, s1, s2, s3, s4, s5⟩, _⟩ := arr_six0 HR5.out.2.1; obtain ⟨⟨t0, t1⟩, _⟩ := arr9_two HR5.out.2.2.1; obtain ⟨⟨r0, r1, r2, r3, r4, r5, r6, r7, r8, r9⟩, u0, u1, u2, u3, u4, u5, u6, u7, u8, u9⟩ := ten_all HR5.out.2.2.2.1; have hzA := arr9_lt HR5.out.1; have hzB := arr9_lt HR5.out.2.1; have hzC := arr9_lt HR5.out.2.2.1; have hzD := arr9_lt HR5.out.2.2.2.1; have hzb := arr9_lt HE5.out))
        have HRa := Lib.hid (HR5.out.on ((Below.refl _ _).alloc (Nat.le_refl _) (.cells #[.string s.k, .string s.t, .string s.f, .string s.o, .int .i64 s.n, .string s.b] 28)))
        have HEa := Lib.hid (arr9_on HE5.out ((Below.refl _ _).alloc (Nat.le_refl _) (.cells #[.string s.k, .string s.t, .string s.f, .string s.o, .int .i64 s.n, .string s.b] 28)))
        have HCa := Lib.hid (And.intro (HC5.out.1.alloc (.cells #[.string s.k, .string s.t, .string s.f, .string s.o, .int .i64 s.n, .string s.b] 28)) (And.intro (HC5.out.2.1.alloc (.cells #[.string s.k, .string s.t, .string s.f, .string s.o, .int .i64 s.n, .string s.b] 28)) (HC5.out.2.2.alloc (.cells #[.string s.k, .string s.t, .string s.f, .string s.o, .int .i64 s.n, .string s.b] 28))))
        refine region_join [59, 60, 61, 62, 63, 64, 65, 66, 67] (fun vs W => ∃ q4 l4, RtB w W p1 n1 c1 p2 n2 c2 s f1 f2 ∧ Arr W b 33 [.slice q1 n1 l1, .slice q4 (n2 + 1) l4, .slice q3 0 l3, .string ⟨#[]⟩, .string ⟨#[]⟩, .string ⟨#[]⟩, .string ⟨#[]⟩, .int .i64 0, .string ⟨#[]⟩, .int .i64 0] ∧ OwnC msC W (w.heap.size + 4) 28 6 (.slice q4 (n2 + 1) l4) (ys ++ [s]) ∧ OwnC seC W (w.heap.size + 4) 40 4 (.slice q1 n1 l1) xs ∧ OwnC strC W (w.heap.size + 4) 9 1 (.slice q3 0 l3) tl) ?_ ?_
        · refine wp_region_held_drew (S := fun W => RtB w W p1 n1 c1 p2 n2 c2 s f1 f2) (by kernel_rfl) (HRa.out.on (Below.refl _ _).drew) (fun hHeld => ?_)
          have HRd := Lib.hid (HRa.out.on (Below.refl _ _).drew)
          have HEd := Lib.hid (arr9_on HEa.out (Below.refl _ _).drew)
          have HCd := Lib.hid (And.intro (HCa.out.1.on (Below.refl _ _).drew) (And.intro (HCa.out.2.1.on (Below.refl _ _).drew) (HCa.out.2.2.on (Below.refl _ _).drew)))
          generalize World.drew _ = wd at HRd HEd HCd hHeld ⊢
          clear x0 x1 x2 x3 x4 x5 x6 x7 x8 x9 y0 y1 y2 y3 y4 y5 y6 y7 y8 y9 hzb
          refine takeQ (i := 0) (k := 59) (v := .pointer (some ⟨b, 0, none⟩)) rfl (by rfl) (by kernel_rfl) (by kernel_rfl) (by kernel_rfl) (fun _ _ _ h => h) (by rfl) ?_ hHeld ?_
          · intro w1 hSw; go_simp
          (try simp only [Act.put, List.setIfInBounds_toArray, List.set_cons_zero, List.set_cons_succ])
          refine takeQ (i := 1) (k := 60) (v := .pointer (some ⟨b, 1, none⟩)) rfl (by rfl) (by kernel_rfl) (by kernel_rfl) (by kernel_rfl) (fun _ _ _ h => h) (by rfl) ?_ hHeld ?_
          · intro w1 hSw; go_simp
          (try simp only [Act.put, List.setIfInBounds_toArray, List.set_cons_zero, List.set_cons_succ])
          refine takeQ (i := 3) (k := 62) (v := .agg #[.string s.k, .string s.t, .string s.f, .string s.o, .int .i64 s.n, .string s.b]) rfl (by rfl) (by kernel_rfl) (by kernel_rfl) (by kernel_rfl) (fun _ _ _ h => h) (by rfl) ?_ hHeld ?_
          · intro w1 hSw; obtain ⟨⟨s0, s1, s2, s3, s4, s5⟩, _⟩ := arr_six0 hSw.2.1; go_simp
          (try simp only [Act.put, List.setIfInBounds_toArray, List.set_cons_zero, List.set_cons_succ])
          refine wpAnyH_ready (rs := [2, 4]) (by kernel_rfl) (by simp) ?_
          refine AllReadyH.cons rfl (fun K hK => ?_) (AllReadyH.cons rfl (fun K hK => ?_) AllReadyH.nil)
          · skip
            rw [if_pos (by rfl)]
            obtain ⟨⟨x0, x1, x2, x3, x4, x5, x6, x7, x8, x9⟩, y0, y1, y2, y3, y4, y5, y6, y7, y8, y9⟩ := ten_all HEd.out
            go_simp
            clear x0 x1 x2 x3 x4 x5 x6 x7 x8 x9 y0 y1 y2 y3 y4 y5 y6 y7 y8 y9
            refine hK.out _ _ HRd.out (fun hHeld => ?_)
            clear hK K
            (try simp only [Act.put, List.setIfInBounds_toArray, List.set_cons_zero, List.set_cons_succ])
            refine wpAnyH_ready (rs := [4]) (by kernel_rfl) (by simp) ?_
            refine AllReadyH.cons rfl (fun K hK => ?_) AllReadyH.nil
            rw [if_pos (by rfl)]
            go_simp
            go_fit (i5 _)
            rintro e W43 ⟨rfl, hb⟩
            have HR44 := Lib.hid (HRd.out.on hb)
            have HE45 := Lib.hid (arr9_on HEd.out hb)
            have HC46 := Lib.hid (And.intro (HCd.out.1.on hb) (And.intro (HCd.out.2.1.on hb) (HCd.out.2.2.on hb)))
            clear hb
            refine hK.out _ _ HR44.out (fun hHeld => ?_)
            clear hK K
            (try simp only [Act.put, List.setIfInBounds_toArray, List.set_cons_zero, List.set_cons_succ])
            refine wpAnyH_ready (rs := [5]) (by kernel_rfl) (by simp) ?_
            refine AllReadyH.cons rfl (fun K hK => ?_) AllReadyH.nil
            rw [if_pos (by rfl)]
            go_simp
            have hb : Below W43.heap.size W43 (W43.alloc (.cells #[.string s.k, .string s.t, .string s.f, .string s.o, .int .i64 s.n, .string s.b] 28)) := (Below.refl _ _).alloc (Nat.le_refl _) _
            have HR48 := Lib.hid (HR44.out.on hb)
            have HE49 := Lib.hid (arr9_on HE45.out hb)
            have HC50 := Lib.hid (And.intro (HC46.out.1.on hb) (And.intro (HC46.out.2.1.on hb) (HC46.out.2.2.on hb)))
            have HA51 : Hid (Arr (W43.alloc (.cells #[.string s.k, .string s.t, .string s.f, .string s.o, .int .i64 s.n, .string s.b] 28)) W43.heap.size 28 (msC s)) := Lib.hid (Arr.fresh W43 28 (msC s))
            clear hb
            refine hK.out _ _ HR48.out (fun hHeld => ?_)
            clear hK K
            (try simp only [Act.put, List.setIfInBounds_toArray, List.set_cons_zero, List.set_cons_succ])
            generalize W43.heap.size = bb52 at HA51 ⊢
            generalize W43.alloc (.cells #[.string s.k, .string s.t, .string s.f, .string s.o, .int .i64 s.n, .string s.b] 28) = W47 at HR48 HE49 HC50 HA51 hHeld ⊢
            refine wpAnyH_ready (rs := [6]) (by kernel_rfl) (by simp) ?_
            refine AllReadyH.cons rfl (fun K hK => ?_) AllReadyH.nil
            rw [if_pos (by rfl)]
            refine wp_app_oneM _ _ rfl (w.heap.size + 4) _ ys rfl HC50.out.2.1 bb52 s rfl HA51.out (by rw [HY.out]; omega) HR48.out.big ?_
            intro v7 W7 hv hg
            obtain ⟨q4, l4, e4⟩ := own_shape10 hv (n := n2 + 1) (by rw [List.length_append, HY.out]; rfl)
            subst e4
            have HV7 := Lib.hid hv
            have HR7 := Lib.hid (HR48.out.grow hg (fun q hq => own_base HC50.out.2.1 q hq))
            have HE7 := Lib.hid (arr_beside10 HE49.out hg (own_ne10 HC50.out.2.1 HE49.out (by decide)))
            have HC7 := Lib.hid (And.intro (own_beside HC50.out.1 hg (own_two HC50.out.2.1 HC50.out.1 (by decide))) (own_beside HC50.out.2.2 hg (own_two HC50.out.2.1 HC50.out.2.2 (by decide))))
            clear hv hg
            refine hK.out _ _ HR7.out (fun hHeld => ?_)
            clear hK K
            (try simp only [Act.put, List.setIfInBounds_toArray, List.set_cons_zero, List.set_cons_succ])
            refine takeQ (i := 7) (k := 66) (v := .pointer (some ⟨b, 0, none⟩)) rfl (by rfl) (by kernel_rfl) (by kernel_rfl) (by kernel_rfl) (fun _ _ _ h => h) (by rfl) ?_ hHeld ?_
            · intro w1 hSw; go_simp
            (try simp only [Act.put, List.setIfInBounds_toArray, List.set_cons_zero, List.set_cons_succ])
            refine takeQ (i := 8) (k := 67) (v := .pointer (some ⟨b, 1, none⟩)) rfl (by rfl) (by kernel_rfl) (by kernel_rfl) (by kernel_rfl) (fun _ _ _ h => h) (by rfl) ?_ hHeld ?_
            · intro w1 hSw; go_simp
            (try simp only [Act.put, List.setIfInBounds_toArray, List.set_cons_zero, List.set_cons_succ])
            obtain ⟨⟨x0, x1, x2, x3, x4, x5, x6, x7, x8, x9⟩, y0, y1, y2, y3, y4, y5, y6, y7, y8, y9⟩ := ten_all HE7.out
            refine wpAnyH_ready (rs := [9]) (by kernel_rfl) (by simp) ?_
            refine AllReadyH.cons rfl (fun K hK => ?_) AllReadyH.nil
            rw [if_pos (by rfl)]
            go_simp
            have HR8 := Lib.hid (RtB.put HR7.out (b := b) (i := 1) (.slice q4 (n2 + 1) l4) hb4)
            have HE8 := Lib.hid (HE7.out.put 1 (.slice q4 (n2 + 1) l4))
            have HV8 := Lib.hid (own_cell10 (i := 1) (u := .slice q4 (n2 + 1) l4) HV7.out (own_ne10 HV7.out HE7.out (by decide)))
            have HC8 := Lib.hid (And.intro (own_cell10 (i := 1) (u := .slice q4 (n2 + 1) l4) HC7.out.1 (own_ne10 HC7.out.1 HE7.out (by decide))) (own_cell10 (i := 1) (u := .slice q4 (n2 + 1) l4) HC7.out.2 (own_ne10 HC7.out.2 HE7.out (by decide))))
            refine hK.out _ _ HR8.out (fun hHeld => ?_)
            clear hK K
            (try simp only [Act.put, List.setIfInBounds_toArray, List.set_cons_zero, List.set_cons_succ])
            refine wpAnyH_done (by kernel_rfl) ?_ _
            exact ⟨⟨q4, l4, HR8.out, HE8.out, HV8.out, HC8.out.1, HC8.out.2⟩, by simp only [putAll, Act.put, List.setIfInBounds_toArray, List.set_cons_zero, List.set_cons_succ]; rfl⟩
          · skip
            rw [if_pos (by rfl)]
            go_simp
            go_fit (i5 _)
            rintro e W53 ⟨rfl, hb⟩
            have HR54 := Lib.hid (HRd.out.on hb)
            have HE55 := Lib.hid (arr9_on HEd.out hb)
            have HC56 := Lib.hid (And.intro (HCd.out.1.on hb) (And.intro (HCd.out.2.1.on hb) (HCd.out.2.2.on hb)))
            clear hb
            refine hK.out _ _ HR54.out (fun hHeld => ?_)
            clear hK K
            (try simp only [Act.put, List.setIfInBounds_toArray, List.set_cons_zero, List.set_cons_succ])
            refine wpAnyH_ready (rs := [2, 5]) (by kernel_rfl) (by simp) ?_
            refine AllReadyH.cons rfl (fun K hK => ?_) (AllReadyH.cons rfl (fun K hK => ?_) AllReadyH.nil)
            · skip
              rw [if_pos (by rfl)]
              obtain ⟨⟨x0, x1, x2, x3, x4, x5, x6, x7, x8, x9⟩, y0, y1, y2, y3, y4, y5, y6, y7, y8, y9⟩ := ten_all HE55.out
              go_simp
              clear x0 x1 x2 x3 x4 x5 x6 x7 x8 x9 y0 y1 y2 y3 y4 y5 y6 y7 y8 y9
              refine hK.out _ _ HR54.out (fun hHeld => ?_)
              clear hK K
              (try simp only [Act.put, List.setIfInBounds_toArray, List.set_cons_zero, List.set_cons_succ])
              refine wpAnyH_ready (rs := [5]) (by kernel_rfl) (by simp) ?_
              refine AllReadyH.cons rfl (fun K hK => ?_) AllReadyH.nil
              rw [if_pos (by rfl)]
              go_simp
              have hb : Below W53.heap.size W53 (W53.alloc (.cells #[.string s.k, .string s.t, .string s.f, .string s.o, .int .i64 s.n, .string s.b] 28)) := (Below.refl _ _).alloc (Nat.le_refl _) _
              have HR58 := Lib.hid (HR54.out.on hb)
              have HE59 := Lib.hid (arr9_on HE55.out hb)
              have HC60 := Lib.hid (And.intro (HC56.out.1.on hb) (And.intro (HC56.out.2.1.on hb) (HC56.out.2.2.on hb)))
              have HA61 : Hid (Arr (W53.alloc (.cells #[.string s.k, .string s.t, .string s.f, .string s.o, .int .i64 s.n, .string s.b] 28)) W53.heap.size 28 (msC s)) := Lib.hid (Arr.fresh W53 28 (msC s))
              clear hb
              refine hK.out _ _ HR58.out (fun hHeld => ?_)
              clear hK K
              (try simp only [Act.put, List.setIfInBounds_toArray, List.set_cons_zero, List.set_cons_succ])
              generalize W53.heap.size = bb62 at HA61 ⊢
              generalize W53.alloc (.cells #[.string s.k, .string s.t, .string s.f, .string s.o, .int .i64 s.n, .string s.b] 28) = W57 at HR58 HE59 HC60 HA61 hHeld ⊢
              refine wpAnyH_ready (rs := [6]) (by kernel_rfl) (by simp) ?_
              refine AllReadyH.cons rfl (fun K hK => ?_) AllReadyH.nil
              rw [if_pos (by rfl)]
              refine wp_app_oneM _ _ rfl (w.heap.size + 4) _ ys rfl HC60.out.2.1 bb62 s rfl HA61.out (by rw [HY.out]; omega) HR58.out.big ?_
              intro v7 W7 hv hg
              obtain ⟨q4, l4, e4⟩ := own_shape10 hv (n := n2 + 1) (by rw [List.length_append, HY.out]; rfl)
              subst e4
              have HV7 := Lib.hid hv
              have HR7 := Lib.hid (HR58.out.grow hg (fun q hq => own_base HC60.out.2.1 q hq))
              have HE7 := Lib.hid (arr_beside10 HE59.out hg (own_ne10 HC60.out.2.1 HE59.out (by decide)))
              have HC7 := Lib.hid (And.intro (own_beside HC60.out.1 hg (own_two HC60.out.2.1 HC60.out.1 (by decide))) (own_beside HC60.out.2.2 hg (own_two HC60.out.2.1 HC60.out.2.2 (by decide))))
              clear hv hg
              refine hK.out _ _ HR7.out (fun hHeld => ?_)
              clear hK K
              (try simp only [Act.put, List.setIfInBounds_toArray, List.set_cons_zero, List.set_cons_succ])
              refine takeQ (i := 7) (k := 66) (v := .pointer (some ⟨b, 0, none⟩)) rfl (by rfl) (by kernel_rfl) (by kernel_rfl) (by kernel_rfl) (fun _ _ _ h => h) (by rfl) ?_ hHeld ?_
              · intro w1 hSw; go_simp
              (try simp only [Act.put, List.setIfInBounds_toArray, List.set_cons_zero, List.set_cons_succ])
              refine takeQ (i := 8) (k := 67) (v := .pointer (some ⟨b, 1, none⟩)) rfl (by rfl) (by kernel_rfl) (by kernel_rfl) (by kernel_rfl) (fun _ _ _ h => h) (by rfl) ?_ hHeld ?_
              · intro w1 hSw; go_simp
              (try simp only [Act.put, List.setIfInBounds_toArray, List.set_cons_zero, List.set_cons_succ])
              obtain ⟨⟨x0, x1, x2, x3, x4, x5, x6, x7, x8, x9⟩, y0, y1, y2, y3, y4, y5, y6, y7, y8, y9⟩ := ten_all HE7.out
              refine wpAnyH_ready (rs := [9]) (by kernel_rfl) (by simp) ?_
              refine AllReadyH.cons rfl (fun K hK => ?_) AllReadyH.nil
              rw [if_pos (by rfl)]
              go_simp
              have HR8 := Lib.hid (RtB.put HR7.out (b := b) (i := 1) (.slice q4 (n2 + 1) l4) hb4)
              have HE8 := Lib.hid (HE7.out.put 1 (.slice q4 (n2 + 1) l4))
              have HV8 := Lib.hid (own_cell10 (i := 1) (u := .slice q4 (n2 + 1) l4) HV7.out (own_ne10 HV7.out HE7.out (by decide)))
              have HC8 := Lib.hid (And.intro (own_cell10 (i := 1) (u := .slice q4 (n2 + 1) l4) HC7.out.1 (own_ne10 HC7.out.1 HE7.out (by decide))) (own_cell10 (i := 1) (u := .slice q4 (n2 + 1) l4) HC7.out.2 (own_ne10 HC7.out.2 HE7.out (by decide))))
              refine hK.out _ _ HR8.out (fun hHeld => ?_)
              clear hK K
              (try simp only [Act.put, List.setIfInBounds_toArray, List.set_cons_zero, List.set_cons_succ])
              refine wpAnyH_done (by kernel_rfl) ?_ _
              exact ⟨⟨q4, l4, HR8.out, HE8.out, HV8.out, HC8.out.1, HC8.out.2⟩, by simp only [putAll, Act.put, List.setIfInBounds_toArray, List.set_cons_zero, List.set_cons_succ]; rfl⟩
            · skip
              rw [if_pos (by rfl)]
              go_simp
              have hb : Below W53.heap.size W53 (W53.alloc (.cells #[.string s.k, .string s.t, .string s.f, .string s.o, .int .i64 s.n, .string s.b] 28)) := (Below.refl _ _).alloc (Nat.le_refl _) _
              have HR64 := Lib.hid (HR54.out.on hb)
              have HE65 := Lib.hid (arr9_on HE55.out hb)
              have HC66 := Lib.hid (And.intro (HC56.out.1.on hb) (And.intro (HC56.out.2.1.on hb) (HC56.out.2.2.on hb)))
              have HA67 : Hid (Arr (W53.alloc (.cells #[.string s.k, .string s.t, .string s.f, .string s.o, .int .i64 s.n, .string s.b] 28)) W53.heap.size 28 (msC s)) := Lib.hid (Arr.fresh W53 28 (msC s))
              clear hb
              refine hK.out _ _ HR64.out (fun hHeld => ?_)
              clear hK K
              (try simp only [Act.put, List.setIfInBounds_toArray, List.set_cons_zero, List.set_cons_succ])
              generalize W53.heap.size = bb68 at HA67 ⊢
              generalize W53.alloc (.cells #[.string s.k, .string s.t, .string s.f, .string s.o, .int .i64 s.n, .string s.b] 28) = W63 at HR64 HE65 HC66 HA67 hHeld ⊢
              refine wpAnyH_ready (rs := [2]) (by kernel_rfl) (by simp) ?_
              refine AllReadyH.cons rfl (fun K hK => ?_) AllReadyH.nil
              rw [if_pos (by rfl)]
              obtain ⟨⟨x0, x1, x2, x3, x4, x5, x6, x7, x8, x9⟩, y0, y1, y2, y3, y4, y5, y6, y7, y8, y9⟩ := ten_all HE65.out
              go_simp
              clear x0 x1 x2 x3 x4 x5 x6 x7 x8 x9 y0 y1 y2 y3 y4 y5 y6 y7 y8 y9
              refine hK.out _ _ HR64.out (fun hHeld => ?_)
              clear hK K
              (try simp only [Act.put, List.setIfInBounds_toArray, List.set_cons_zero, List.set_cons_succ])
              refine wpAnyH_ready (rs := [6]) (by kernel_rfl) (by simp) ?_
              refine AllReadyH.cons rfl (fun K hK => ?_) AllReadyH.nil
              rw [if_pos (by rfl)]
              refine wp_app_oneM _ _ rfl (w.heap.size + 4) _ ys rfl HC66.out.2.1 bb68 s rfl HA67.out (by rw [HY.out]; omega) HR64.out.big ?_
              intro v7 W7 hv hg
              obtain ⟨q4, l4, e4⟩ := own_shape10 hv (n := n2 + 1) (by rw [List.length_append, HY.out]; rfl)
              subst e4
              have HV7 := Lib.hid hv
              have HR7 := Lib.hid (HR64.out.grow hg (fun q hq => own_base HC66.out.2.1 q hq))
              have HE7 := Lib.hid (arr_beside10 HE65.out hg (own_ne10 HC66.out.2.1 HE65.out (by decide)))
              have HC7 := Lib.hid (And.intro (own_beside HC66.out.1 hg (own_two HC66.out.2.1 HC66.out.1 (by decide))) (own_beside HC66.out.2.2 hg (own_two HC66.out.2.1 HC66.out.2.2 (by decide))))
              clear hv hg
              refine hK.out _ _ HR7.out (fun hHeld => ?_)
              clear hK K
              (try simp only [Act.put, List.setIfInBounds_toArray, List.set_cons_zero, List.set_cons_succ])
              refine takeQ (i := 7) (k := 66) (v := .pointer (some ⟨b, 0, none⟩)) rfl (by rfl) (by kernel_rfl) (by kernel_rfl) (by kernel_rfl) (fun _ _ _ h => h) (by rfl) ?_ hHeld ?_
              · intro w1 hSw; go_simp
              (try simp only [Act.put, List.setIfInBounds_toArray, List.set_cons_zero, List.set_cons_succ])
              refine takeQ (i := 8) (k := 67) (v := .pointer (some ⟨b, 1, none⟩)) rfl (by rfl) (by kernel_rfl) (by kernel_rfl) (by kernel_rfl) (fun _ _ _ h => h) (by rfl) ?_ hHeld ?_
              · intro w1 hSw; go_simp
              (try simp only [Act.put, List.setIfInBounds_toArray, List.set_cons_zero, List.set_cons_succ])
              obtain ⟨⟨x0, x1, x2, x3, x4, x5, x6, x7, x8, x9⟩, y0, y1, y2, y3, y4, y5, y6, y7, y8, y9⟩ := ten_all HE7.out
              refine wpAnyH_ready (rs := [9]) (by kernel_rfl) (by simp) ?_
              refine AllReadyH.cons rfl (fun K hK => ?_) AllReadyH.nil
              rw [if_pos (by rfl)]
              go_simp
              have HR8 := Lib.hid (RtB.put HR7.out (b := b) (i := 1) (.slice q4 (n2 + 1) l4) hb4)
              have HE8 := Lib.hid (HE7.out.put 1 (.slice q4 (n2 + 1) l4))
              have HV8 := Lib.hid (own_cell10 (i := 1) (u := .slice q4 (n2 + 1) l4) HV7.out (own_ne10 HV7.out HE7.out (by decide)))
              have HC8 := Lib.hid (And.intro (own_cell10 (i := 1) (u := .slice q4 (n2 + 1) l4) HC7.out.1 (own_ne10 HC7.out.1 HE7.out (by decide))) (own_cell10 (i := 1) (u := .slice q4 (n2 + 1) l4) HC7.out.2 (own_ne10 HC7.out.2 HE7.out (by decide))))
              refine hK.out _ _ HR8.out (fun hHeld => ?_)
              clear hK K
              (try simp only [Act.put, List.setIfInBounds_toArray, List.set_cons_zero, List.set_cons_succ])
              refine wpAnyH_done (by kernel_rfl) ?_ _
              exact ⟨⟨q4, l4, HR8.out, HE8.out, HV8.out, HC8.out.1, HC8.out.2⟩, by simp only [putAll, Act.put, List.setIfInBounds_toArray, List.set_cons_zero, List.set_cons_succ]; rfl⟩
        · rintro vs W9 ⟨q4, l4, hR9, hE9, hV9, hC9, hT9⟩
          have HR9 := Lib.hid hR9
          have HE9 := Lib.hid hE9
          have HV9 := Lib.hid (And.intro hV9 (And.intro hC9 hT9))
          simp only [putAll, Act.put, List.setIfInBounds_toArray, List.set_cons_zero, List.set_cons_succ]
          clear hR9 hE9 hV9 hC9 hT9 x0 x1 x2 x3 x4 x5 x6 x7 x8 x9 y0 y1 y2 y3 y4 y5 y6 y7 y8 y9 m0 m1 s0 s1 s2 s3 s4 s5 t0 t1 r0 r1 r2 r3 r4 r5 r6 r7 r8 r9 u0 u1 u2 u3 u4 u5 u6 u7 u8 u9 hzA hzB hzC hzD hzb
          obtain ⟨⟨x0, x1, x2, x3, x4, x5, x6, x7, x8, x9⟩, y0, y1, y2, y3, y4, y5, y6, y7, y8, y9⟩ := ten_all HE9.out; obtain ⟨⟨m0, m1⟩, _⟩ := arr9_two HR9.out.1; obtain ⟨⟨s0, s1, s2, s3, s4, s5⟩, _⟩ := arr_six0 HR9.out.2.1; obtain ⟨⟨t0, t1⟩, _⟩ := arr9_two HR9.out.2.2.1; obtain ⟨⟨r0, r1, r2, r3, r4, r5, r6, r7, r8, r9⟩, u0, u1, u2, u3, u4, u5, u6, u7, u8, u9⟩ := ten_all HR9.out.2.2.2.1; have hzA := arr9_lt HR9.out.1; have hzB := arr9_lt HR9.out.2.1; have hzC := arr9_lt HR9.out.2.2.1; have hzD := arr9_lt HR9.out.2.2.2.1; have hzb := arr9_lt HE9.out
          go_wp2
          have hyl : (ys ++ [s]).length = n2 + 1 := by rw [List.length_append, HY.out]; rfl
          obtain rfl := HTL.out
          exact bodyPost_ret (v := .agg #[.slice q1 n1 l1, .slice q4 (n2 + 1) l4, .slice q3 0 l3, .string ⟨#[]⟩, .string ⟨#[]⟩, .string ⟨#[]⟩, .string ⟨#[]⟩, .int .i64 0, .string ⟨#[]⟩, .int .i64 0]) (results_cell_row (P := Tryz.prog) Tryz.results32 _ _ (w.heap.size + 1 + 1 + 1) 33 _ (0, 0) _ rfl (arr_put10 HR9.out.2.2.2.1 (.slice q1 n1 l1) (.slice q4 (n2 + 1) l4) (.slice q3 0 l3) (.string ⟨#[]⟩) (.string ⟨#[]⟩) (.string ⟨#[]⟩) (.string ⟨#[]⟩) (.int .i64 0) (.string ⟨#[]⟩) (.int .i64 0)) Tryz.underlying33 rfl (by kernel_rfl)) rfl
            ⟨⟨q1, l1, q4, l4, q3, l3, by unfold roV; rw [HX.out, hyl]; rfl, by rw [HX.out]; exact (own_put10 HV9.out.2.1 (by omega) (.slice q1 n1 l1) (.slice q4 (n2 + 1) l4) (.slice q3 0 l3) (.string ⟨#[]⟩) (.string ⟨#[]⟩) (.string ⟨#[]⟩) (.string ⟨#[]⟩) (.int .i64 0) (.string ⟨#[]⟩) (.int .i64 0)).mono (by omega), by rw [hyl]; exact (own_put10 HV9.out.1 (by omega) (.slice q1 n1 l1) (.slice q4 (n2 + 1) l4) (.slice q3 0 l3) (.string ⟨#[]⟩) (.string ⟨#[]⟩) (.string ⟨#[]⟩) (.string ⟨#[]⟩) (.int .i64 0) (.string ⟨#[]⟩) (.int .i64 0)).mono (by omega), (own_put10 HV9.out.2.2 (by omega) (.slice q1 n1 l1) (.slice q4 (n2 + 1) l4) (.slice q3 0 l3) (.string ⟨#[]⟩) (.string ⟨#[]⟩) (.string ⟨#[]⟩) (.string ⟨#[]⟩) (.int .i64 0) (.string ⟨#[]⟩) (.int .i64 0)).mono (by omega)⟩, below_put10 HR9.out.2.2.2.2 (by omega) (.slice q1 n1 l1) (.slice q4 (n2 + 1) l4) (.slice q3 0 l3) (.string ⟨#[]⟩) (.string ⟨#[]⟩) (.string ⟨#[]⟩) (.string ⟨#[]⟩) (.int .i64 0) (.string ⟨#[]⟩) (.int .i64 0)⟩
      · obtain rfl : R = ⟨xs, ys, [], y, 0⟩ := by rw [hR2]; exact if_neg (fun e => by subst e; rcases hcm with h | ⟨_, h⟩ <;> simp at h)
        clear hR2
        have hfin : ∀ W5 : World, RtB w W5 p1 n1 c1 p2 n2 c2 s f1 f2 → Arr W5 b 33 [.slice q1 n1 l1, .slice q2 n2 l2, .slice q3 0 l3, .string ⟨#[]⟩, .string ⟨#[]⟩, .string ⟨#[]⟩, .string ⟨#[]⟩, .int .i64 0, .string ⟨#[]⟩, .int .i64 0] → (OwnC seC W5 (w.heap.size + 4) 40 4 (.slice q1 n1 l1) xs ∧ OwnC msC W5 (w.heap.size + 4) 28 6 (.slice q2 n2 l2) ys ∧ OwnC strC W5 (w.heap.size + 4) 9 1 (.slice q3 0 l3) tl) → ∀ W6, W6 = put6b W5 b (.string y.k) (.string y.t) (.string y.f) (.string y.o) (.int .i64 y.n) (.string y.b) → RtB w W6 p1 n1 c1 p2 n2 c2 s f1 f2 ∧ OwnC seC W6 (w.heap.size + 4) 40 4 (.slice q1 n1 l1) xs ∧ OwnC msC W6 (w.heap.size + 4) 28 6 (.slice q2 n2 l2) ys ∧ OwnC strC W6 (w.heap.size + 4) 9 1 (.slice q3 0 l3) tl := by
          rintro W5 hR hE ⟨h1, h2, h3⟩ W6 rfl
          exact ⟨hR.put6b hb4 _ _ _ _ _ _, own_put6b h1 (own_ne10 h1 hE (by decide)) _ _ _ _ _ _, own_put6b h2 (own_ne10 h2 hE (by decide)) _ _ _ _ _ _, own_put6b h3 (own_ne10 h3 hE (by decide)) _ _ _ _ _ _⟩
        have HFIN := Lib.hid hfin
        clear hfin
        rcases hcm with hcm | ⟨hcm, hcm2⟩
        · go_wp2_with (first | (go_fit (i7 _ (HM.out _ HR4.out.2.2.2.2)); rintro e W5 ⟨rfl, hb⟩; have HR5 := Lib.hid (HR4.out.on hb); have HE5 := Lib.hid (arr9_on HE4.out hb); have HC5 := Lib.hid (And.intro (HC4.out.1.on hb) (And.intro (HC4.out.2.1.on hb) (HC4.out.2.2.on hb))); clear hb; obtain ⟨⟨x0, x1, x2, x3, x4, x5, x6, x7, x8, x9⟩, y0, y1, y2, y3, y4, y5, y6, y7, y8, y9⟩ := ten_all HE5.out; obtain ⟨⟨m0, m1⟩, _⟩ := arr9_two HR5.out.1; obtain ⟨⟨s0, s1, s2, s3, s4, s5⟩, _⟩ := arr_six0 HR5.out.2.1; obtain ⟨⟨t0, t1⟩, _⟩ := arr9_two HR5.out.2.2.1; obtain ⟨⟨r0, r1, r2, r3, r4, r5, r6, r7, r8, r9⟩, u0, u1, u2, u3, u4, u5, u6, u7, u8, u9⟩ := ten_all HR5.out.2.2.2.1; have hzA := arr9_lt HR5.out.1; have hzB := arr9_lt HR5.out.2.1; have hzC := arr9_lt HR5.out.2.2.1; have hzD := arr9_lt HR5.out.2.2.2.1; have hzb := arr9_lt HE5.out))
          obtain ⟨hR6, k1, k2, k3⟩ := HFIN.out _ HR5.out HE5.out HC5.out _ rfl
          obtain rfl := HTL.out
          have hA := arr9_on (arr_put10 hR6.2.2.2.1 (.slice q1 n1 l1) (.slice q2 n2 l2) (.slice q3 0 l3) (.string y.k) (.string y.t) (.string y.f) (.string y.o) (.int .i64 y.n) (.string y.b) (.int .i64 0)) ((Below.refl _ _).alloc (Nat.le_refl _) (.cells #[.string y.k, .string y.t, .string y.f, .string y.o, .int .i64 y.n, .string y.b] 28))
          have hBw := below_put10 hR6.2.2.2.2 (show w.heap.size ≤ w.heap.size + 1 + 1 + 1 by omega) (.slice q1 n1 l1) (.slice q2 n2 l2) (.slice q3 0 l3) (.string y.k) (.string y.t) (.string y.f) (.string y.o) (.int .i64 y.n) (.string y.b) (.int .i64 0)
          exact bodyPost_ret (v := .agg #[.slice q1 n1 l1, .slice q2 n2 l2, .slice q3 0 l3, .string y.k, .string y.t, .string y.f, .string y.o, .int .i64 y.n, .string y.b, .int .i64 0]) (results_cell_row (P := Tryz.prog) Tryz.results32 _ _ (w.heap.size + 1 + 1 + 1) 33 _ (0, 0) _ rfl hA Tryz.underlying33 rfl (by kernel_rfl)) rfl
            ⟨⟨q1, l1, q2, l2, q3, l3, by unfold roV; rw [HX.out, HY.out]; rfl, by rw [HX.out]; exact ((own_put10 k1 (by omega) (.slice q1 n1 l1) (.slice q2 n2 l2) (.slice q3 0 l3) (.string y.k) (.string y.t) (.string y.f) (.string y.o) (.int .i64 y.n) (.string y.b) (.int .i64 0)).alloc (.cells #[.string y.k, .string y.t, .string y.f, .string y.o, .int .i64 y.n, .string y.b] 28)).mono (by omega), by rw [HY.out]; exact ((own_put10 k2 (by omega) (.slice q1 n1 l1) (.slice q2 n2 l2) (.slice q3 0 l3) (.string y.k) (.string y.t) (.string y.f) (.string y.o) (.int .i64 y.n) (.string y.b) (.int .i64 0)).alloc (.cells #[.string y.k, .string y.t, .string y.f, .string y.o, .int .i64 y.n, .string y.b] 28)).mono (by omega), ((own_put10 k3 (by omega) (.slice q1 n1 l1) (.slice q2 n2 l2) (.slice q3 0 l3) (.string y.k) (.string y.t) (.string y.f) (.string y.o) (.int .i64 y.n) (.string y.b) (.int .i64 0)).alloc (.cells #[.string y.k, .string y.t, .string y.f, .string y.o, .int .i64 y.n, .string y.b] 28)).mono (by omega)⟩, hBw.alloc hBw.size (.cells #[.string y.k, .string y.t, .string y.f, .string y.o, .int .i64 y.n, .string y.b] 28)⟩
        · go_wp2_with (first | (go_fit (i7 _ (HM.out _ HR4.out.2.2.2.2)); rintro e W5 ⟨rfl, hb⟩; have HR5 := Lib.hid (HR4.out.on hb); have HE5 := Lib.hid (arr9_on HE4.out hb); have HC5 := Lib.hid (And.intro (HC4.out.1.on hb) (And.intro (HC4.out.2.1.on hb) (HC4.out.2.2.on hb))); clear hb; obtain ⟨⟨x0, x1, x2, x3, x4, x5, x6, x7, x8, x9⟩, y0, y1, y2, y3, y4, y5, y6, y7, y8, y9⟩ := ten_all HE5.out; obtain ⟨⟨m0, m1⟩, _⟩ := arr9_two HR5.out.1; obtain ⟨⟨s0, s1, s2, s3, s4, s5⟩, _⟩ := arr_six0 HR5.out.2.1; obtain ⟨⟨t0, t1⟩, _⟩ := arr9_two HR5.out.2.2.1; obtain ⟨⟨r0, r1, r2, r3, r4, r5, r6, r7, r8, r9⟩, u0, u1, u2, u3, u4, u5, u6, u7, u8, u9⟩ := ten_all HR5.out.2.2.2.1; have hzA := arr9_lt HR5.out.1; have hzB := arr9_lt HR5.out.2.1; have hzC := arr9_lt HR5.out.2.2.1; have hzD := arr9_lt HR5.out.2.2.2.1; have hzb := arr9_lt HE5.out))
          obtain ⟨hR6, k1, k2, k3⟩ := HFIN.out _ HR5.out HE5.out HC5.out _ rfl
          obtain rfl := HTL.out
          have hA := arr9_on (arr_put10 hR6.2.2.2.1 (.slice q1 n1 l1) (.slice q2 n2 l2) (.slice q3 0 l3) (.string y.k) (.string y.t) (.string y.f) (.string y.o) (.int .i64 y.n) (.string y.b) (.int .i64 0)) ((Below.refl _ _).alloc (Nat.le_refl _) (.cells #[.string y.k, .string y.t, .string y.f, .string y.o, .int .i64 y.n, .string y.b] 28))
          have hBw := below_put10 hR6.2.2.2.2 (show w.heap.size ≤ w.heap.size + 1 + 1 + 1 by omega) (.slice q1 n1 l1) (.slice q2 n2 l2) (.slice q3 0 l3) (.string y.k) (.string y.t) (.string y.f) (.string y.o) (.int .i64 y.n) (.string y.b) (.int .i64 0)
          exact bodyPost_ret (v := .agg #[.slice q1 n1 l1, .slice q2 n2 l2, .slice q3 0 l3, .string y.k, .string y.t, .string y.f, .string y.o, .int .i64 y.n, .string y.b, .int .i64 0]) (results_cell_row (P := Tryz.prog) Tryz.results32 _ _ (w.heap.size + 1 + 1 + 1) 33 _ (0, 0) _ rfl hA Tryz.underlying33 rfl (by kernel_rfl)) rfl
            ⟨⟨q1, l1, q2, l2, q3, l3, by unfold roV; rw [HX.out, HY.out]; rfl, by rw [HX.out]; exact ((own_put10 k1 (by omega) (.slice q1 n1 l1) (.slice q2 n2 l2) (.slice q3 0 l3) (.string y.k) (.string y.t) (.string y.f) (.string y.o) (.int .i64 y.n) (.string y.b) (.int .i64 0)).alloc (.cells #[.string y.k, .string y.t, .string y.f, .string y.o, .int .i64 y.n, .string y.b] 28)).mono (by omega), by rw [HY.out]; exact ((own_put10 k2 (by omega) (.slice q1 n1 l1) (.slice q2 n2 l2) (.slice q3 0 l3) (.string y.k) (.string y.t) (.string y.f) (.string y.o) (.int .i64 y.n) (.string y.b) (.int .i64 0)).alloc (.cells #[.string y.k, .string y.t, .string y.f, .string y.o, .int .i64 y.n, .string y.b] 28)).mono (by omega), ((own_put10 k3 (by omega) (.slice q1 n1 l1) (.slice q2 n2 l2) (.slice q3 0 l3) (.string y.k) (.string y.t) (.string y.f) (.string y.o) (.int .i64 y.n) (.string y.b) (.int .i64 0)).alloc (.cells #[.string y.k, .string y.t, .string y.f, .string y.o, .int .i64 y.n, .string y.b] 28)).mono (by omega)⟩, hBw.alloc hBw.size (.cells #[.string y.k, .string y.t, .string y.f, .string y.o, .int .i64 y.n, .string y.b] 28)⟩
end Go.Proofs.YtafdjjdmcnlddaaGreat

namespace Go.Proofs.YtafdjjdmcnlddaaGreat
set_option linter.unusedSimpArgs false
set_option linter.unusedVariables false
open Go.RowKit Go.Joins

theorem rtd_T (k : ByteArray) (T : RtL) (xs : List SeL) (ys : List MsL) (s : MsL) : rtdR k xs ys s (T.to (resA s.o) xs) (T.rest ys s) = routeR k T xs ys s := by
  unfold rtdR routeR withT
  rfl
theorem rout_k {k : ByteArray} {xs : List SeL} {ys : List MsL} {s : MsL} (h : routB k xs ys s = true) : s.k.toList = k.toList := by
  unfold routB at h
  simp only [Bool.and_eq_true, beq_iff_eq] at h
  exact h.1.2
theorem cmp_z {k : ByteArray} {xs : List SeL} {ys : List MsL} {s : MsL} (hk : k.toList ≠ []) (h : routB k xs ys s = true) : (zMs.k.toList == s.k.toList) = false := by
  rw [rout_k h]
  have e : zMs.k.toList = [] := by rw [ByteArray.toList_eq]; rfl
  rw [e]
  cases hq : k.toList with
  | nil => exact absurd hq hk
  | cons a l => rfl
theorem cmp_flt {k : ByteArray} {xs : List SeL} {ys : List MsL} {s : MsL} {nm : ByteArray} (hk : k.toList ≠ []) (h : routB k xs ys s = true) :
    ((fltM s nm).k.toList == s.k.toList) = false ∨ ((fltM s nm).k.toList == s.k.toList) = true ∧ ((fltM s nm).t.toList == s.t.toList) = false := by
  unfold fltM
  split
  · exact .inl (cmp_z hk h)
  · rename_i h1
    unfold repM
    split
    · refine .inr ⟨by simp, ?_⟩
      simp only [Bool.or_eq_true, not_or] at h1
      have h2 : (s.t.toList == errS.toList) = false := by simpa using h1.1
      rw [beq_eq_false_iff_ne] at h2 ⊢
      exact fun e => h2 e.symm
    · exact .inl (cmp_z hk h)
def trV (f1 f2 : Nat) : Value := .agg #[.func (.func f1) #[] #[], .func (.func f2) #[] #[]]
theorem get_list : getS.toList = [103, 101, 116] := by rw [ByteArray.toList_eq]; rfl
theorem set_list : setS.toList = [115, 101, 116] := by rw [ByteArray.toList_eq]; rfl
theorem tr_box (w : World) : Arr (w.alloc (.cells #[.nilFunc, .nilFunc] 63)) w.heap.size 63 [.nilFunc, .nilFunc] ∧
    (w.alloc (.cells #[.nilFunc, .nilFunc] 63)).cell? ⟨w.heap.size, 0, none⟩ = some .nilFunc ∧ (w.alloc (.cells #[.nilFunc, .nilFunc] 63)).cell? ⟨w.heap.size, 1, none⟩ = some .nilFunc ∧
    (w.alloc (.cells #[.nilFunc, .nilFunc] 63)).frozen? ⟨w.heap.size, 0, none⟩ = false ∧ (w.alloc (.cells #[.nilFunc, .nilFunc] 63)).frozen? ⟨w.heap.size, 1, none⟩ = false := by
  have h := Arr.fresh w 63 [.nilFunc, .nilFunc]
  exact ⟨h, h.cell 0, h.cell 1, h.free 0, h.free 1⟩
theorem tr_s1 (w : World) (v : Value) (hv : v.oneCell' = true) : (store ⟨w.heap.size, 0, none⟩ v).run Tryz.prog (w.alloc (.cells #[.nilFunc, .nilFunc] 63)) = .ok () (w.alloc (.cells #[v, .nilFunc] 63)) := by
  obtain ⟨hA, a0, a1, u0, u1⟩ := tr_box w
  rw [run_store _ _ _ _ _ hv]
  simp only [a0, u0]
  go_simp
theorem tr_s2 (w : World) (v1 v2 : Value) (hv : v2.oneCell' = true) : (store ⟨w.heap.size, 1, none⟩ v2).run Tryz.prog (w.alloc (.cells #[v1, .nilFunc] 63)) = .ok () (w.alloc (.cells #[v1, v2] 63)) := by
  have h := Arr.fresh w 63 [v1, .nilFunc]
  have e1 : (w.alloc (.cells #[v1, .nilFunc] 63)).cell? ⟨w.heap.size, 1, none⟩ = some .nilFunc := h.cell 1
  have e2 : (w.alloc (.cells #[v1, .nilFunc] 63)).frozen? ⟨w.heap.size, 1, none⟩ = false := h.free 1
  rw [run_store _ _ _ _ _ hv]
  simp only [e1, e2]
  go_simp
theorem tr_end {fn : Func} (w : World) (tmps : Array Value) (p : Tmp) (v1 v2 : Value) (hr : fn.results = #[ResultVar.cell p 63]) (ht : tmps.getD p undef = .pointer (some ⟨w.heap.size, 0, none⟩)) :
    bodyPost Tryz.prog fn (fun e w' => e = .returned (.agg #[v1, v2]) ∧ Below w.heap.size w w') .ret ⟨tmps, []⟩ (w.alloc (.cells #[v1, v2] 63)) :=
  bodyPost_ret (v := .agg #[v1, v2]) (results_cell_row (P := Tryz.prog) hr _ _ w.heap.size 63 _ (0, 0) _ ht (Arr.fresh w 63 [v1, v2]) Tryz.underlying63 rfl (by kernel_rfl)) rfl ⟨rfl, (Below.refl _ _).alloc (Nat.le_refl _) _⟩
def iqF (t : ByteArray) : Nat × Nat := if (t.toList == getS.toList) || (t.toList == setS.toList) then (85, 63) else (85, 50)
set_option maxHeartbeats 1000000 in
theorem impl_iqtr (t : ByteArray) (w : World) : Calls Tryz.prog 48 #[.string t] w fun e w' => e = .returned (trV (iqF t).1 (iqF t).2) ∧ Below w.heap.size w w' := by
  unfold iqF trV
  rw [get_list, set_list]
  cases h1 : (t.toList == [103, 101, 116])
  · cases h2 : (t.toList == [115, 101, 116])
    · have e1 := tr_s1 w (.func (.func 85) #[] #[]) rfl
      have e2 := tr_s2 w (.func (.func 85) #[] #[]) (.func (.func 50) #[] #[]) rfl
      go_enter Tryz.func48, Tryz.ntmps48
      go_wp2
      exact tr_end w _ _ (.func (.func 85) #[] #[]) (.func (.func 50) #[] #[]) Tryz.results48 (by rfl)
    · have e1 := tr_s1 w (.func (.func 85) #[] #[]) rfl
      have e2 := tr_s2 w (.func (.func 85) #[] #[]) (.func (.func 63) #[] #[]) rfl
      go_enter Tryz.func48, Tryz.ntmps48
      go_wp2
      exact tr_end w _ _ (.func (.func 85) #[] #[]) (.func (.func 63) #[] #[]) Tryz.results48 (by rfl)
  · have e1 := tr_s1 w (.func (.func 85) #[] #[]) rfl
    have e2 := tr_s2 w (.func (.func 85) #[] #[]) (.func (.func 63) #[] #[]) rfl
    go_enter Tryz.func48, Tryz.ntmps48
    go_wp2
    exact tr_end w _ _ (.func (.func 85) #[] #[]) (.func (.func 63) #[] #[]) Tryz.results48 (by rfl)
/-- What a route asks of its treatment. -/
def TrOk (T : RtL) (k : ByteArray) (xs : List SeL) (ys : List MsL) (s : MsL) (f1 f2 : Nat) : Prop :=
  (routB k xs ys s = true → T.rest ys s = s ∨ ((T.rest ys s).k.toList == s.k.toList) = false ∨ ((T.rest ys s).k.toList == s.k.toList) = true ∧ ((T.rest ys s).t.toList == s.t.toList) = false) ∧
  (∀ args W, (callFunc f1 args).run Tryz.prog W = .ok (.enter f1 args) W) ∧ (∀ args W, (callFunc f2 args).run Tryz.prog W = .ok (.enter f2 args) W) ∧
  (∀ (p1 : Option Addr) (c1 : Nat) (W : World), routB k xs ys s = true → RowC seC 4 W p1 xs → Calls Tryz.prog f1 #[.slice p1 xs.length c1, .string (resA s.o)] W fun e w' => StIs W.heap.size (T.to (resA s.o) xs) e w' ∧ Below W.heap.size W w') ∧
  (∀ (p1 p2 : Option Addr) (n1 c1 c2 : Nat) (W : World), MaxL W → Calls Tryz.prog f2 #[.agg #[.slice p1 n1 c1, .slice p2 ys.length c2], msV s] W fun e w' => e = .returned (msV (T.rest ys s)) ∧ Below W.heap.size W w')
theorem run_enter10 {P : Program} {f : FuncId} {fn : Func} {c : Code} (hf : P.funcs[f]? = some fn) (hname : (fn.name == "runtime.NumGoroutine") = false) (hb : fn.body = some c) (args : Array Value) (w : World) : (callFunc f args).run P w = .ok (.enter f args) w := by
  have h1 : fn.name ≠ "runtime.NumGoroutine" := by simpa using hname
  simp [callFunc, hf, h1, hb]
theorem call_toBound : ∀ args W, (callFunc 85 args).run Tryz.prog W = .ok (.enter 85 args) W := fun args W => run_enter10 Tryz.func85 (by kernel_rfl) rfl args W
theorem call_keepNothing : ∀ args W, (callFunc 50 args).run Tryz.prog W = .ok (.enter 50 args) W := fun args W => run_enter10 Tryz.func50 (by kernel_rfl) rfl args W
theorem call_answerUnavailable : ∀ args W, (callFunc 63 args).run Tryz.prog W = .ok (.enter 63 args) W := fun args W => run_enter10 Tryz.func63 (by kernel_rfl) rfl args W
theorem iq_list : kIq.toList = [105, 113] := by rw [ByteArray.toList_eq]; rfl
theorem iq_ne : kIq.toList ≠ [] := by rw [iq_list]; decide
theorem five {k : ByteArray} {xs : List SeL} {ys : List MsL} {s : MsL} (h : routB k xs ys s = true) : xs.length ≤ 5 := by
  unfold routB at h
  simp only [Bool.and_eq_true] at h
  exact (okB_iff.1 (mb_parts h.1.1.1).1).1
theorem ok_ask (k : ByteArray) (hk : k.toList ≠ []) (xs : List SeL) (ys : List MsL) (s : MsL) (hw : SzS xs) (hs : s.le 1048576) : TrOk askT k xs ys s 85 63 :=
  ⟨fun h => .inr (cmp_flt hk h), call_toBound, call_answerUnavailable, fun p1 c1 W hr h => to_bound xs _ p1 c1 W (by have := five hr; omega) hw h, fun p1 p2 n1 c1 c2 W hm => rest_unav p1 n1 c1 p2 ys.length c2 s W hs hm⟩
theorem ok_tell (k : ByteArray) (hk : k.toList ≠ []) (xs : List SeL) (ys : List MsL) (s : MsL) (hw : SzS xs) : TrOk tellT k xs ys s 85 50 :=
  ⟨fun h => .inr (.inl (cmp_z hk h)), call_toBound, call_keepNothing, fun p1 c1 W hr h => to_bound xs _ p1 c1 W (by have := five hr; omega) hw h, fun p1 p2 n1 c1 c2 W _ => rest_none p1 n1 c1 p2 ys.length c2 s W⟩
/-- routed, by a treatment. -/
theorem impl_routT (T : RtL) (k : ByteArray) (xs : List SeL) (ys : List MsL) (p1 p2 : Option Addr) (n1 n2 c1 c2 : Nat) (s : MsL) (f1 f2 : Nat) (w : World) (hx : xs.length = n1) (hy : ys.length = n2) (hn1 : n1 ≤ 1048576) (hn2 : n2 ≤ 1048576) (hw : SzS xs) (hw2 : SzM ys) (hs : s.le 1048576) (hR1 : RowC seC 4 w p1 xs) (hR2 : RowC msC 6 w p2 ys) (hm : MaxL w)
    (hT : TrOk T k xs ys s f1 f2) :
    Calls Tryz.prog 32 #[.agg #[.slice p1 n1 c1, .slice p2 n2 c2], .agg #[.string s.k, .string s.t, .string s.f, .string s.o, .int .i64 s.n, .string s.b], .string k, trV f1 f2] w fun e w' => RoIs w.heap.size (routeR k T xs ys s) e w' ∧ Below w.heap.size w w' := by
  obtain ⟨q1, q2, q3, q4, q5⟩ := hT
  rw [← rtd_T]
  subst hx hy
  exact impl_routed k xs ys p1 p2 _ _ c1 c2 s _ _ f1 f2 w rfl rfl hn1 hn2 hw hw2 hs hR1 hR2 hm q1 q2 q3 (fun W hr h => q4 p1 c1 W hr h) (fun W _ h => q5 p1 p2 _ c1 c2 W h)
theorem ok_iq (xs : List SeL) (ys : List MsL) (s : MsL) (hw : SzS xs) (hs : s.le 1048576) : TrOk (iqT s.t) kIq xs ys s (iqF s.t).1 (iqF s.t).2 := by
  unfold iqT iqF
  split
  · exact ok_ask _ iq_ne _ _ _ hw hs
  · exact ok_tell _ iq_ne _ _ _ hw
/-- The boxes of a route. -/
def RqB (w W : World) (p1 : Option Addr) (n1 c1 : Nat) (p2 : Option Addr) (n2 c2 : Nat) (s : MsL) : Prop := Arr W w.heap.size 26 [.slice p1 n1 c1, .slice p2 n2 c2] ∧ Arr W (w.heap.size + 1) 28 [.string s.k, .string s.t, .string s.f, .string s.o, .int .i64 s.n, .string s.b] ∧ Arr W (w.heap.size + 1 + 1) 33 [.slice none 0 0, .slice none 0 0, .slice none 0 0, .string ⟨#[]⟩, .string ⟨#[]⟩, .string ⟨#[]⟩, .string ⟨#[]⟩, .int .i64 0, .string ⟨#[]⟩, .int .i64 0] ∧ Below w.heap.size w W
theorem RqB.on {w W W2 : World} {p1 : Option Addr} {n1 c1 : Nat} {p2 : Option Addr} {n2 c2 : Nat} {s : MsL} (h : RqB w W p1 n1 c1 p2 n2 c2 s) (hb : Below W.heap.size W W2) : RqB w W2 p1 n1 c1 p2 n2 c2 s := ⟨arr9_on h.1 hb, arr9_on h.2.1 hb, arr9_on h.2.2.1 hb, h.2.2.2.trans (hb.mono h.2.2.2.size)⟩
theorem RqB.big {w W : World} {p1 : Option Addr} {n1 c1 : Nat} {p2 : Option Addr} {n2 c2 : Nat} {s : MsL} (h : RqB w W p1 n1 c1 p2 n2 c2 s) : w.heap.size + 3 ≤ W.heap.size := by have := arr9_lt h.2.2.1; omega
theorem rqb_start (w : World) (p1 : Option Addr) (n1 c1 : Nat) (p2 : Option Addr) (n2 c2 : Nat) (s : MsL) : RqB w (((w.alloc (.cells #[.slice p1 n1 c1, .slice p2 n2 c2] 26)).alloc (.cells #[.string s.k, .string s.t, .string s.f, .string s.o, .int .i64 s.n, .string s.b] 28)).alloc (.cells #[.slice none 0 0, .slice none 0 0, .slice none 0 0, .string ⟨#[]⟩, .string ⟨#[]⟩, .string ⟨#[]⟩, .string ⟨#[]⟩, .int .i64 0, .string ⟨#[]⟩, .int .i64 0] 33)) p1 n1 c1 p2 n2 c2 s := by
  have h1 := Arr.fresh (w.alloc (.cells #[.slice p1 n1 c1, .slice p2 n2 c2] 26)) 28 [.string s.k, .string s.t, .string s.f, .string s.o, .int .i64 s.n, .string s.b]
  have h2 := Arr.fresh ((w.alloc (.cells #[.slice p1 n1 c1, .slice p2 n2 c2] 26)).alloc (.cells #[.string s.k, .string s.t, .string s.f, .string s.o, .int .i64 s.n, .string s.b] 28)) 33 [.slice none 0 0, .slice none 0 0, .slice none 0 0, .string ⟨#[]⟩, .string ⟨#[]⟩, .string ⟨#[]⟩, .string ⟨#[]⟩, .int .i64 0, .string ⟨#[]⟩, .int .i64 0]
  simp only [World.size_alloc] at h1 h2
  have al : ∀ (W : World) (o : Obj), Below W.heap.size W (W.alloc o) := fun W o => (Below.refl _ _).alloc (Nat.le_refl _) _
  exact ⟨arr9_on (arr9_on (Arr.fresh w 26 [.slice p1 n1 c1, .slice p2 n2 c2]) (al _ _)) (al _ _), arr9_on h1 (al _ _), h2, (((Below.refl _ _).alloc (Nat.le_refl _) _).alloc (by simp) _).alloc (by simp; omega) _⟩
set_option maxRecDepth 100000 in
set_option maxHeartbeats 2000000 in
theorem impl_riq (xs : List SeL) (ys : List MsL) (p1 p2 : Option Addr) (n1 n2 c1 c2 : Nat) (s : MsL) (w : World) (hx : xs.length = n1) (hy : ys.length = n2) (hn1 : n1 ≤ 1048576) (hn2 : n2 ≤ 1048576) (hw : SzS xs) (hw2 : SzM ys) (hs : s.le 1048576) (hR1 : RowC seC 4 w p1 xs) (hR2 : RowC msC 6 w p2 ys) (hm : MaxL w) :
    Calls Tryz.prog 21 #[.agg #[.slice p1 n1 c1, .slice p2 n2 c2], .agg #[.string s.k, .string s.t, .string s.f, .string s.o, .int .i64 s.n, .string s.b]] w fun e w' => RoIs w.heap.size (iqR xs ys s) e w' ∧ Below w.heap.size w w' := by
  have i1 := fun W => impl_iqtr s.t W
  have i2 := fun W h1 h2 hm => impl_routT (iqT s.t) kIq xs ys p1 p2 n1 n2 c1 c2 s _ _ W hx hy hn1 hn2 hw hw2 hs h1 h2 hm (ok_iq xs ys s hw hs)
  unfold iqR
  obtain ⟨R, hR⟩ : ∃ R, routeR kIq (iqT s.t) xs ys s = R := ⟨_, rfl⟩
  rw [hR] at i2 ⊢
  obtain ⟨g1, hg1⟩ : ∃ g, (iqF s.t).1 = g := ⟨_, rfl⟩
  obtain ⟨g2, hg2⟩ : ∃ g, (iqF s.t).2 = g := ⟨_, rfl⟩
  rw [hg1, hg2] at i1 i2
  unfold RoIs roV at i2
  unfold trV at i1 i2
  unfold kIq at i2
  have HQ := Lib.hid (rqb_start w p1 n1 c1 p2 n2 c2 s)
  have HM := Lib.hid (fun W (h : Below w.heap.size w W) => hm.below h hm.pos)
  have HP1 := Lib.hid (fun W (h : Below w.heap.size w W) => hR1.on h)
  have HP2 := Lib.hid (fun W (h : Below w.heap.size w W) => hR2.on h)
  clear hR hx hy hw hw2 hs hR1 hR2 hm hg1 hg2
  go_enter Tryz.func21, Tryz.ntmps21
  go_wp2
  refine wp_region_held_drew (S := fun W => Arr W w.heap.size 26 [.slice p1 n1 c1, .slice p2 n2 c2] ∧ Arr W (w.heap.size + 1) 28 [.string s.k, .string s.t, .string s.f, .string s.o, .int .i64 s.n, .string s.b]) (by kernel_rfl) ⟨(HQ.out.on (Below.refl _ _).drew).1, (HQ.out.on (Below.refl _ _).drew).2.1⟩ (fun hHeld => ?_)
  have HQ0 := Lib.hid (HQ.out.on (Below.refl _ _).drew)
  generalize World.drew _ = wd at HQ0 hHeld ⊢
  refine takeQ (i := 0) (k := 5) (v := .agg #[.slice p1 n1 c1, .slice p2 n2 c2]) rfl (by rfl) (by kernel_rfl) (by kernel_rfl) (by kernel_rfl) (fun _ _ _ h => h) (by rfl) ?_ hHeld ?_
  · intro w1 hSw; obtain ⟨⟨m0, m1⟩, _⟩ := arr9_two hSw.1; obtain ⟨⟨s0, s1, s2, s3, s4, s5⟩, _⟩ := arr_six0 hSw.2; go_simp
  (try simp only [Act.put, List.setIfInBounds_toArray, List.set_cons_zero, List.set_cons_succ])
  refine takeQ (i := 1) (k := 6) (v := .agg #[.string s.k, .string s.t, .string s.f, .string s.o, .int .i64 s.n, .string s.b]) rfl (by rfl) (by kernel_rfl) (by kernel_rfl) (by kernel_rfl) (fun _ _ _ h => h) (by rfl) ?_ hHeld ?_
  · intro w1 hSw; obtain ⟨⟨m0, m1⟩, _⟩ := arr9_two hSw.1; obtain ⟨⟨s0, s1, s2, s3, s4, s5⟩, _⟩ := arr_six0 hSw.2; go_simp
  (try simp only [Act.put, List.setIfInBounds_toArray, List.set_cons_zero, List.set_cons_succ])
  refine takeQ (i := 2) (k := 7) (v := .pointer (some ⟨w.heap.size + 1, 1, none⟩)) rfl (by rfl) (by kernel_rfl) (by kernel_rfl) (by kernel_rfl) (fun _ _ _ h => h) (by rfl) ?_ hHeld ?_
  · intro w1 hSw; obtain ⟨⟨m0, m1⟩, _⟩ := arr9_two hSw.1; obtain ⟨⟨s0, s1, s2, s3, s4, s5⟩, _⟩ := arr_six0 hSw.2; go_simp
  (try simp only [Act.put, List.setIfInBounds_toArray, List.set_cons_zero, List.set_cons_succ])
  refine takeQ (i := 3) (k := 8) (v := .string s.t) rfl (by rfl) (by kernel_rfl) (by kernel_rfl) (by kernel_rfl) (fun _ _ _ h => h) (by rfl) ?_ hHeld ?_
  · intro w1 hSw; obtain ⟨⟨m0, m1⟩, _⟩ := arr9_two hSw.1; obtain ⟨⟨s0, s1, s2, s3, s4, s5⟩, _⟩ := arr_six0 hSw.2; go_simp
  (try simp only [Act.put, List.setIfInBounds_toArray, List.set_cons_zero, List.set_cons_succ])
  refine wpAnyH_ready (rs := [4]) (by kernel_rfl) (by simp) ?_
  refine AllReadyH.cons rfl (fun K hK => ?_) AllReadyH.nil
  rw [if_pos (by rfl)]
  go_simp
  go_fit (i1 _)
  rintro e w1 ⟨rfl, hb⟩
  have HQ1 := Lib.hid (HQ0.out.on hb)
  clear hb
  refine hK.out _ _ ⟨HQ1.out.1, HQ1.out.2.1⟩ (fun hHeld => ?_)
  clear hK K
  (try simp only [Act.put, List.setIfInBounds_toArray, List.set_cons_zero, List.set_cons_succ])
  refine wpAnyH_ready (rs := [5]) (by kernel_rfl) (by simp) ?_
  refine AllReadyH.cons rfl (fun K hK => ?_) AllReadyH.nil
  rw [if_pos (by rfl)]
  go_simp
  go_fit (i2 _ (HP1.out _ HQ1.out.2.2.2) (HP2.out _ HQ1.out.2.2.2) (HM.out _ HQ1.out.2.2.2))
  rintro e w2 ⟨⟨q1, l1, q2, l2, q3, l3, rfl, h1, h2, h3⟩, hb⟩
  have HQ2 := Lib.hid (HQ1.out.on hb)
  have HO := Lib.hid (And.intro (h1.mono HQ1.out.big) (And.intro (h2.mono HQ1.out.big) (h3.mono HQ1.out.big)))
  clear hb h1 h2 h3
  refine hK.out _ _ ⟨HQ2.out.1, HQ2.out.2.1⟩ (fun hHeld => ?_)
  clear hK K
  (try simp only [Act.put, List.setIfInBounds_toArray, List.set_cons_zero, List.set_cons_succ])
  obtain ⟨⟨r0, r1, r2, r3, r4, r5, r6, r7, r8, r9⟩, u0, u1, u2, u3, u4, u5, u6, u7, u8, u9⟩ := ten_all HQ2.out.2.2.1
  refine wpAnyH_ready (rs := [6]) (by kernel_rfl) (by simp) ?_
  refine AllReadyH.cons rfl (fun K hK => ?_) AllReadyH.nil
  rw [if_pos (by rfl)]
  go_simp
  have hf1 := arr_far10 HQ2.out.1 (show w.heap.size ≠ w.heap.size + 1 + 1 by omega) (.slice q1 R.l.length l1) (.slice q2 R.ks.length l2) (.slice q3 R.to.length l3) (.string R.bk.k) (.string R.bk.t) (.string R.bk.f) (.string R.bk.o) (.int .i64 R.bk.n) (.string R.bk.b) (.int .i64 R.c)
  have hf2 := arr_far10 HQ2.out.2.1 (show w.heap.size + 1 ≠ w.heap.size + 1 + 1 by omega) (.slice q1 R.l.length l1) (.slice q2 R.ks.length l2) (.slice q3 R.to.length l3) (.string R.bk.k) (.string R.bk.t) (.string R.bk.f) (.string R.bk.o) (.int .i64 R.bk.n) (.string R.bk.b) (.int .i64 R.c)
  refine hK.out _ _ ⟨hf1, hf2⟩ (fun hHeld => ?_)
  clear hK K
  (try simp only [Act.put, List.setIfInBounds_toArray, List.set_cons_zero, List.set_cons_succ])
  refine wpAnyH_done (by kernel_rfl) ?_ _
  clear hHeld
  (try go_wp2)
  exact bodyPost_ret (v := .agg #[.slice q1 R.l.length l1, .slice q2 R.ks.length l2, .slice q3 R.to.length l3, .string R.bk.k, .string R.bk.t, .string R.bk.f, .string R.bk.o, .int .i64 R.bk.n, .string R.bk.b, .int .i64 R.c]) (results_cell_row (P := Tryz.prog) Tryz.results21 _ _ (w.heap.size + 1 + 1) 33 _ (0, 0) _ rfl (arr_put10 HQ2.out.2.2.1 (.slice q1 R.l.length l1) (.slice q2 R.ks.length l2) (.slice q3 R.to.length l3) (.string R.bk.k) (.string R.bk.t) (.string R.bk.f) (.string R.bk.o) (.int .i64 R.bk.n) (.string R.bk.b) (.int .i64 R.c)) Tryz.underlying33 rfl (by kernel_rfl)) rfl
    ⟨⟨q1, l1, q2, l2, q3, l3, rfl, (own_put10 HO.out.1 (by omega) (.slice q1 R.l.length l1) (.slice q2 R.ks.length l2) (.slice q3 R.to.length l3) (.string R.bk.k) (.string R.bk.t) (.string R.bk.f) (.string R.bk.o) (.int .i64 R.bk.n) (.string R.bk.b) (.int .i64 R.c)).mono (by omega), (own_put10 HO.out.2.1 (by omega) (.slice q1 R.l.length l1) (.slice q2 R.ks.length l2) (.slice q3 R.to.length l3) (.string R.bk.k) (.string R.bk.t) (.string R.bk.f) (.string R.bk.o) (.int .i64 R.bk.n) (.string R.bk.b) (.int .i64 R.c)).mono (by omega), (own_put10 HO.out.2.2 (by omega) (.slice q1 R.l.length l1) (.slice q2 R.ks.length l2) (.slice q3 R.to.length l3) (.string R.bk.k) (.string R.bk.t) (.string R.bk.f) (.string R.bk.o) (.int .i64 R.bk.n) (.string R.bk.b) (.int .i64 R.c)).mono (by omega)⟩, below_put10 HQ2.out.2.2.2 (by omega) (.slice q1 R.l.length l1) (.slice q2 R.ks.length l2) (.slice q3 R.to.length l3) (.string R.bk.k) (.string R.bk.t) (.string R.bk.f) (.string R.bk.o) (.int .i64 R.bk.n) (.string R.bk.b) (.int .i64 R.c)⟩
end Go.Proofs.YtafdjjdmcnlddaaGreat

namespace Go.Proofs.YtafdjjdmcnlddaaGreat
set_option linter.unusedSimpArgs false
set_option linter.unusedVariables false
open Go.RowKit Go.Joins

theorem results_triple {fn : Func} {p q r : Tmp} {ty : TypeId} (h : fn.results = #[.cell p ty, .tmp q, .tmp r]) (tmps : Array Value) (w : World) (g : Nat) (t : TypeId) (cs : Array Value) (d : TypeDesc) (v u : Value)
    (hp : tmps.getD p undef = .pointer (some ⟨g, 0, none⟩)) (hq : tmps.getD q undef = v) (hr : tmps.getD r undef = u) (hg : w.heap[g]? = some (.cells cs t (0, 0)))
    (hu : Tryz.prog.underlying ty = some d) (hd : (match d with | .struct _ | .array _ _ => true | _ => false) = true) (hi : (Tryz.prog.info? ty).map (·.size) = some cs.size) :
    (results fn tmps).run Tryz.prog w = .ok (.tuple #[.agg cs, v, u]) w := by
  have hp' : tmps[p]?.getD undef = .pointer (some ⟨g, 0, none⟩) := by simpa using hp
  have hq' : tmps[q]?.getD undef = v := by simpa using hq
  have hr' : tmps[r]?.getD undef = u := by simpa using hr
  have hrun := run_loadVar_row (P := Tryz.prog) w g t ty cs (0, 0) d hg hu (by revert hd; cases d <;> simp) hi
  simp [results, h, hp', hq', hr', asAddr, hrun]
theorem routB_eq (k : ByteArray) (xs : List SeL) (ys : List MsL) (s : MsL) : routB k xs ys s = (mbB xs ys && stB s.k s.t s.f s.o s.n s.b && (s.k.toList == k.toList) && (addrB s.o && decide (0 < (locA s.o).size))) := rfl
set_option maxRecDepth 100000 in
set_option maxHeartbeats 4000000 in
theorem spec_beginF (k : ByteArray) (xs : List SeL) (ys : List MsL) (p1 p2 : Option Addr) (n1 n2 c1 c2 : Nat) (s : MsL) (w : World) (hx : xs.length = n1) (hy : ys.length = n2) (hn1 : n1 ≤ 1048576) (hn2 : n2 ≤ 1048576) (hw : SzS xs) (hw2 : SzM ys) (hs : s.le 1048576) (hR1 : RowC seC 4 w p1 xs) (hR2 : RowC msC 6 w p2 ys) (hno : routB k xs ys s = false) :
    Calls Tryz.prog 34 #[.agg #[.slice p1 n1 c1, .slice p2 n2 c2], .agg #[.string s.k, .string s.t, .string s.f, .string s.o, .int .i64 s.n, .string s.b], .string k] w fun e w' => e = .returned (.tuple #[.agg #[.slice none 0 0, .slice none 0 0, .slice none 0 0, .string ⟨#[]⟩, .string ⟨#[]⟩, .string ⟨#[]⟩, .string ⟨#[]⟩, .int .i64 0, .string ⟨#[]⟩, .int .i64 1], .string ⟨#[]⟩, .bool false]) ∧ Below w.heap.size w w' := by
  rw [routB_eq] at hno
  have hJ := fun W => spec_l04jidP s.o W (by have := hs.2.2.2.1; omega)
  obtain ⟨z0, z1, z2, z3, z4⟩ := hs
  have i2 := fun W h1 h2 => spec_mbright xs ys p1 p2 n1 n2 c1 c2 W hx hy hn1 hn2 hw hw2 h1 h2
  have i3 := fun W => spec_stright s.k s.t s.f s.o s.n s.b W (by unfold maxLen; omega) (by omega) (by omega) (by unfold maxLen; omega)
  have HR := Lib.hid (rqb_start w p1 n1 c1 p2 n2 c2 s)
  have HP1 := Lib.hid (fun W (h : Below w.heap.size w W) => hR1.on h)
  have HP2 := Lib.hid (fun W (h : Below w.heap.size w W) => hR2.on h)
  cases hmb : mbB xs ys
  · rw [hmb] at i2
    clear hmb hx hy hw hw2 hR1 hR2 i3 hno
    go_enter Tryz.func34, Tryz.ntmps34
    go_wp2_with (first
      | (go_at_call 65; go_fit (hJ _); rintro e w1 ⟨⟨x, y, z, rfl, hxyz⟩, hb⟩; clear hxyz; have HR1 := Lib.hid (HR.out.on hb); have HR1a := Lib.hid (HR1.out.on ((Below.refl _ _).alloc (Nat.le_refl _) (.cells #[.string x, .string y, .string z] 49))); have HJ1a := Lib.hid (Arr.fresh w1 49 [.string x, .string y, .string z]); clear hb; obtain ⟨⟨m0, m1⟩, _⟩ := arr9_two HR1.out.1; obtain ⟨⟨s0, s1, s2, s3, s4, s5⟩, _⟩ := arr_six0 HR1.out.2.1; obtain ⟨⟨r0, r1, r2, r3, r4, r5, r6, r7, r8, r9⟩, u0, u1, u2, u3, u4, u5, u6, u7, u8, u9⟩ := ten_all HR1.out.2.2.1; have hzA := arr9_lt HR1.out.1; have hzB := arr9_lt HR1.out.2.1; have hzC := arr9_lt HR1.out.2.2.1)
      | (go_at_call 12; go_fit (i2 _ (HP1.out _ HR1a.out.2.2.2) (HP2.out _ HR1a.out.2.2.2)); rintro e w2 ⟨rfl, hb⟩; have HR2 := Lib.hid (HR1a.out.on hb); have HJ2 := Lib.hid (arr9_on HJ1a.out hb); clear hb; obtain ⟨⟨m0, m1⟩, _⟩ := arr9_two HR2.out.1; obtain ⟨⟨s0, s1, s2, s3, s4, s5⟩, _⟩ := arr_six0 HR2.out.2.1; obtain ⟨⟨r0, r1, r2, r3, r4, r5, r6, r7, r8, r9⟩, u0, u1, u2, u3, u4, u5, u6, u7, u8, u9⟩ := ten_all HR2.out.2.2.1; have hzA := arr9_lt HR2.out.1; have hzB := arr9_lt HR2.out.2.1; have hzC := arr9_lt HR2.out.2.2.1; obtain ⟨⟨j0, j1, j2⟩, _⟩ := arr_3j HJ2.out))
    exact bodyPost_ret (v := .tuple #[.agg #[.slice none 0 0, .slice none 0 0, .slice none 0 0, .string ⟨#[]⟩, .string ⟨#[]⟩, .string ⟨#[]⟩, .string ⟨#[]⟩, .int .i64 0, .string ⟨#[]⟩, .int .i64 1], .string ⟨#[]⟩, .bool false]) (results_triple Tryz.results34 _ _ (w.heap.size + 1 + 1) 33 _ _ _ _ rfl rfl rfl (arr_put10 HR2.out.2.2.1 (.slice none 0 0) (.slice none 0 0) (.slice none 0 0) (.string ⟨#[]⟩) (.string ⟨#[]⟩) (.string ⟨#[]⟩) (.string ⟨#[]⟩) (.int .i64 0) (.string ⟨#[]⟩) (.int .i64 1)) Tryz.underlying33 rfl (by kernel_rfl)) rfl ⟨rfl, below_put10 HR2.out.2.2.2 (by omega) (.slice none 0 0) (.slice none 0 0) (.slice none 0 0) (.string ⟨#[]⟩) (.string ⟨#[]⟩) (.string ⟨#[]⟩) (.string ⟨#[]⟩) (.int .i64 0) (.string ⟨#[]⟩) (.int .i64 1)⟩
  rw [hmb] at i2
  cases hst : stB s.k s.t s.f s.o s.n s.b
  · rw [hst] at i3
    clear hmb hst hx hy hw hw2 hR1 hR2 hno
    go_enter Tryz.func34, Tryz.ntmps34
    go_wp2_with (first
      | (go_at_call 65; go_fit (hJ _); rintro e w1 ⟨⟨x, y, z, rfl, hxyz⟩, hb⟩; clear hxyz; have HR1 := Lib.hid (HR.out.on hb); have HR1a := Lib.hid (HR1.out.on ((Below.refl _ _).alloc (Nat.le_refl _) (.cells #[.string x, .string y, .string z] 49))); have HJ1a := Lib.hid (Arr.fresh w1 49 [.string x, .string y, .string z]); clear hb; obtain ⟨⟨m0, m1⟩, _⟩ := arr9_two HR1.out.1; obtain ⟨⟨s0, s1, s2, s3, s4, s5⟩, _⟩ := arr_six0 HR1.out.2.1; obtain ⟨⟨r0, r1, r2, r3, r4, r5, r6, r7, r8, r9⟩, u0, u1, u2, u3, u4, u5, u6, u7, u8, u9⟩ := ten_all HR1.out.2.2.1; have hzA := arr9_lt HR1.out.1; have hzB := arr9_lt HR1.out.2.1; have hzC := arr9_lt HR1.out.2.2.1)
      | (go_at_call 12; go_fit (i2 _ (HP1.out _ HR1a.out.2.2.2) (HP2.out _ HR1a.out.2.2.2)); rintro e w2 ⟨rfl, hb⟩; have HR2 := Lib.hid (HR1a.out.on hb); have HJ2 := Lib.hid (arr9_on HJ1a.out hb); clear hb; obtain ⟨⟨m0, m1⟩, _⟩ := arr9_two HR2.out.1; obtain ⟨⟨s0, s1, s2, s3, s4, s5⟩, _⟩ := arr_six0 HR2.out.2.1; obtain ⟨⟨r0, r1, r2, r3, r4, r5, r6, r7, r8, r9⟩, u0, u1, u2, u3, u4, u5, u6, u7, u8, u9⟩ := ten_all HR2.out.2.2.1; have hzA := arr9_lt HR2.out.1; have hzB := arr9_lt HR2.out.2.1; have hzC := arr9_lt HR2.out.2.2.1; obtain ⟨⟨j0, j1, j2⟩, _⟩ := arr_3j HJ2.out)
      | (go_at_call 41; have _ := HR2; go_fit (i3 _); rintro e w3 ⟨rfl, hb⟩; have HR3 := Lib.hid (HR2.out.on hb); have HJ3 := Lib.hid (arr9_on HJ2.out hb); clear hb; obtain ⟨⟨m0, m1⟩, _⟩ := arr9_two HR3.out.1; obtain ⟨⟨s0, s1, s2, s3, s4, s5⟩, _⟩ := arr_six0 HR3.out.2.1; obtain ⟨⟨r0, r1, r2, r3, r4, r5, r6, r7, r8, r9⟩, u0, u1, u2, u3, u4, u5, u6, u7, u8, u9⟩ := ten_all HR3.out.2.2.1; have hzA := arr9_lt HR3.out.1; have hzB := arr9_lt HR3.out.2.1; have hzC := arr9_lt HR3.out.2.2.1; obtain ⟨⟨j0, j1, j2⟩, _⟩ := arr_3j HJ3.out))
    exact bodyPost_ret (v := .tuple #[.agg #[.slice none 0 0, .slice none 0 0, .slice none 0 0, .string ⟨#[]⟩, .string ⟨#[]⟩, .string ⟨#[]⟩, .string ⟨#[]⟩, .int .i64 0, .string ⟨#[]⟩, .int .i64 1], .string ⟨#[]⟩, .bool false]) (results_triple Tryz.results34 _ _ (w.heap.size + 1 + 1) 33 _ _ _ _ rfl rfl rfl (arr_put10 HR3.out.2.2.1 (.slice none 0 0) (.slice none 0 0) (.slice none 0 0) (.string ⟨#[]⟩) (.string ⟨#[]⟩) (.string ⟨#[]⟩) (.string ⟨#[]⟩) (.int .i64 0) (.string ⟨#[]⟩) (.int .i64 1)) Tryz.underlying33 rfl (by kernel_rfl)) rfl ⟨rfl, below_put10 HR3.out.2.2.2 (by omega) (.slice none 0 0) (.slice none 0 0) (.slice none 0 0) (.string ⟨#[]⟩) (.string ⟨#[]⟩) (.string ⟨#[]⟩) (.string ⟨#[]⟩) (.int .i64 0) (.string ⟨#[]⟩) (.int .i64 1)⟩
  rw [hst] at i3
  cases hkk : (s.k.toList == k.toList)
  · clear hmb hst hx hy hw hw2 hR1 hR2 hno
    go_enter Tryz.func34, Tryz.ntmps34
    go_wp2_with (first
      | (go_at_call 65; go_fit (hJ _); rintro e w1 ⟨⟨x, y, z, rfl, hxyz⟩, hb⟩; clear hxyz; have HR1 := Lib.hid (HR.out.on hb); have HR1a := Lib.hid (HR1.out.on ((Below.refl _ _).alloc (Nat.le_refl _) (.cells #[.string x, .string y, .string z] 49))); have HJ1a := Lib.hid (Arr.fresh w1 49 [.string x, .string y, .string z]); clear hb; obtain ⟨⟨m0, m1⟩, _⟩ := arr9_two HR1.out.1; obtain ⟨⟨s0, s1, s2, s3, s4, s5⟩, _⟩ := arr_six0 HR1.out.2.1; obtain ⟨⟨r0, r1, r2, r3, r4, r5, r6, r7, r8, r9⟩, u0, u1, u2, u3, u4, u5, u6, u7, u8, u9⟩ := ten_all HR1.out.2.2.1; have hzA := arr9_lt HR1.out.1; have hzB := arr9_lt HR1.out.2.1; have hzC := arr9_lt HR1.out.2.2.1)
      | (go_at_call 12; go_fit (i2 _ (HP1.out _ HR1a.out.2.2.2) (HP2.out _ HR1a.out.2.2.2)); rintro e w2 ⟨rfl, hb⟩; have HR2 := Lib.hid (HR1a.out.on hb); have HJ2 := Lib.hid (arr9_on HJ1a.out hb); clear hb; obtain ⟨⟨m0, m1⟩, _⟩ := arr9_two HR2.out.1; obtain ⟨⟨s0, s1, s2, s3, s4, s5⟩, _⟩ := arr_six0 HR2.out.2.1; obtain ⟨⟨r0, r1, r2, r3, r4, r5, r6, r7, r8, r9⟩, u0, u1, u2, u3, u4, u5, u6, u7, u8, u9⟩ := ten_all HR2.out.2.2.1; have hzA := arr9_lt HR2.out.1; have hzB := arr9_lt HR2.out.2.1; have hzC := arr9_lt HR2.out.2.2.1; obtain ⟨⟨j0, j1, j2⟩, _⟩ := arr_3j HJ2.out)
      | (go_at_call 41; have _ := HR2; go_fit (i3 _); rintro e w3 ⟨rfl, hb⟩; have HR3 := Lib.hid (HR2.out.on hb); have HJ3 := Lib.hid (arr9_on HJ2.out hb); clear hb; obtain ⟨⟨m0, m1⟩, _⟩ := arr9_two HR3.out.1; obtain ⟨⟨s0, s1, s2, s3, s4, s5⟩, _⟩ := arr_six0 HR3.out.2.1; obtain ⟨⟨r0, r1, r2, r3, r4, r5, r6, r7, r8, r9⟩, u0, u1, u2, u3, u4, u5, u6, u7, u8, u9⟩ := ten_all HR3.out.2.2.1; have hzA := arr9_lt HR3.out.1; have hzB := arr9_lt HR3.out.2.1; have hzC := arr9_lt HR3.out.2.2.1; obtain ⟨⟨j0, j1, j2⟩, _⟩ := arr_3j HJ3.out))
    exact bodyPost_ret (v := .tuple #[.agg #[.slice none 0 0, .slice none 0 0, .slice none 0 0, .string ⟨#[]⟩, .string ⟨#[]⟩, .string ⟨#[]⟩, .string ⟨#[]⟩, .int .i64 0, .string ⟨#[]⟩, .int .i64 1], .string ⟨#[]⟩, .bool false]) (results_triple Tryz.results34 _ _ (w.heap.size + 1 + 1) 33 _ _ _ _ rfl rfl rfl (arr_put10 HR3.out.2.2.1 (.slice none 0 0) (.slice none 0 0) (.slice none 0 0) (.string ⟨#[]⟩) (.string ⟨#[]⟩) (.string ⟨#[]⟩) (.string ⟨#[]⟩) (.int .i64 0) (.string ⟨#[]⟩) (.int .i64 1)) Tryz.underlying33 rfl (by kernel_rfl)) rfl ⟨rfl, below_put10 HR3.out.2.2.2 (by omega) (.slice none 0 0) (.slice none 0 0) (.slice none 0 0) (.string ⟨#[]⟩) (.string ⟨#[]⟩) (.string ⟨#[]⟩) (.string ⟨#[]⟩) (.int .i64 0) (.string ⟨#[]⟩) (.int .i64 1)⟩
  rw [hmb, hst, hkk] at hno
  cases had : addrB s.o
  · rw [had] at hJ
    clear hmb hst hx hy hw hw2 hR1 hR2 hno had
    go_enter Tryz.func34, Tryz.ntmps34
    go_wp2_with (first
      | (go_at_call 65; go_fit (hJ _); rintro e w1 ⟨⟨x, y, z, rfl, hxyz⟩, hb⟩; clear hxyz; have HR1 := Lib.hid (HR.out.on hb); have HR1a := Lib.hid (HR1.out.on ((Below.refl _ _).alloc (Nat.le_refl _) (.cells #[.string x, .string y, .string z] 49))); have HJ1a := Lib.hid (Arr.fresh w1 49 [.string x, .string y, .string z]); clear hb; obtain ⟨⟨m0, m1⟩, _⟩ := arr9_two HR1.out.1; obtain ⟨⟨s0, s1, s2, s3, s4, s5⟩, _⟩ := arr_six0 HR1.out.2.1; obtain ⟨⟨r0, r1, r2, r3, r4, r5, r6, r7, r8, r9⟩, u0, u1, u2, u3, u4, u5, u6, u7, u8, u9⟩ := ten_all HR1.out.2.2.1; have hzA := arr9_lt HR1.out.1; have hzB := arr9_lt HR1.out.2.1; have hzC := arr9_lt HR1.out.2.2.1)
      | (go_at_call 12; go_fit (i2 _ (HP1.out _ HR1a.out.2.2.2) (HP2.out _ HR1a.out.2.2.2)); rintro e w2 ⟨rfl, hb⟩; have HR2 := Lib.hid (HR1a.out.on hb); have HJ2 := Lib.hid (arr9_on HJ1a.out hb); clear hb; obtain ⟨⟨m0, m1⟩, _⟩ := arr9_two HR2.out.1; obtain ⟨⟨s0, s1, s2, s3, s4, s5⟩, _⟩ := arr_six0 HR2.out.2.1; obtain ⟨⟨r0, r1, r2, r3, r4, r5, r6, r7, r8, r9⟩, u0, u1, u2, u3, u4, u5, u6, u7, u8, u9⟩ := ten_all HR2.out.2.2.1; have hzA := arr9_lt HR2.out.1; have hzB := arr9_lt HR2.out.2.1; have hzC := arr9_lt HR2.out.2.2.1; obtain ⟨⟨j0, j1, j2⟩, _⟩ := arr_3j HJ2.out)
      | (go_at_call 41; have _ := HR2; go_fit (i3 _); rintro e w3 ⟨rfl, hb⟩; have HR3 := Lib.hid (HR2.out.on hb); have HJ3 := Lib.hid (arr9_on HJ2.out hb); clear hb; obtain ⟨⟨m0, m1⟩, _⟩ := arr9_two HR3.out.1; obtain ⟨⟨s0, s1, s2, s3, s4, s5⟩, _⟩ := arr_six0 HR3.out.2.1; obtain ⟨⟨r0, r1, r2, r3, r4, r5, r6, r7, r8, r9⟩, u0, u1, u2, u3, u4, u5, u6, u7, u8, u9⟩ := ten_all HR3.out.2.2.1; have hzA := arr9_lt HR3.out.1; have hzB := arr9_lt HR3.out.2.1; have hzC := arr9_lt HR3.out.2.2.1; obtain ⟨⟨j0, j1, j2⟩, _⟩ := arr_3j HJ3.out))
    exact bodyPost_ret (v := .tuple #[.agg #[.slice none 0 0, .slice none 0 0, .slice none 0 0, .string ⟨#[]⟩, .string ⟨#[]⟩, .string ⟨#[]⟩, .string ⟨#[]⟩, .int .i64 0, .string ⟨#[]⟩, .int .i64 1], .string ⟨#[]⟩, .bool false]) (results_triple Tryz.results34 _ _ (w.heap.size + 1 + 1) 33 _ _ _ _ rfl rfl rfl (arr_put10 HR3.out.2.2.1 (.slice none 0 0) (.slice none 0 0) (.slice none 0 0) (.string ⟨#[]⟩) (.string ⟨#[]⟩) (.string ⟨#[]⟩) (.string ⟨#[]⟩) (.int .i64 0) (.string ⟨#[]⟩) (.int .i64 1)) Tryz.underlying33 rfl (by kernel_rfl)) rfl ⟨rfl, below_put10 HR3.out.2.2.2 (by omega) (.slice none 0 0) (.slice none 0 0) (.slice none 0 0) (.string ⟨#[]⟩) (.string ⟨#[]⟩) (.string ⟨#[]⟩) (.string ⟨#[]⟩) (.int .i64 0) (.string ⟨#[]⟩) (.int .i64 1)⟩
  rw [had] at hno hJ
  have hl0 : locA s.o = ⟨#[]⟩ := ba_ext (List.eq_nil_of_length_eq_zero (by have h0 : ¬ 0 < (locA s.o).size := by simpa using hno
                                                                           have h1 : (locA s.o).toList.length = (locA s.o).size := by rw [ByteArray.toList_eq]; exact size_data _
                                                                           omega))
  clear hmb hst hx hy hw hw2 hR1 hR2 hno had
  go_enter Tryz.func34, Tryz.ntmps34
  go_wp2_with (first
    | (go_at_call 65; go_fit (hJ _); rintro e w1 ⟨⟨x, y, z, rfl, hxyz⟩, hb⟩; obtain rfl : x = ⟨#[]⟩ := (hxyz rfl).1.trans hl0; clear hxyz; have HR1 := Lib.hid (HR.out.on hb); have HR1a := Lib.hid (HR1.out.on ((Below.refl _ _).alloc (Nat.le_refl _) (.cells #[.string ⟨#[]⟩, .string y, .string z] 49))); have HJ1a := Lib.hid (Arr.fresh w1 49 [.string ⟨#[]⟩, .string y, .string z]); clear hb; obtain ⟨⟨m0, m1⟩, _⟩ := arr9_two HR1.out.1; obtain ⟨⟨s0, s1, s2, s3, s4, s5⟩, _⟩ := arr_six0 HR1.out.2.1; obtain ⟨⟨r0, r1, r2, r3, r4, r5, r6, r7, r8, r9⟩, u0, u1, u2, u3, u4, u5, u6, u7, u8, u9⟩ := ten_all HR1.out.2.2.1; have hzA := arr9_lt HR1.out.1; have hzB := arr9_lt HR1.out.2.1; have hzC := arr9_lt HR1.out.2.2.1)
    | (go_at_call 12; go_fit (i2 _ (HP1.out _ HR1a.out.2.2.2) (HP2.out _ HR1a.out.2.2.2)); rintro e w2 ⟨rfl, hb⟩; have HR2 := Lib.hid (HR1a.out.on hb); have HJ2 := Lib.hid (arr9_on HJ1a.out hb); clear hb; obtain ⟨⟨m0, m1⟩, _⟩ := arr9_two HR2.out.1; obtain ⟨⟨s0, s1, s2, s3, s4, s5⟩, _⟩ := arr_six0 HR2.out.2.1; obtain ⟨⟨r0, r1, r2, r3, r4, r5, r6, r7, r8, r9⟩, u0, u1, u2, u3, u4, u5, u6, u7, u8, u9⟩ := ten_all HR2.out.2.2.1; have hzA := arr9_lt HR2.out.1; have hzB := arr9_lt HR2.out.2.1; have hzC := arr9_lt HR2.out.2.2.1; obtain ⟨⟨j0, j1, j2⟩, _⟩ := arr_3j HJ2.out)
    | (go_at_call 41; have _ := HR2; go_fit (i3 _); rintro e w3 ⟨rfl, hb⟩; have HR3 := Lib.hid (HR2.out.on hb); have HJ3 := Lib.hid (arr9_on HJ2.out hb); clear hb; obtain ⟨⟨m0, m1⟩, _⟩ := arr9_two HR3.out.1; obtain ⟨⟨s0, s1, s2, s3, s4, s5⟩, _⟩ := arr_six0 HR3.out.2.1; obtain ⟨⟨r0, r1, r2, r3, r4, r5, r6, r7, r8, r9⟩, u0, u1, u2, u3, u4, u5, u6, u7, u8, u9⟩ := ten_all HR3.out.2.2.1; have hzA := arr9_lt HR3.out.1; have hzB := arr9_lt HR3.out.2.1; have hzC := arr9_lt HR3.out.2.2.1; obtain ⟨⟨j0, j1, j2⟩, _⟩ := arr_3j HJ3.out))
  exact bodyPost_ret (v := .tuple #[.agg #[.slice none 0 0, .slice none 0 0, .slice none 0 0, .string ⟨#[]⟩, .string ⟨#[]⟩, .string ⟨#[]⟩, .string ⟨#[]⟩, .int .i64 0, .string ⟨#[]⟩, .int .i64 1], .string ⟨#[]⟩, .bool false]) (results_triple Tryz.results34 _ _ (w.heap.size + 1 + 1) 33 _ _ _ _ rfl rfl rfl (arr_put10 HR3.out.2.2.1 (.slice none 0 0) (.slice none 0 0) (.slice none 0 0) (.string ⟨#[]⟩) (.string ⟨#[]⟩) (.string ⟨#[]⟩) (.string ⟨#[]⟩) (.int .i64 0) (.string ⟨#[]⟩) (.int .i64 1)) Tryz.underlying33 rfl (by kernel_rfl)) rfl ⟨rfl, below_put10 HR3.out.2.2.2 (by omega) (.slice none 0 0) (.slice none 0 0) (.slice none 0 0) (.string ⟨#[]⟩) (.string ⟨#[]⟩) (.string ⟨#[]⟩) (.string ⟨#[]⟩) (.int .i64 0) (.string ⟨#[]⟩) (.int .i64 1)⟩
set_option maxRecDepth 100000 in
set_option maxHeartbeats 4000000 in
theorem spec_beginT (k : ByteArray) (xs : List SeL) (ys : List MsL) (p1 p2 : Option Addr) (n1 n2 c1 c2 : Nat) (s : MsL) (w : World) (hx : xs.length = n1) (hy : ys.length = n2) (hn1 : n1 ≤ 1048576) (hn2 : n2 ≤ 1048576) (hw : SzS xs) (hw2 : SzM ys) (hs : s.le 1048576) (B0 : Nat) (hO1 : OwnC seC w B0 40 4 (.slice p1 n1 c1) xs) (hO2 : OwnC msC w B0 28 6 (.slice p2 n2 c2) ys) (hyes : routB k xs ys s = true) :
    Calls Tryz.prog 34 #[.agg #[.slice p1 n1 c1, .slice p2 n2 c2], .agg #[.string s.k, .string s.t, .string s.f, .string s.o, .int .i64 s.n, .string s.b], .string k] w fun e w' => (∃ q1 l1 q2 l2, e = .returned (.tuple #[.agg #[.slice q1 n1 l1, .slice q2 n2 l2, .slice none 0 0, .string ⟨#[]⟩, .string ⟨#[]⟩, .string ⟨#[]⟩, .string ⟨#[]⟩, .int .i64 0, .string ⟨#[]⟩, .int .i64 0], .string (resA s.o), .bool true]) ∧ OwnC seC w' w.heap.size 40 4 (.slice q1 n1 l1) xs ∧ OwnC msC w' w.heap.size 28 6 (.slice q2 n2 l2) ys) ∧ Below w.heap.size w w' := by
  have hR1 := row_own9 hO1
  have hR2 := row_ownM hO2
  rw [routB_eq] at hyes
  simp only [Bool.and_eq_true, decide_eq_true_eq] at hyes
  obtain ⟨⟨⟨hmb, hst⟩, hkk⟩, had, hlc⟩ := hyes
  have hJ := fun W => spec_l04jidP s.o W (by have := hs.2.2.2.1; omega)
  obtain ⟨z0, z1, z2, z3, z4⟩ := hs
  have i2 := fun W h1 h2 => spec_mbright xs ys p1 p2 n1 n2 c1 c2 W hx hy hn1 hn2 hw hw2 h1 h2
  have i3 := fun W => spec_stright s.k s.t s.f s.o s.n s.b W (by unfold maxLen; omega) (by omega) (by omega) (by unfold maxLen; omega)
  have i4 := fun W h1 h2 => spec_l10copy xs ys p1 p2 n1 n2 c1 c2 B0 W hx hy hn1 hn2 h1 h2
  rw [hmb] at i2
  rw [hst] at i3
  rw [had] at hJ
  have HR := Lib.hid (rqb_start w p1 n1 c1 p2 n2 c2 s)
  have HP1 := Lib.hid (fun W (h : Below w.heap.size w W) => hR1.on h)
  have HP2 := Lib.hid (fun W (h : Below w.heap.size w W) => hR2.on h)
  have HO1 := Lib.hid (fun W (h : Below w.heap.size w W) => hO1.on h)
  have HO2 := Lib.hid (fun W (h : Below w.heap.size w W) => hO2.on h)
  have hle2 : ((locA s.o).toList == []) = false := by
    rw [beq_eq_false_iff_ne]
    intro h0
    have h1 : (locA s.o).toList.length = (locA s.o).size := by rw [ByteArray.toList_eq]; exact size_data _
    rw [h0] at h1
    simp at h1
    omega
  have hle3 : (locA s.o).toList ≠ [] := by simpa using hle2
  have hle4 : (locA s.o).toList.isEmpty = false := by simpa using hle3
  clear hmb hst hx hy hw hw2 hR1 hR2 had hO1 hO2 hlc
  go_enter Tryz.func34, Tryz.ntmps34
  go_wp2_with (first
    | (go_at_call 65; go_fit (hJ _); rintro e w1 ⟨⟨x, y, z, rfl, hxyz⟩, hb⟩; obtain ⟨rfl, -, rfl⟩ : x = locA s.o ∧ True ∧ z = resA s.o := ⟨(hxyz rfl).1, trivial, (hxyz rfl).2.2⟩; clear hxyz; have HR1 := Lib.hid (HR.out.on hb); have HR1a := Lib.hid (HR1.out.on ((Below.refl _ _).alloc (Nat.le_refl _) (.cells #[.string (locA s.o), .string y, .string (resA s.o)] 49))); have HJ1a := Lib.hid (Arr.fresh w1 49 [.string (locA s.o), .string y, .string (resA s.o)]); clear hb; obtain ⟨⟨m0, m1⟩, _⟩ := arr9_two HR1.out.1; obtain ⟨⟨s0, s1, s2, s3, s4, s5⟩, _⟩ := arr_six0 HR1.out.2.1; obtain ⟨⟨r0, r1, r2, r3, r4, r5, r6, r7, r8, r9⟩, u0, u1, u2, u3, u4, u5, u6, u7, u8, u9⟩ := ten_all HR1.out.2.2.1; have hzA := arr9_lt HR1.out.1; have hzB := arr9_lt HR1.out.2.1; have hzC := arr9_lt HR1.out.2.2.1)
    | (go_at_call 12; go_fit (i2 _ (HP1.out _ HR1a.out.2.2.2) (HP2.out _ HR1a.out.2.2.2)); rintro e w2 ⟨rfl, hb⟩; have HR2 := Lib.hid (HR1a.out.on hb); have HJ2 := Lib.hid (arr9_on HJ1a.out hb); clear hb; obtain ⟨⟨m0, m1⟩, _⟩ := arr9_two HR2.out.1; obtain ⟨⟨s0, s1, s2, s3, s4, s5⟩, _⟩ := arr_six0 HR2.out.2.1; obtain ⟨⟨r0, r1, r2, r3, r4, r5, r6, r7, r8, r9⟩, u0, u1, u2, u3, u4, u5, u6, u7, u8, u9⟩ := ten_all HR2.out.2.2.1; have hzA := arr9_lt HR2.out.1; have hzB := arr9_lt HR2.out.2.1; have hzC := arr9_lt HR2.out.2.2.1; obtain ⟨⟨j0, j1, j2⟩, _⟩ := arr_3j HJ2.out)
    | (go_at_call 41; have _ := HR2; go_fit (i3 _); rintro e w3 ⟨rfl, hb⟩; have HR3 := Lib.hid (HR2.out.on hb); have HJ3 := Lib.hid (arr9_on HJ2.out hb); clear hb; obtain ⟨⟨m0, m1⟩, _⟩ := arr9_two HR3.out.1; obtain ⟨⟨s0, s1, s2, s3, s4, s5⟩, _⟩ := arr_six0 HR3.out.2.1; obtain ⟨⟨r0, r1, r2, r3, r4, r5, r6, r7, r8, r9⟩, u0, u1, u2, u3, u4, u5, u6, u7, u8, u9⟩ := ten_all HR3.out.2.2.1; have hzA := arr9_lt HR3.out.1; have hzB := arr9_lt HR3.out.2.1; have hzC := arr9_lt HR3.out.2.2.1; obtain ⟨⟨j0, j1, j2⟩, _⟩ := arr_3j HJ3.out))
  refine wp_region_held_drew (S := fun W => (Arr W w.heap.size 26 [.slice p1 n1 c1, .slice p2 n2 c2] ∧ Arr W w1.heap.size 49 [.string (locA s.o), .string y, .string (resA s.o)])) (by kernel_rfl) ⟨(HR3.out.on (Below.refl _ _).drew).1, arr9_on HJ3.out (Below.refl _ _).drew⟩ (fun hHeld => ?_)
  have HR4 := Lib.hid (HR3.out.on (Below.refl _ _).drew)
  have HJ4 := Lib.hid (arr9_on HJ3.out (Below.refl _ _).drew)
  have hlt1 : w.heap.size + 3 ≤ w1.heap.size := HR1.out.big
  generalize World.drew _ = wd at HR4 HJ4 hHeld ⊢
  refine takeQ (i := 0) (k := 41) (v := .agg #[.slice p1 n1 c1, .slice p2 n2 c2]) rfl (by rfl) (by kernel_rfl) (by kernel_rfl) (by kernel_rfl) (fun _ _ _ h => h) (by rfl) ?_ hHeld ?_
  · intro wv hSv; obtain ⟨⟨m0, m1⟩, _⟩ := arr9_two hSv.1; obtain ⟨⟨j0, j1, j2⟩, _⟩ := arr_3j hSv.2; go_simp
  (try simp only [Act.put, List.setIfInBounds_toArray, List.set_cons_zero, List.set_cons_succ])
  refine takeQ (i := 3) (k := 44) (v := .pointer (some ⟨w1.heap.size, 2, none⟩)) rfl (by rfl) (by kernel_rfl) (by kernel_rfl) (by kernel_rfl) (fun _ _ _ h => h) (by rfl) ?_ hHeld ?_
  · intro wv hSv; obtain ⟨⟨m0, m1⟩, _⟩ := arr9_two hSv.1; obtain ⟨⟨j0, j1, j2⟩, _⟩ := arr_3j hSv.2; go_simp
  (try simp only [Act.put, List.setIfInBounds_toArray, List.set_cons_zero, List.set_cons_succ])
  refine takeQ (i := 4) (k := 45) (v := .string (resA s.o)) rfl (by rfl) (by kernel_rfl) (by kernel_rfl) (by kernel_rfl) (fun _ _ _ h => h) (by rfl) ?_ hHeld ?_
  · intro wv hSv; obtain ⟨⟨m0, m1⟩, _⟩ := arr9_two hSv.1; obtain ⟨⟨j0, j1, j2⟩, _⟩ := arr_3j hSv.2; go_simp
  (try simp only [Act.put, List.setIfInBounds_toArray, List.set_cons_zero, List.set_cons_succ])
  refine wpAnyH_ready (rs := [1]) (by kernel_rfl) (by simp) ?_
  refine AllReadyH.cons rfl (fun K hK => ?_) AllReadyH.nil
  rw [if_pos (by rfl)]
  go_simp
  go_fit (i4 _ (HO1.out _ HR4.out.2.2.2) (HO2.out _ HR4.out.2.2.2))
  rintro e w5 ⟨⟨q1, l1, q2, l2, rfl, v1, v2⟩, hb⟩
  have HR5 := Lib.hid (HR4.out.on hb)
  have HJ5 := Lib.hid (arr9_on HJ4.out hb)
  have HV5 := Lib.hid (And.intro (v1.mono HR4.out.big) (v2.mono HR4.out.big))
  clear hb v1 v2
  refine hK.out _ _ ⟨HR5.out.1, HJ5.out⟩ (fun hHeld => ?_)
  clear hK K
  (try simp only [Act.put, List.setIfInBounds_toArray, List.set_cons_zero, List.set_cons_succ])
  refine takeQ (i := 2) (k := 43) (v := .agg #[.slice q1 n1 l1, .slice q2 n2 l2, .slice none 0 0, .string ⟨#[]⟩, .string ⟨#[]⟩, .string ⟨#[]⟩, .string ⟨#[]⟩, .int .i64 0, .string ⟨#[]⟩, .int .i64 0]) rfl (by rfl) (by kernel_rfl) (by kernel_rfl) (by kernel_rfl) (fun _ _ _ h => h) (by rfl) ?_ hHeld ?_
  · intro wv hSv; obtain ⟨⟨m0, m1⟩, _⟩ := arr9_two hSv.1; obtain ⟨⟨j0, j1, j2⟩, _⟩ := arr_3j hSv.2; go_simp
  (try simp only [Act.put, List.setIfInBounds_toArray, List.set_cons_zero, List.set_cons_succ])
  obtain ⟨⟨r0, r1, r2, r3, r4, r5, r6, r7, r8, r9⟩, u0, u1, u2, u3, u4, u5, u6, u7, u8, u9⟩ := ten_all HR5.out.2.2.1
  refine wpAnyH_ready (rs := [5]) (by kernel_rfl) (by simp) ?_
  refine AllReadyH.cons rfl (fun K hK => ?_) AllReadyH.nil
  rw [if_pos (by rfl)]
  go_simp
  have hf1 := arr_far10 HR5.out.1 (show w.heap.size ≠ w.heap.size + 1 + 1 by omega) (.slice q1 n1 l1) (.slice q2 n2 l2) (.slice none 0 0) (.string ⟨#[]⟩) (.string ⟨#[]⟩) (.string ⟨#[]⟩) (.string ⟨#[]⟩) (.int .i64 0) (.string ⟨#[]⟩) (.int .i64 0)
  have hf2 := arr_far10 HJ5.out (show w1.heap.size ≠ w.heap.size + 1 + 1 by omega) (.slice q1 n1 l1) (.slice q2 n2 l2) (.slice none 0 0) (.string ⟨#[]⟩) (.string ⟨#[]⟩) (.string ⟨#[]⟩) (.string ⟨#[]⟩) (.int .i64 0) (.string ⟨#[]⟩) (.int .i64 0)
  refine hK.out _ _ ⟨hf1, hf2⟩ (fun hHeld => ?_)
  clear hK K
  (try simp only [Act.put, List.setIfInBounds_toArray, List.set_cons_zero, List.set_cons_succ])
  refine takeQ (i := 6) (k := 7) (v := .string (resA s.o)) rfl (by rfl) (by kernel_rfl) (by kernel_rfl) (by kernel_rfl) (fun _ _ _ h => h) (by rfl) ?_ hHeld ?_
  · intro wv hSv; obtain ⟨⟨m0, m1⟩, _⟩ := arr9_two hSv.1; obtain ⟨⟨j0, j1, j2⟩, _⟩ := arr_3j hSv.2; go_simp
  (try simp only [Act.put, List.setIfInBounds_toArray, List.set_cons_zero, List.set_cons_succ])
  refine takeQ (i := 7) (k := 8) (v := .bool true) rfl (by rfl) (by kernel_rfl) (by kernel_rfl) (by kernel_rfl) (fun _ _ _ h => h) (by rfl) ?_ hHeld ?_
  · intro wv hSv; obtain ⟨⟨m0, m1⟩, _⟩ := arr9_two hSv.1; obtain ⟨⟨j0, j1, j2⟩, _⟩ := arr_3j hSv.2; go_simp
  (try simp only [Act.put, List.setIfInBounds_toArray, List.set_cons_zero, List.set_cons_succ])
  refine wpAnyH_done (by kernel_rfl) ?_ _
  clear hHeld
  (try go_wp2)
  exact bodyPost_ret (v := .tuple #[.agg #[.slice q1 n1 l1, .slice q2 n2 l2, .slice none 0 0, .string ⟨#[]⟩, .string ⟨#[]⟩, .string ⟨#[]⟩, .string ⟨#[]⟩, .int .i64 0, .string ⟨#[]⟩, .int .i64 0], .string (resA s.o), .bool true]) (results_triple Tryz.results34 _ _ (w.heap.size + 1 + 1) 33 _ _ _ _ rfl rfl rfl (arr_put10 HR5.out.2.2.1 (.slice q1 n1 l1) (.slice q2 n2 l2) (.slice none 0 0) (.string ⟨#[]⟩) (.string ⟨#[]⟩) (.string ⟨#[]⟩) (.string ⟨#[]⟩) (.int .i64 0) (.string ⟨#[]⟩) (.int .i64 0)) Tryz.underlying33 rfl (by kernel_rfl)) rfl
    ⟨⟨q1, l1, q2, l2, rfl, (own_put10 HV5.out.1 (by omega) (.slice q1 n1 l1) (.slice q2 n2 l2) (.slice none 0 0) (.string ⟨#[]⟩) (.string ⟨#[]⟩) (.string ⟨#[]⟩) (.string ⟨#[]⟩) (.int .i64 0) (.string ⟨#[]⟩) (.int .i64 0)).mono (by omega), (own_put10 HV5.out.2 (by omega) (.slice q1 n1 l1) (.slice q2 n2 l2) (.slice none 0 0) (.string ⟨#[]⟩) (.string ⟨#[]⟩) (.string ⟨#[]⟩) (.string ⟨#[]⟩) (.int .i64 0) (.string ⟨#[]⟩) (.int .i64 0)).mono (by omega)⟩, below_put10 HR5.out.2.2.2 (by omega) (.slice q1 n1 l1) (.slice q2 n2 l2) (.slice none 0 0) (.string ⟨#[]⟩) (.string ⟨#[]⟩) (.string ⟨#[]⟩) (.string ⟨#[]⟩) (.int .i64 0) (.string ⟨#[]⟩) (.int .i64 0)⟩
end Go.Proofs.YtafdjjdmcnlddaaGreat

namespace Go.Proofs.YtafdjjdmcnlddaaGreat
set_option linter.unusedSimpArgs false
set_option linter.unusedVariables false
open Go.RowKit Go.Joins

theorem ba_same {a b : ByteArray} (h : a.toList = b.toList) : a = b := (ba_ext h).trans (ba_ext (s := b) rfl).symm
theorem sel_only {f : SeL → Bool} {xs : List SeL} {i : Nat} (hi : i < xs.length) (hf : f xs[i] = true) (hun : ∀ j (hj : j < xs.length), f xs[j] = true → j = i) : selL f xs = [xs[i].r] := by
  have h1 : xs = xs.take i ++ xs[i] :: xs.drop (i + 1) := by rw [← List.drop_eq_getElem_cons hi]; exact (List.take_append_drop i xs).symm
  have h2 : (xs.take i).filter f = [] := by
    rw [List.filter_eq_nil_iff]
    intro x hx hfx
    obtain ⟨j, hj, rfl⟩ := List.mem_iff_getElem.1 hx
    rw [List.getElem_take] at hfx
    rw [List.length_take] at hj
    have := hun j (by omega) hfx
    omega
  have h3 : (xs.drop (i + 1)).filter f = [] := by
    rw [List.filter_eq_nil_iff]
    intro x hx hfx
    obtain ⟨j, hj, rfl⟩ := List.mem_iff_getElem.1 hx
    rw [List.getElem_drop] at hfx
    rw [List.length_drop] at hj
    have := hun (i + 1 + j) (by omega) hfx
    omega
  have h4 : xs.filter f = [xs[i]] := by
    conv => lhs; rw [h1]
    rw [List.filter_append, h2, List.filter_cons, if_pos hf, h3]
    rfl
  unfold selL
  rw [h4]
  rfl
theorem sel_none {f : SeL → Bool} {xs : List SeL} (h : ∀ j (hj : j < xs.length), f xs[j] = false) : selL f xs = [] := by
  unfold selL
  rw [List.filter_eq_nil_iff.2 (fun x hx hfx => by obtain ⟨j, hj, rfl⟩ := List.mem_iff_getElem.1 hx; rw [h j hj] at hfx; cases hfx)]
  rfl
theorem bound_eq {xs : List SeL} (hI : IncR xs xs.length) (r : ByteArray) : boundL r xs = if hereB r xs = true then [r] else [] := by
  unfold boundL
  cases hh : hereB r xs
  · rw [if_neg (by decide)]
    refine sel_none fun j hj => ?_
    cases hc : (xs[j].r.toList == r.toList)
    · rfl
    · have := (here_only hI hj (by simpa using hc)).2
      rw [hh] at this
      cases this
  · rw [if_pos rfl]
    have hlt := here_lt hh
    have he : (xs[posS r xs].r.toList == r.toList) = true := by rw [← here_at hlt]; exact hh
    rw [sel_only (f := fun x => x.r.toList == r.toList) hlt he (fun j hj hf => (here_only hI hj (by simpa using hf)).1)]
    rw [ba_same (show xs[posS r xs].r.toList = r.toList by simpa using he)]
theorem here_empty {xs : List SeL} (hok : okB xs = true) {r : ByteArray} (hr : r.size = 0) : hereB r xs = false := by
  cases hh : hereB r xs
  · rfl
  · have h := here_res hok hh
    unfold resB at h
    simp [hr] at h
end Go.Proofs.YtafdjjdmcnlddaaGreat

namespace Go.Proofs.YtafdjjdmcnlddaaGreat
set_option linter.unusedSimpArgs false
set_option linter.unusedVariables false
open Go.RowKit Go.Joins

theorem str_row10 (w : World) (r : ByteArray) : OwnC strC (w.alloc (.cells #[.string r] 9)) w.heap.size 9 1 (.slice (some ⟨w.heap.size, 0, none⟩) 1 1) [r] :=
  World.ownsRow_lit w #[.string r] 1 (Nat.le_refl _) (by decide) rfl
theorem RqB.put {w W : World} {p1 : Option Addr} {n1 c1 : Nat} {p2 : Option Addr} {n2 c2 : Nat} {s : MsL} (h : RqB w W p1 n1 c1 p2 n2 c2 s) {b i : Nat} (u : Value) (hb : w.heap.size + 3 ≤ b) : RqB w (W.setCell ⟨b, i, none⟩ u) p1 n1 c1 p2 n2 c2 s :=
  ⟨arr_other h.1 _ _ _ (by omega), arr_other h.2.1 _ _ _ (by omega), arr_other h.2.2.1 _ _ _ (by omega), h.2.2.2.setCell (p := ⟨b, i, none⟩) (by show w.heap.size ≤ b; omega) u⟩
theorem RqB.put6b {w W : World} {p1 : Option Addr} {n1 c1 : Nat} {p2 : Option Addr} {n2 c2 : Nat} {s : MsL} (h : RqB w W p1 n1 c1 p2 n2 c2 s) {b : Nat} (hb : w.heap.size + 3 ≤ b) (x0 x1 x2 x3 x4 x5 : Value) : RqB w (Go.Proofs.YtafdjjdmcnlddaaGreat.put6b W b x0 x1 x2 x3 x4 x5) p1 n1 c1 p2 n2 c2 s :=
  (((((h.put x0 hb).put x1 hb).put x2 hb).put x3 hb).put x4 hb).put x5 hb
theorem RqB.grow {w W W2 : World} {p1 : Option Addr} {n1 c1 : Nat} {p2 : Option Addr} {n2 c2 : Nat} {s : MsL} {r : Option Nat} (h : RqB w W p1 n1 c1 p2 n2 c2 s) (hg : W.grownBy W2 r) (hr : ∀ k, r = some k → w.heap.size + 3 ≤ k) : RqB w W2 p1 n1 c1 p2 n2 c2 s :=
  ⟨arr_beside10 h.1 hg (fun k hk => by have := hr k hk; omega), arr_beside10 h.2.1 hg (fun k hk => by have := hr k hk; omega), arr_beside10 h.2.2.1 hg (fun k hk => by have := hr k hk; omega), h.2.2.2.grown hg h.2.2.2.size (fun k hk => by have := hr k hk; omega)⟩
theorem size_put10 (w : World) (g : Nat) (b0 b1 b2 b3 b4 b5 b6 b7 b8 b9 : Value) : (put10 w g b0 b1 b2 b3 b4 b5 b6 b7 b8 b9).heap.size = w.heap.size := by simp [put10]
set_option maxRecDepth 100000 in
set_option maxHeartbeats 8000000 in
theorem spec_riqF (xs : List SeL) (ys : List MsL) (p1 p2 : Option Addr) (n1 n2 c1 c2 : Nat) (s : MsL) (w : World) (hx : xs.length = n1) (hy : ys.length = n2) (hn1 : n1 ≤ 1048576) (hn2 : n2 ≤ 1048576) (hw : SzS xs) (hw2 : SzM ys) (hs : s.le 1048576) (B0 : Nat) (hO1 : OwnC seC w B0 40 4 (.slice p1 n1 c1) xs) (hO2 : OwnC msC w B0 28 6 (.slice p2 n2 c2) ys) (hno : routB kIq xs ys s = false) :
    Calls Tryz.prog 22 #[.agg #[.slice p1 n1 c1, .slice p2 n2 c2], .agg #[.string s.k, .string s.t, .string s.f, .string s.o, .int .i64 s.n, .string s.b]] w fun e w' => RoIs w.heap.size (illM 1) e w' ∧ Below w.heap.size w w' := by
  have hR1 := row_own9 hO1
  have hR2 := row_ownM hO2
  have HR := Lib.hid (rqb_start w p1 n1 c1 p2 n2 c2 s)
  have HP1 := Lib.hid (fun W (h : Below w.heap.size w W) => hR1.on h)
  have HP2 := Lib.hid (fun W (h : Below w.heap.size w W) => hR2.on h)
  have HO1 := Lib.hid (fun W (h : Below w.heap.size w W) => hO1.on h)
  have HO2 := Lib.hid (fun W (h : Below w.heap.size w W) => hO2.on h)
  have HX := Lib.hid hx
  have HY := Lib.hid hy
  have i1 := fun W h1 h2 => spec_beginF kIq xs ys p1 p2 n1 n2 c1 c2 s W hx hy hn1 hn2 hw hw2 hs h1 h2 hno
  unfold kIq at i1
  clear hx hy hw hw2 hR1 hR2 hO1 hO2 hno
  go_enter Tryz.func22, Tryz.ntmps22
  go_wp2_with (go_at_call 34; go_fit (i1 _ (HP1.out _ HR.out.2.2.2) (HP2.out _ HR.out.2.2.2)); rintro e w1 ⟨rfl, hb⟩; have HR1 := Lib.hid (HR.out.on hb); clear hb; obtain ⟨⟨m0, m1⟩, _⟩ := arr9_two HR1.out.1; obtain ⟨⟨s0, s1, s2, s3, s4, s5⟩, _⟩ := arr_six0 HR1.out.2.1; obtain ⟨⟨r0, r1, r2, r3, r4, r5, r6, r7, r8, r9⟩, u0, u1, u2, u3, u4, u5, u6, u7, u8, u9⟩ := ten_all HR1.out.2.2.1; have hzA := arr9_lt HR1.out.1; have hzB := arr9_lt HR1.out.2.1; have hzC := arr9_lt HR1.out.2.2.1)
  have hA := arr9_on (arr_put10 HR1.out.2.2.1 (.slice none 0 0) (.slice none 0 0) (.slice none 0 0) (.string ⟨#[]⟩) (.string ⟨#[]⟩) (.string ⟨#[]⟩) (.string ⟨#[]⟩) (.int .i64 0) (.string ⟨#[]⟩) (.int .i64 1)) ((Below.refl _ _).alloc (Nat.le_refl _) (.cells #[.slice none 0 0, .slice none 0 0, .slice none 0 0, .string ⟨#[]⟩, .string ⟨#[]⟩, .string ⟨#[]⟩, .string ⟨#[]⟩, .int .i64 0, .string ⟨#[]⟩, .int .i64 1] 33))
  have hBw := below_put10 HR1.out.2.2.2 (show w.heap.size ≤ w.heap.size + 1 + 1 by omega) (.slice none 0 0) (.slice none 0 0) (.slice none 0 0) (.string ⟨#[]⟩) (.string ⟨#[]⟩) (.string ⟨#[]⟩) (.string ⟨#[]⟩) (.int .i64 0) (.string ⟨#[]⟩) (.int .i64 1)
  exact bodyPost_ret (v := .agg #[.slice none 0 0, .slice none 0 0, .slice none 0 0, .string ⟨#[]⟩, .string ⟨#[]⟩, .string ⟨#[]⟩, .string ⟨#[]⟩, .int .i64 0, .string ⟨#[]⟩, .int .i64 1]) (results_cell_row (P := Tryz.prog) Tryz.results22 _ _ (w.heap.size + 1 + 1) 33 _ (0, 0) _ rfl hA Tryz.underlying33 rfl (by kernel_rfl)) rfl ⟨ro_ill _ _ _, hBw.alloc hBw.size (.cells #[.slice none 0 0, .slice none 0 0, .slice none 0 0, .string ⟨#[]⟩, .string ⟨#[]⟩, .string ⟨#[]⟩, .string ⟨#[]⟩, .int .i64 0, .string ⟨#[]⟩, .int .i64 1] 33)⟩
set_option maxRecDepth 100000 in
set_option maxHeartbeats 8000000 in
theorem spec_riqO (xs : List SeL) (ys : List MsL) (p1 p2 : Option Addr) (n1 n2 c1 c2 : Nat) (s : MsL) (w : World) (hx : xs.length = n1) (hy : ys.length = n2) (hn1 : n1 ≤ 1048576) (hn2 : n2 ≤ 1048576) (hw : SzS xs) (hw2 : SzM ys) (hs : s.le 1048576) (B0 : Nat) (hO1 : OwnC seC w B0 40 4 (.slice p1 n1 c1) xs) (hO2 : OwnC msC w B0 28 6 (.slice p2 n2 c2) ys) (hyes : routB kIq xs ys s = true) (hon : hereB (resA s.o) xs = true) (hr0 : ((resA s.o).toList == []) = false) :
    Calls Tryz.prog 22 #[.agg #[.slice p1 n1 c1, .slice p2 n2 c2], .agg #[.string s.k, .string s.t, .string s.f, .string s.o, .int .i64 s.n, .string s.b]] w fun e w' => RoIs w.heap.size ⟨xs, ys, [resA s.o], zMs, 0⟩ e w' ∧ Below w.heap.size w w' := by
  have hR1 := row_own9 hO1
  have hR2 := row_ownM hO2
  have HR := Lib.hid (rqb_start w p1 n1 c1 p2 n2 c2 s)
  have HP1 := Lib.hid (fun W (h : Below w.heap.size w W) => hR1.on h)
  have HP2 := Lib.hid (fun W (h : Below w.heap.size w W) => hR2.on h)
  have HO1 := Lib.hid (fun W (h : Below w.heap.size w W) => hO1.on h)
  have HO2 := Lib.hid (fun W (h : Below w.heap.size w W) => hO2.on h)
  have HX := Lib.hid hx
  have HY := Lib.hid hy
  have hmb : mbB xs ys = true := by unfold routB at hyes; simp only [Bool.and_eq_true] at hyes; exact hyes.1.1.1
  obtain ⟨hok, hn5, _⟩ := mb_parts hmb
  have i1 := fun W h1 h2 => spec_beginT kIq xs ys p1 p2 n1 n2 c1 c2 s W hx hy hn1 hn2 hw hw2 hs B0 h1 h2 hyes
  unfold kIq at i1
  obtain ⟨r, hr⟩ : ∃ r, resA s.o = r := ⟨_, rfl⟩
  rw [hr] at i1 hon hr0 ⊢
  have hI := (okB_iff.1 hok).2.1
  have h5 := (okB_iff.1 hok).1
  have i2 := fun W hR => spec_at9 xs r p1 c1 W (by omega) hI hR
  rw [hx] at i2
  rw [show whereI r xs = (posS r xs : Int) by unfold whereI; rw [hon]; rfl] at i2
  obtain ⟨P, hP⟩ : ∃ P, posS r xs = P := ⟨_, rfl⟩
  simp only [hP] at i2
  have hP0 : (0 : Int) ≤ (P : Int) := by omega
  have hr1 : r.toList ≠ [] := by simpa using hr0
  have hr2 : r.toList.isEmpty = false := by simpa using hr1
  clear hx hy hw hw2 hR1 hR2 hO1 hO2 hyes hmb hok hn5 hr hI h5 hP hon
  go_enter Tryz.func22, Tryz.ntmps22
  go_wp2_with (first
    | (go_at_call 46; go_fit (i2 _ (HP1.out _ HR1a.out.2.2.2)); rintro e w2 ⟨rfl, hb⟩; have HR2 := Lib.hid (HR1a.out.on hb); have HE2 := Lib.hid (arr9_on HE1a.out hb); have HV2 := Lib.hid (And.intro (HV1a.out.1.on hb) (HV1a.out.2.on hb)); clear hb; obtain ⟨⟨m0, m1⟩, _⟩ := arr9_two HR2.out.1; obtain ⟨⟨s0, s1, s2, s3, s4, s5⟩, _⟩ := arr_six0 HR2.out.2.1; obtain ⟨⟨r0, r1, r2, r3, r4, r5, r6, r7, r8, r9⟩, u0, u1, u2, u3, u4, u5, u6, u7, u8, u9⟩ := ten_all HR2.out.2.2.1; have hzA := arr9_lt HR2.out.1; have hzB := arr9_lt HR2.out.2.1; have hzC := arr9_lt HR2.out.2.2.1; obtain ⟨⟨e0, e1, e2, e3, e4, e5, e6, e7, e8, e9⟩, f0, f1, f2, f3, f4, f5, f6, f7, f8, f9⟩ := ten_all HE2.out; have hzE := arr9_lt HE2.out)
    | (go_at_call 34; go_fit (i1 _ (HO1.out _ HR.out.2.2.2) (HO2.out _ HR.out.2.2.2)); rintro e w1 ⟨⟨q1, l1, q2, l2, rfl, v1, v2⟩, hb⟩; have HR1 := Lib.hid (HR.out.on hb); have HR1a := Lib.hid (HR1.out.on ((Below.refl _ _).alloc (Nat.le_refl _) (.cells #[.slice q1 n1 l1, .slice q2 n2 l2, .slice none 0 0, .string ⟨#[]⟩, .string ⟨#[]⟩, .string ⟨#[]⟩, .string ⟨#[]⟩, .int .i64 0, .string ⟨#[]⟩, .int .i64 0] 33))); have HE1a := Lib.hid (Arr.fresh w1 33 [.slice q1 n1 l1, .slice q2 n2 l2, .slice none 0 0, .string ⟨#[]⟩, .string ⟨#[]⟩, .string ⟨#[]⟩, .string ⟨#[]⟩, .int .i64 0, .string ⟨#[]⟩, .int .i64 0]); have HV1 := Lib.hid (And.intro (v1.mono HR.out.big) (v2.mono HR.out.big)); have HV1a := Lib.hid (And.intro (HV1.out.1.alloc (.cells #[.slice q1 n1 l1, .slice q2 n2 l2, .slice none 0 0, .string ⟨#[]⟩, .string ⟨#[]⟩, .string ⟨#[]⟩, .string ⟨#[]⟩, .int .i64 0, .string ⟨#[]⟩, .int .i64 0] 33)) (HV1.out.2.alloc (.cells #[.slice q1 n1 l1, .slice q2 n2 l2, .slice none 0 0, .string ⟨#[]⟩, .string ⟨#[]⟩, .string ⟨#[]⟩, .string ⟨#[]⟩, .int .i64 0, .string ⟨#[]⟩, .int .i64 0] 33))); clear hb v1 v2; obtain ⟨⟨m0, m1⟩, _⟩ := arr9_two HR1.out.1; obtain ⟨⟨s0, s1, s2, s3, s4, s5⟩, _⟩ := arr_six0 HR1.out.2.1; obtain ⟨⟨r0, r1, r2, r3, r4, r5, r6, r7, r8, r9⟩, u0, u1, u2, u3, u4, u5, u6, u7, u8, u9⟩ := ten_all HR1.out.2.2.1; have hzA := arr9_lt HR1.out.1; have hzB := arr9_lt HR1.out.2.1; have hzC := arr9_lt HR1.out.2.2.1))
  have hb3 : w.heap.size + 3 ≤ w1.heap.size := HR1.out.big
  have HR9 := Lib.hid (RqB.put HR2.out (b := w1.heap.size) (i := 2) (.slice (some ⟨w2.heap.size, 0, none⟩) 1 1) hb3); have HE9 := Lib.hid (HE2.out.put 2 (.slice (some ⟨w2.heap.size, 0, none⟩) 1 1)); have HV9 := Lib.hid (And.intro (own_cell10 (i := 2) (u := .slice (some ⟨w2.heap.size, 0, none⟩) 1 1) HV2.out.1 (own_ne10 HV2.out.1 HE2.out (by decide))) (own_cell10 (i := 2) (u := .slice (some ⟨w2.heap.size, 0, none⟩) 1 1) HV2.out.2 (own_ne10 HV2.out.2 HE2.out (by decide))))
  have hT := str_row10 (put10 (w2.setCell ⟨w1.heap.size, 2, none⟩ (.slice (some ⟨w2.heap.size, 0, none⟩) 1 1)) (w.heap.size + 1 + 1) (.slice q1 n1 l1) (.slice q2 n2 l2) (.slice (some ⟨w2.heap.size, 0, none⟩) 1 1) (.string ⟨#[]⟩) (.string ⟨#[]⟩) (.string ⟨#[]⟩) (.string ⟨#[]⟩) (.int .i64 0) (.string ⟨#[]⟩) (.int .i64 0)) r
  rw [size_put10, World.size_setCell] at hT
  have hz2 := HR2.out.big
  have hA := arr_put10 HR9.out.2.2.1 (.slice q1 n1 l1) (.slice q2 n2 l2) (.slice (some ⟨w2.heap.size, 0, none⟩) 1 1) (.string ⟨#[]⟩) (.string ⟨#[]⟩) (.string ⟨#[]⟩) (.string ⟨#[]⟩) (.int .i64 0) (.string ⟨#[]⟩) (.int .i64 0)
  have hBw := below_put10 HR9.out.2.2.2 (show w.heap.size ≤ w.heap.size + 1 + 1 by omega) (.slice q1 n1 l1) (.slice q2 n2 l2) (.slice (some ⟨w2.heap.size, 0, none⟩) 1 1) (.string ⟨#[]⟩) (.string ⟨#[]⟩) (.string ⟨#[]⟩) (.string ⟨#[]⟩) (.int .i64 0) (.string ⟨#[]⟩) (.int .i64 0)
  have hA2 := arr9_on hA ((Below.refl _ _).alloc (Nat.le_refl _) (.cells #[.string r] 9))
  exact bodyPost_ret (v := .agg #[.slice q1 n1 l1, .slice q2 n2 l2, .slice (some ⟨w2.heap.size, 0, none⟩) 1 1, .string ⟨#[]⟩, .string ⟨#[]⟩, .string ⟨#[]⟩, .string ⟨#[]⟩, .int .i64 0, .string ⟨#[]⟩, .int .i64 0]) (results_cell_row (P := Tryz.prog) Tryz.results22 _ _ (w.heap.size + 1 + 1) 33 _ (0, 0) _ rfl hA2 Tryz.underlying33 rfl (by kernel_rfl)) rfl ⟨⟨q1, l1, q2, l2, _, 1, by unfold roV; rw [HX.out, HY.out]; rfl, by rw [HX.out]; exact ((own_put10 HV9.out.1 (by omega) (.slice q1 n1 l1) (.slice q2 n2 l2) (.slice (some ⟨w2.heap.size, 0, none⟩) 1 1) (.string ⟨#[]⟩) (.string ⟨#[]⟩) (.string ⟨#[]⟩) (.string ⟨#[]⟩) (.int .i64 0) (.string ⟨#[]⟩) (.int .i64 0)).alloc (.cells #[.string r] 9)).mono (by omega), by rw [HY.out]; exact ((own_put10 HV9.out.2 (by omega) (.slice q1 n1 l1) (.slice q2 n2 l2) (.slice (some ⟨w2.heap.size, 0, none⟩) 1 1) (.string ⟨#[]⟩) (.string ⟨#[]⟩) (.string ⟨#[]⟩) (.string ⟨#[]⟩) (.int .i64 0) (.string ⟨#[]⟩) (.int .i64 0)).alloc (.cells #[.string r] 9)).mono (by omega), hT.mono (by omega)⟩, hBw.alloc hBw.size (.cells #[.string r] 9)⟩
set_option maxRecDepth 100000 in
set_option maxHeartbeats 8000000 in
theorem spec_riqg0 (xs : List SeL) (ys : List MsL) (p1 p2 : Option Addr) (n1 n2 c1 c2 : Nat) (s : MsL) (w : World) (hx : xs.length = n1) (hy : ys.length = n2) (hn1 : n1 ≤ 1048576) (hn2 : n2 ≤ 1048576) (hw : SzS xs) (hw2 : SzM ys) (hs : s.le 1048576) (B0 : Nat) (hO1 : OwnC seC w B0 40 4 (.slice p1 n1 c1) xs) (hO2 : OwnC msC w B0 28 6 (.slice p2 n2 c2) ys) (hyes : routB kIq xs ys s = true) (hr0 : (resA s.o).size = 0) (h2 : (s.t.toList == [103, 101, 116]) = true) :
    Calls Tryz.prog 22 #[.agg #[.slice p1 n1 c1, .slice p2 n2 c2], .agg #[.string s.k, .string s.t, .string s.f, .string s.o, .int .i64 s.n, .string s.b]] w fun e w' => RoIs w.heap.size ⟨xs, ys, [], fltM s unavS, 0⟩ e w' ∧ Below w.heap.size w w' := by
  have hR1 := row_own9 hO1
  have hR2 := row_ownM hO2
  have HR := Lib.hid (rqb_start w p1 n1 c1 p2 n2 c2 s)
  have HP1 := Lib.hid (fun W (h : Below w.heap.size w W) => hR1.on h)
  have HP2 := Lib.hid (fun W (h : Below w.heap.size w W) => hR2.on h)
  have HO1 := Lib.hid (fun W (h : Below w.heap.size w W) => hO1.on h)
  have HO2 := Lib.hid (fun W (h : Below w.heap.size w W) => hO2.on h)
  have HX := Lib.hid hx
  have HY := Lib.hid hy
  have hmb : mbB xs ys = true := by unfold routB at hyes; simp only [Bool.and_eq_true] at hyes; exact hyes.1.1.1
  obtain ⟨hok, hn5, _⟩ := mb_parts hmb
  have i1 := fun W h1 h2 => spec_beginT kIq xs ys p1 p2 n1 n2 c1 c2 s W hx hy hn1 hn2 hw hw2 hs B0 h1 h2 hyes
  unfold kIq at i1
  obtain ⟨r, hr⟩ : ∃ r, resA s.o = r := ⟨_, rfl⟩
  rw [hr] at i1 hr0
  obtain rfl : r = ⟨#[]⟩ := ba_ext (List.eq_nil_of_length_eq_zero (by rw [ByteArray.toList_eq, size_data]; exact hr0))
  have i4 := fun W => spec_fault s.k s.t s.f s.o s.n s.b unavS W (by have := hs.2.1; unfold maxLen; omega) (by have := hs.2.2.1; omega) (by have := hs.2.2.2.1; omega) (by have := hs.2.2.2.2; unfold maxLen; omega) (by rw [show unavS.size = _ from rfl]; first | done | (unfold maxLen; decide))
  simp only [fltV_M] at i4
  obtain ⟨Y, hY⟩ : ∃ Y, fltM s unavS = Y := ⟨_, rfl⟩
  rw [hY] at i4
  unfold msV unavS at i4
  rw [hY]
  clear hx hy hw hw2 hR1 hR2 hO1 hO2 hyes hmb hok hn5 hr hs hY
  go_enter Tryz.func22, Tryz.ntmps22
  go_wp2_with (first
    | (go_at_call 37; have _ := HR1a; go_fit (i4 _); rintro e w5 ⟨rfl, hb⟩; have HR5 := Lib.hid (HR1a.out.on hb); have HE5 := Lib.hid (arr9_on HE1a.out hb); have HV5 := Lib.hid (And.intro (HV1a.out.1.on hb) (HV1a.out.2.on hb)); clear hb; obtain ⟨⟨m0, m1⟩, _⟩ := arr9_two HR5.out.1; obtain ⟨⟨s0, s1, s2, s3, s4, s5⟩, _⟩ := arr_six0 HR5.out.2.1; obtain ⟨⟨r0, r1, r2, r3, r4, r5, r6, r7, r8, r9⟩, u0, u1, u2, u3, u4, u5, u6, u7, u8, u9⟩ := ten_all HR5.out.2.2.1; have hzA := arr9_lt HR5.out.1; have hzB := arr9_lt HR5.out.2.1; have hzC := arr9_lt HR5.out.2.2.1; obtain ⟨⟨e0, e1, e2, e3, e4, e5, e6, e7, e8, e9⟩, f0, f1, f2, f3, f4, f5, f6, f7, f8, f9⟩ := ten_all HE5.out; have hzE := arr9_lt HE5.out)
    | (go_at_call 34; go_fit (i1 _ (HO1.out _ HR.out.2.2.2) (HO2.out _ HR.out.2.2.2)); rintro e w1 ⟨⟨q1, l1, q2, l2, rfl, v1, v2⟩, hb⟩; have HR1 := Lib.hid (HR.out.on hb); have HR1a := Lib.hid (HR1.out.on ((Below.refl _ _).alloc (Nat.le_refl _) (.cells #[.slice q1 n1 l1, .slice q2 n2 l2, .slice none 0 0, .string ⟨#[]⟩, .string ⟨#[]⟩, .string ⟨#[]⟩, .string ⟨#[]⟩, .int .i64 0, .string ⟨#[]⟩, .int .i64 0] 33))); have HE1a := Lib.hid (Arr.fresh w1 33 [.slice q1 n1 l1, .slice q2 n2 l2, .slice none 0 0, .string ⟨#[]⟩, .string ⟨#[]⟩, .string ⟨#[]⟩, .string ⟨#[]⟩, .int .i64 0, .string ⟨#[]⟩, .int .i64 0]); have HV1 := Lib.hid (And.intro (v1.mono HR.out.big) (v2.mono HR.out.big)); have HV1a := Lib.hid (And.intro (HV1.out.1.alloc (.cells #[.slice q1 n1 l1, .slice q2 n2 l2, .slice none 0 0, .string ⟨#[]⟩, .string ⟨#[]⟩, .string ⟨#[]⟩, .string ⟨#[]⟩, .int .i64 0, .string ⟨#[]⟩, .int .i64 0] 33)) (HV1.out.2.alloc (.cells #[.slice q1 n1 l1, .slice q2 n2 l2, .slice none 0 0, .string ⟨#[]⟩, .string ⟨#[]⟩, .string ⟨#[]⟩, .string ⟨#[]⟩, .int .i64 0, .string ⟨#[]⟩, .int .i64 0] 33))); clear hb v1 v2; obtain ⟨⟨m0, m1⟩, _⟩ := arr9_two HR1.out.1; obtain ⟨⟨s0, s1, s2, s3, s4, s5⟩, _⟩ := arr_six0 HR1.out.2.1; obtain ⟨⟨r0, r1, r2, r3, r4, r5, r6, r7, r8, r9⟩, u0, u1, u2, u3, u4, u5, u6, u7, u8, u9⟩ := ten_all HR1.out.2.2.1; have hzA := arr9_lt HR1.out.1; have hzB := arr9_lt HR1.out.2.1; have hzC := arr9_lt HR1.out.2.2.1))
  have hb3 : w.heap.size + 3 ≤ w1.heap.size := HR1.out.big
  have HR9 := Lib.hid (RqB.put6b HR5.out (b := w1.heap.size) hb3 (.string Y.k) (.string Y.t) (.string Y.f) (.string Y.o) (.int .i64 Y.n) (.string Y.b)); have HE9 := Lib.hid ((((((HE5.out.put 3 (.string Y.k)).put 4 (.string Y.t)).put 5 (.string Y.f)).put 6 (.string Y.o)).put 7 (.int .i64 Y.n)).put 8 (.string Y.b)); have HV9 := Lib.hid (And.intro (own_put6b HV5.out.1 (own_ne10 HV5.out.1 HE5.out (by decide)) (.string Y.k) (.string Y.t) (.string Y.f) (.string Y.o) (.int .i64 Y.n) (.string Y.b)) (own_put6b HV5.out.2 (own_ne10 HV5.out.2 HE5.out (by decide)) (.string Y.k) (.string Y.t) (.string Y.f) (.string Y.o) (.int .i64 Y.n) (.string Y.b)))
  have hA := arr_put10 HR9.out.2.2.1 (.slice q1 n1 l1) (.slice q2 n2 l2) (.slice none 0 0) (.string Y.k) (.string Y.t) (.string Y.f) (.string Y.o) (.int .i64 Y.n) (.string Y.b) (.int .i64 0)
  have hBw := below_put10 HR9.out.2.2.2 (show w.heap.size ≤ w.heap.size + 1 + 1 by omega) (.slice q1 n1 l1) (.slice q2 n2 l2) (.slice none 0 0) (.string Y.k) (.string Y.t) (.string Y.f) (.string Y.o) (.int .i64 Y.n) (.string Y.b) (.int .i64 0)
  exact bodyPost_ret (v := .agg #[.slice q1 n1 l1, .slice q2 n2 l2, .slice none 0 0, .string Y.k, .string Y.t, .string Y.f, .string Y.o, .int .i64 Y.n, .string Y.b, .int .i64 0]) (results_cell_row (P := Tryz.prog) Tryz.results22 _ _ (w.heap.size + 1 + 1) 33 _ (0, 0) _ rfl hA Tryz.underlying33 rfl (by kernel_rfl)) rfl ⟨⟨q1, l1, q2, l2, none, 0, by unfold roV; rw [HX.out, HY.out]; rfl, by rw [HX.out]; exact (own_put10 HV9.out.1 (by omega) (.slice q1 n1 l1) (.slice q2 n2 l2) (.slice none 0 0) (.string Y.k) (.string Y.t) (.string Y.f) (.string Y.o) (.int .i64 Y.n) (.string Y.b) (.int .i64 0)).mono (by omega), by rw [HY.out]; exact (own_put10 HV9.out.2 (by omega) (.slice q1 n1 l1) (.slice q2 n2 l2) (.slice none 0 0) (.string Y.k) (.string Y.t) (.string Y.f) (.string Y.o) (.int .i64 Y.n) (.string Y.b) (.int .i64 0)).mono (by omega), ownC_nil _ _ _ _ _⟩, hBw⟩
set_option maxRecDepth 100000 in
set_option maxHeartbeats 8000000 in
theorem spec_riqs0 (xs : List SeL) (ys : List MsL) (p1 p2 : Option Addr) (n1 n2 c1 c2 : Nat) (s : MsL) (w : World) (hx : xs.length = n1) (hy : ys.length = n2) (hn1 : n1 ≤ 1048576) (hn2 : n2 ≤ 1048576) (hw : SzS xs) (hw2 : SzM ys) (hs : s.le 1048576) (B0 : Nat) (hO1 : OwnC seC w B0 40 4 (.slice p1 n1 c1) xs) (hO2 : OwnC msC w B0 28 6 (.slice p2 n2 c2) ys) (hyes : routB kIq xs ys s = true) (hr0 : (resA s.o).size = 0) (h2 : (s.t.toList == [103, 101, 116]) = false) (h3 : (s.t.toList == [115, 101, 116]) = true) :
    Calls Tryz.prog 22 #[.agg #[.slice p1 n1 c1, .slice p2 n2 c2], .agg #[.string s.k, .string s.t, .string s.f, .string s.o, .int .i64 s.n, .string s.b]] w fun e w' => RoIs w.heap.size ⟨xs, ys, [], fltM s unavS, 0⟩ e w' ∧ Below w.heap.size w w' := by
  have hR1 := row_own9 hO1
  have hR2 := row_ownM hO2
  have HR := Lib.hid (rqb_start w p1 n1 c1 p2 n2 c2 s)
  have HP1 := Lib.hid (fun W (h : Below w.heap.size w W) => hR1.on h)
  have HP2 := Lib.hid (fun W (h : Below w.heap.size w W) => hR2.on h)
  have HO1 := Lib.hid (fun W (h : Below w.heap.size w W) => hO1.on h)
  have HO2 := Lib.hid (fun W (h : Below w.heap.size w W) => hO2.on h)
  have HX := Lib.hid hx
  have HY := Lib.hid hy
  have hmb : mbB xs ys = true := by unfold routB at hyes; simp only [Bool.and_eq_true] at hyes; exact hyes.1.1.1
  obtain ⟨hok, hn5, _⟩ := mb_parts hmb
  have i1 := fun W h1 h2 => spec_beginT kIq xs ys p1 p2 n1 n2 c1 c2 s W hx hy hn1 hn2 hw hw2 hs B0 h1 h2 hyes
  unfold kIq at i1
  obtain ⟨r, hr⟩ : ∃ r, resA s.o = r := ⟨_, rfl⟩
  rw [hr] at i1 hr0
  obtain rfl : r = ⟨#[]⟩ := ba_ext (List.eq_nil_of_length_eq_zero (by rw [ByteArray.toList_eq, size_data]; exact hr0))
  have i4 := fun W => spec_fault s.k s.t s.f s.o s.n s.b unavS W (by have := hs.2.1; unfold maxLen; omega) (by have := hs.2.2.1; omega) (by have := hs.2.2.2.1; omega) (by have := hs.2.2.2.2; unfold maxLen; omega) (by rw [show unavS.size = _ from rfl]; first | done | (unfold maxLen; decide))
  simp only [fltV_M] at i4
  obtain ⟨Y, hY⟩ : ∃ Y, fltM s unavS = Y := ⟨_, rfl⟩
  rw [hY] at i4
  unfold msV unavS at i4
  rw [hY]
  clear hx hy hw hw2 hR1 hR2 hO1 hO2 hyes hmb hok hn5 hr hs hY
  go_enter Tryz.func22, Tryz.ntmps22
  go_wp2_with (first
    | (go_at_call 37; have _ := HR1a; go_fit (i4 _); rintro e w5 ⟨rfl, hb⟩; have HR5 := Lib.hid (HR1a.out.on hb); have HE5 := Lib.hid (arr9_on HE1a.out hb); have HV5 := Lib.hid (And.intro (HV1a.out.1.on hb) (HV1a.out.2.on hb)); clear hb; obtain ⟨⟨m0, m1⟩, _⟩ := arr9_two HR5.out.1; obtain ⟨⟨s0, s1, s2, s3, s4, s5⟩, _⟩ := arr_six0 HR5.out.2.1; obtain ⟨⟨r0, r1, r2, r3, r4, r5, r6, r7, r8, r9⟩, u0, u1, u2, u3, u4, u5, u6, u7, u8, u9⟩ := ten_all HR5.out.2.2.1; have hzA := arr9_lt HR5.out.1; have hzB := arr9_lt HR5.out.2.1; have hzC := arr9_lt HR5.out.2.2.1; obtain ⟨⟨e0, e1, e2, e3, e4, e5, e6, e7, e8, e9⟩, f0, f1, f2, f3, f4, f5, f6, f7, f8, f9⟩ := ten_all HE5.out; have hzE := arr9_lt HE5.out)
    | (go_at_call 34; go_fit (i1 _ (HO1.out _ HR.out.2.2.2) (HO2.out _ HR.out.2.2.2)); rintro e w1 ⟨⟨q1, l1, q2, l2, rfl, v1, v2⟩, hb⟩; have HR1 := Lib.hid (HR.out.on hb); have HR1a := Lib.hid (HR1.out.on ((Below.refl _ _).alloc (Nat.le_refl _) (.cells #[.slice q1 n1 l1, .slice q2 n2 l2, .slice none 0 0, .string ⟨#[]⟩, .string ⟨#[]⟩, .string ⟨#[]⟩, .string ⟨#[]⟩, .int .i64 0, .string ⟨#[]⟩, .int .i64 0] 33))); have HE1a := Lib.hid (Arr.fresh w1 33 [.slice q1 n1 l1, .slice q2 n2 l2, .slice none 0 0, .string ⟨#[]⟩, .string ⟨#[]⟩, .string ⟨#[]⟩, .string ⟨#[]⟩, .int .i64 0, .string ⟨#[]⟩, .int .i64 0]); have HV1 := Lib.hid (And.intro (v1.mono HR.out.big) (v2.mono HR.out.big)); have HV1a := Lib.hid (And.intro (HV1.out.1.alloc (.cells #[.slice q1 n1 l1, .slice q2 n2 l2, .slice none 0 0, .string ⟨#[]⟩, .string ⟨#[]⟩, .string ⟨#[]⟩, .string ⟨#[]⟩, .int .i64 0, .string ⟨#[]⟩, .int .i64 0] 33)) (HV1.out.2.alloc (.cells #[.slice q1 n1 l1, .slice q2 n2 l2, .slice none 0 0, .string ⟨#[]⟩, .string ⟨#[]⟩, .string ⟨#[]⟩, .string ⟨#[]⟩, .int .i64 0, .string ⟨#[]⟩, .int .i64 0] 33))); clear hb v1 v2; obtain ⟨⟨m0, m1⟩, _⟩ := arr9_two HR1.out.1; obtain ⟨⟨s0, s1, s2, s3, s4, s5⟩, _⟩ := arr_six0 HR1.out.2.1; obtain ⟨⟨r0, r1, r2, r3, r4, r5, r6, r7, r8, r9⟩, u0, u1, u2, u3, u4, u5, u6, u7, u8, u9⟩ := ten_all HR1.out.2.2.1; have hzA := arr9_lt HR1.out.1; have hzB := arr9_lt HR1.out.2.1; have hzC := arr9_lt HR1.out.2.2.1))
  have hb3 : w.heap.size + 3 ≤ w1.heap.size := HR1.out.big
  have HR9 := Lib.hid (RqB.put6b HR5.out (b := w1.heap.size) hb3 (.string Y.k) (.string Y.t) (.string Y.f) (.string Y.o) (.int .i64 Y.n) (.string Y.b)); have HE9 := Lib.hid ((((((HE5.out.put 3 (.string Y.k)).put 4 (.string Y.t)).put 5 (.string Y.f)).put 6 (.string Y.o)).put 7 (.int .i64 Y.n)).put 8 (.string Y.b)); have HV9 := Lib.hid (And.intro (own_put6b HV5.out.1 (own_ne10 HV5.out.1 HE5.out (by decide)) (.string Y.k) (.string Y.t) (.string Y.f) (.string Y.o) (.int .i64 Y.n) (.string Y.b)) (own_put6b HV5.out.2 (own_ne10 HV5.out.2 HE5.out (by decide)) (.string Y.k) (.string Y.t) (.string Y.f) (.string Y.o) (.int .i64 Y.n) (.string Y.b)))
  have hA := arr_put10 HR9.out.2.2.1 (.slice q1 n1 l1) (.slice q2 n2 l2) (.slice none 0 0) (.string Y.k) (.string Y.t) (.string Y.f) (.string Y.o) (.int .i64 Y.n) (.string Y.b) (.int .i64 0)
  have hBw := below_put10 HR9.out.2.2.2 (show w.heap.size ≤ w.heap.size + 1 + 1 by omega) (.slice q1 n1 l1) (.slice q2 n2 l2) (.slice none 0 0) (.string Y.k) (.string Y.t) (.string Y.f) (.string Y.o) (.int .i64 Y.n) (.string Y.b) (.int .i64 0)
  exact bodyPost_ret (v := .agg #[.slice q1 n1 l1, .slice q2 n2 l2, .slice none 0 0, .string Y.k, .string Y.t, .string Y.f, .string Y.o, .int .i64 Y.n, .string Y.b, .int .i64 0]) (results_cell_row (P := Tryz.prog) Tryz.results22 _ _ (w.heap.size + 1 + 1) 33 _ (0, 0) _ rfl hA Tryz.underlying33 rfl (by kernel_rfl)) rfl ⟨⟨q1, l1, q2, l2, none, 0, by unfold roV; rw [HX.out, HY.out]; rfl, by rw [HX.out]; exact (own_put10 HV9.out.1 (by omega) (.slice q1 n1 l1) (.slice q2 n2 l2) (.slice none 0 0) (.string Y.k) (.string Y.t) (.string Y.f) (.string Y.o) (.int .i64 Y.n) (.string Y.b) (.int .i64 0)).mono (by omega), by rw [HY.out]; exact (own_put10 HV9.out.2 (by omega) (.slice q1 n1 l1) (.slice q2 n2 l2) (.slice none 0 0) (.string Y.k) (.string Y.t) (.string Y.f) (.string Y.o) (.int .i64 Y.n) (.string Y.b) (.int .i64 0)).mono (by omega), ownC_nil _ _ _ _ _⟩, hBw⟩
set_option maxRecDepth 100000 in
set_option maxHeartbeats 8000000 in
theorem spec_riqn0 (xs : List SeL) (ys : List MsL) (p1 p2 : Option Addr) (n1 n2 c1 c2 : Nat) (s : MsL) (w : World) (hx : xs.length = n1) (hy : ys.length = n2) (hn1 : n1 ≤ 1048576) (hn2 : n2 ≤ 1048576) (hw : SzS xs) (hw2 : SzM ys) (hs : s.le 1048576) (B0 : Nat) (hO1 : OwnC seC w B0 40 4 (.slice p1 n1 c1) xs) (hO2 : OwnC msC w B0 28 6 (.slice p2 n2 c2) ys) (hyes : routB kIq xs ys s = true) (hr0 : (resA s.o).size = 0) (h2 : (s.t.toList == [103, 101, 116]) = false) (h3 : (s.t.toList == [115, 101, 116]) = false) :
    Calls Tryz.prog 22 #[.agg #[.slice p1 n1 c1, .slice p2 n2 c2], .agg #[.string s.k, .string s.t, .string s.f, .string s.o, .int .i64 s.n, .string s.b]] w fun e w' => RoIs w.heap.size ⟨xs, ys, [], zMs, 0⟩ e w' ∧ Below w.heap.size w w' := by
  have hR1 := row_own9 hO1
  have hR2 := row_ownM hO2
  have HR := Lib.hid (rqb_start w p1 n1 c1 p2 n2 c2 s)
  have HP1 := Lib.hid (fun W (h : Below w.heap.size w W) => hR1.on h)
  have HP2 := Lib.hid (fun W (h : Below w.heap.size w W) => hR2.on h)
  have HO1 := Lib.hid (fun W (h : Below w.heap.size w W) => hO1.on h)
  have HO2 := Lib.hid (fun W (h : Below w.heap.size w W) => hO2.on h)
  have HX := Lib.hid hx
  have HY := Lib.hid hy
  have hmb : mbB xs ys = true := by unfold routB at hyes; simp only [Bool.and_eq_true] at hyes; exact hyes.1.1.1
  obtain ⟨hok, hn5, _⟩ := mb_parts hmb
  have i1 := fun W h1 h2 => spec_beginT kIq xs ys p1 p2 n1 n2 c1 c2 s W hx hy hn1 hn2 hw hw2 hs B0 h1 h2 hyes
  unfold kIq at i1
  obtain ⟨r, hr⟩ : ∃ r, resA s.o = r := ⟨_, rfl⟩
  rw [hr] at i1 hr0
  obtain rfl : r = ⟨#[]⟩ := ba_ext (List.eq_nil_of_length_eq_zero (by rw [ByteArray.toList_eq, size_data]; exact hr0))
  clear hx hy hw hw2 hR1 hR2 hO1 hO2 hyes hmb hok hn5 hr hs
  go_enter Tryz.func22, Tryz.ntmps22
  go_wp2_with (first
    | (go_at_call 34; go_fit (i1 _ (HO1.out _ HR.out.2.2.2) (HO2.out _ HR.out.2.2.2)); rintro e w1 ⟨⟨q1, l1, q2, l2, rfl, v1, v2⟩, hb⟩; have HR1 := Lib.hid (HR.out.on hb); have HR1a := Lib.hid (HR1.out.on ((Below.refl _ _).alloc (Nat.le_refl _) (.cells #[.slice q1 n1 l1, .slice q2 n2 l2, .slice none 0 0, .string ⟨#[]⟩, .string ⟨#[]⟩, .string ⟨#[]⟩, .string ⟨#[]⟩, .int .i64 0, .string ⟨#[]⟩, .int .i64 0] 33))); have HE1a := Lib.hid (Arr.fresh w1 33 [.slice q1 n1 l1, .slice q2 n2 l2, .slice none 0 0, .string ⟨#[]⟩, .string ⟨#[]⟩, .string ⟨#[]⟩, .string ⟨#[]⟩, .int .i64 0, .string ⟨#[]⟩, .int .i64 0]); have HV1 := Lib.hid (And.intro (v1.mono HR.out.big) (v2.mono HR.out.big)); have HV1a := Lib.hid (And.intro (HV1.out.1.alloc (.cells #[.slice q1 n1 l1, .slice q2 n2 l2, .slice none 0 0, .string ⟨#[]⟩, .string ⟨#[]⟩, .string ⟨#[]⟩, .string ⟨#[]⟩, .int .i64 0, .string ⟨#[]⟩, .int .i64 0] 33)) (HV1.out.2.alloc (.cells #[.slice q1 n1 l1, .slice q2 n2 l2, .slice none 0 0, .string ⟨#[]⟩, .string ⟨#[]⟩, .string ⟨#[]⟩, .string ⟨#[]⟩, .int .i64 0, .string ⟨#[]⟩, .int .i64 0] 33))); clear hb v1 v2; obtain ⟨⟨m0, m1⟩, _⟩ := arr9_two HR1.out.1; obtain ⟨⟨s0, s1, s2, s3, s4, s5⟩, _⟩ := arr_six0 HR1.out.2.1; obtain ⟨⟨r0, r1, r2, r3, r4, r5, r6, r7, r8, r9⟩, u0, u1, u2, u3, u4, u5, u6, u7, u8, u9⟩ := ten_all HR1.out.2.2.1; have hzA := arr9_lt HR1.out.1; have hzB := arr9_lt HR1.out.2.1; have hzC := arr9_lt HR1.out.2.2.1))
  have hb3 : w.heap.size + 3 ≤ w1.heap.size := HR1.out.big
  have hA := arr_put10 HR1.out.2.2.1 (.slice q1 n1 l1) (.slice q2 n2 l2) (.slice none 0 0) (.string ⟨#[]⟩) (.string ⟨#[]⟩) (.string ⟨#[]⟩) (.string ⟨#[]⟩) (.int .i64 0) (.string ⟨#[]⟩) (.int .i64 0)
  have hBw := below_put10 HR1.out.2.2.2 (show w.heap.size ≤ w.heap.size + 1 + 1 by omega) (.slice q1 n1 l1) (.slice q2 n2 l2) (.slice none 0 0) (.string ⟨#[]⟩) (.string ⟨#[]⟩) (.string ⟨#[]⟩) (.string ⟨#[]⟩) (.int .i64 0) (.string ⟨#[]⟩) (.int .i64 0)
  have hA2 := arr9_on hA ((Below.refl _ _).alloc (Nat.le_refl _) (.cells #[.slice q1 n1 l1, .slice q2 n2 l2, .slice none 0 0, .string ⟨#[]⟩, .string ⟨#[]⟩, .string ⟨#[]⟩, .string ⟨#[]⟩, .int .i64 0, .string ⟨#[]⟩, .int .i64 0] 33))
  exact bodyPost_ret (v := .agg #[.slice q1 n1 l1, .slice q2 n2 l2, .slice none 0 0, .string ⟨#[]⟩, .string ⟨#[]⟩, .string ⟨#[]⟩, .string ⟨#[]⟩, .int .i64 0, .string ⟨#[]⟩, .int .i64 0]) (results_cell_row (P := Tryz.prog) Tryz.results22 _ _ (w.heap.size + 1 + 1) 33 _ (0, 0) _ rfl hA2 Tryz.underlying33 rfl (by kernel_rfl)) rfl ⟨⟨q1, l1, q2, l2, none, 0, by unfold roV; rw [HX.out, HY.out]; rfl, by rw [HX.out]; exact ((own_put10 HV1.out.1 (by omega) (.slice q1 n1 l1) (.slice q2 n2 l2) (.slice none 0 0) (.string ⟨#[]⟩) (.string ⟨#[]⟩) (.string ⟨#[]⟩) (.string ⟨#[]⟩) (.int .i64 0) (.string ⟨#[]⟩) (.int .i64 0)).alloc (.cells #[.slice q1 n1 l1, .slice q2 n2 l2, .slice none 0 0, .string ⟨#[]⟩, .string ⟨#[]⟩, .string ⟨#[]⟩, .string ⟨#[]⟩, .int .i64 0, .string ⟨#[]⟩, .int .i64 0] 33)).mono (by omega), by rw [HY.out]; exact ((own_put10 HV1.out.2 (by omega) (.slice q1 n1 l1) (.slice q2 n2 l2) (.slice none 0 0) (.string ⟨#[]⟩) (.string ⟨#[]⟩) (.string ⟨#[]⟩) (.string ⟨#[]⟩) (.int .i64 0) (.string ⟨#[]⟩) (.int .i64 0)).alloc (.cells #[.slice q1 n1 l1, .slice q2 n2 l2, .slice none 0 0, .string ⟨#[]⟩, .string ⟨#[]⟩, .string ⟨#[]⟩, .string ⟨#[]⟩, .int .i64 0, .string ⟨#[]⟩, .int .i64 0] 33)).mono (by omega), ownC_nil _ _ _ _ _⟩, hBw.alloc hBw.size (.cells #[.slice q1 n1 l1, .slice q2 n2 l2, .slice none 0 0, .string ⟨#[]⟩, .string ⟨#[]⟩, .string ⟨#[]⟩, .string ⟨#[]⟩, .int .i64 0, .string ⟨#[]⟩, .int .i64 0] 33)⟩
set_option maxRecDepth 100000 in
set_option maxHeartbeats 8000000 in
theorem spec_riqg1 (xs : List SeL) (ys : List MsL) (p1 p2 : Option Addr) (n1 n2 c1 c2 : Nat) (s : MsL) (w : World) (hx : xs.length = n1) (hy : ys.length = n2) (hn1 : n1 ≤ 1048576) (hn2 : n2 ≤ 1048576) (hw : SzS xs) (hw2 : SzM ys) (hs : s.le 1048576) (B0 : Nat) (hO1 : OwnC seC w B0 40 4 (.slice p1 n1 c1) xs) (hO2 : OwnC msC w B0 28 6 (.slice p2 n2 c2) ys) (hyes : routB kIq xs ys s = true) (hr0 : ((resA s.o).toList == []) = false) (hon : hereB (resA s.o) xs = false) (h2 : (s.t.toList == [103, 101, 116]) = true) :
    Calls Tryz.prog 22 #[.agg #[.slice p1 n1 c1, .slice p2 n2 c2], .agg #[.string s.k, .string s.t, .string s.f, .string s.o, .int .i64 s.n, .string s.b]] w fun e w' => RoIs w.heap.size ⟨xs, ys, [], fltM s unavS, 0⟩ e w' ∧ Below w.heap.size w w' := by
  have hR1 := row_own9 hO1
  have hR2 := row_ownM hO2
  have HR := Lib.hid (rqb_start w p1 n1 c1 p2 n2 c2 s)
  have HP1 := Lib.hid (fun W (h : Below w.heap.size w W) => hR1.on h)
  have HP2 := Lib.hid (fun W (h : Below w.heap.size w W) => hR2.on h)
  have HO1 := Lib.hid (fun W (h : Below w.heap.size w W) => hO1.on h)
  have HO2 := Lib.hid (fun W (h : Below w.heap.size w W) => hO2.on h)
  have HX := Lib.hid hx
  have HY := Lib.hid hy
  have hmb : mbB xs ys = true := by unfold routB at hyes; simp only [Bool.and_eq_true] at hyes; exact hyes.1.1.1
  obtain ⟨hok, hn5, _⟩ := mb_parts hmb
  have i1 := fun W h1 h2 => spec_beginT kIq xs ys p1 p2 n1 n2 c1 c2 s W hx hy hn1 hn2 hw hw2 hs B0 h1 h2 hyes
  unfold kIq at i1
  obtain ⟨r, hr⟩ : ∃ r, resA s.o = r := ⟨_, rfl⟩
  rw [hr] at i1 hon hr0
  have hr1 : r.toList ≠ [] := by simpa using hr0
  have hr2 : r.toList.isEmpty = false := by simpa using hr1
  have hI := (okB_iff.1 hok).2.1
  have h5 := (okB_iff.1 hok).1
  have i2 := fun W hR => spec_at9 xs r p1 c1 W (by omega) hI hR
  rw [hx] at i2
  rw [show whereI r xs = -1 by unfold whereI; rw [hon]; rfl] at i2
  have i4 := fun W => spec_fault s.k s.t s.f s.o s.n s.b unavS W (by have := hs.2.1; unfold maxLen; omega) (by have := hs.2.2.1; omega) (by have := hs.2.2.2.1; omega) (by have := hs.2.2.2.2; unfold maxLen; omega) (by rw [show unavS.size = _ from rfl]; first | done | (unfold maxLen; decide))
  simp only [fltV_M] at i4
  obtain ⟨Y, hY⟩ : ∃ Y, fltM s unavS = Y := ⟨_, rfl⟩
  rw [hY] at i4
  unfold msV unavS at i4
  rw [hY]
  clear hx hy hw hw2 hR1 hR2 hO1 hO2 hyes hmb hok hn5 hr hs hI h5 hon hY
  go_enter Tryz.func22, Tryz.ntmps22
  go_wp2_with (first
    | (go_at_call 37; have _ := HR2; go_fit (i4 _); rintro e w5 ⟨rfl, hb⟩; have HR5 := Lib.hid (HR2.out.on hb); have HE5 := Lib.hid (arr9_on HE2.out hb); have HV5 := Lib.hid (And.intro (HV2.out.1.on hb) (HV2.out.2.on hb)); clear hb; obtain ⟨⟨m0, m1⟩, _⟩ := arr9_two HR5.out.1; obtain ⟨⟨s0, s1, s2, s3, s4, s5⟩, _⟩ := arr_six0 HR5.out.2.1; obtain ⟨⟨r0, r1, r2, r3, r4, r5, r6, r7, r8, r9⟩, u0, u1, u2, u3, u4, u5, u6, u7, u8, u9⟩ := ten_all HR5.out.2.2.1; have hzA := arr9_lt HR5.out.1; have hzB := arr9_lt HR5.out.2.1; have hzC := arr9_lt HR5.out.2.2.1; obtain ⟨⟨e0, e1, e2, e3, e4, e5, e6, e7, e8, e9⟩, f0, f1, f2, f3, f4, f5, f6, f7, f8, f9⟩ := ten_all HE5.out; have hzE := arr9_lt HE5.out)
    | (go_at_call 46; go_fit (i2 _ (HP1.out _ HR1a.out.2.2.2)); rintro e w2 ⟨rfl, hb⟩; have HR2 := Lib.hid (HR1a.out.on hb); have HE2 := Lib.hid (arr9_on HE1a.out hb); have HV2 := Lib.hid (And.intro (HV1a.out.1.on hb) (HV1a.out.2.on hb)); clear hb; obtain ⟨⟨m0, m1⟩, _⟩ := arr9_two HR2.out.1; obtain ⟨⟨s0, s1, s2, s3, s4, s5⟩, _⟩ := arr_six0 HR2.out.2.1; obtain ⟨⟨r0, r1, r2, r3, r4, r5, r6, r7, r8, r9⟩, u0, u1, u2, u3, u4, u5, u6, u7, u8, u9⟩ := ten_all HR2.out.2.2.1; have hzA := arr9_lt HR2.out.1; have hzB := arr9_lt HR2.out.2.1; have hzC := arr9_lt HR2.out.2.2.1; obtain ⟨⟨e0, e1, e2, e3, e4, e5, e6, e7, e8, e9⟩, f0, f1, f2, f3, f4, f5, f6, f7, f8, f9⟩ := ten_all HE2.out; have hzE := arr9_lt HE2.out)
    | (go_at_call 34; go_fit (i1 _ (HO1.out _ HR.out.2.2.2) (HO2.out _ HR.out.2.2.2)); rintro e w1 ⟨⟨q1, l1, q2, l2, rfl, v1, v2⟩, hb⟩; have HR1 := Lib.hid (HR.out.on hb); have HR1a := Lib.hid (HR1.out.on ((Below.refl _ _).alloc (Nat.le_refl _) (.cells #[.slice q1 n1 l1, .slice q2 n2 l2, .slice none 0 0, .string ⟨#[]⟩, .string ⟨#[]⟩, .string ⟨#[]⟩, .string ⟨#[]⟩, .int .i64 0, .string ⟨#[]⟩, .int .i64 0] 33))); have HE1a := Lib.hid (Arr.fresh w1 33 [.slice q1 n1 l1, .slice q2 n2 l2, .slice none 0 0, .string ⟨#[]⟩, .string ⟨#[]⟩, .string ⟨#[]⟩, .string ⟨#[]⟩, .int .i64 0, .string ⟨#[]⟩, .int .i64 0]); have HV1 := Lib.hid (And.intro (v1.mono HR.out.big) (v2.mono HR.out.big)); have HV1a := Lib.hid (And.intro (HV1.out.1.alloc (.cells #[.slice q1 n1 l1, .slice q2 n2 l2, .slice none 0 0, .string ⟨#[]⟩, .string ⟨#[]⟩, .string ⟨#[]⟩, .string ⟨#[]⟩, .int .i64 0, .string ⟨#[]⟩, .int .i64 0] 33)) (HV1.out.2.alloc (.cells #[.slice q1 n1 l1, .slice q2 n2 l2, .slice none 0 0, .string ⟨#[]⟩, .string ⟨#[]⟩, .string ⟨#[]⟩, .string ⟨#[]⟩, .int .i64 0, .string ⟨#[]⟩, .int .i64 0] 33))); clear hb v1 v2; obtain ⟨⟨m0, m1⟩, _⟩ := arr9_two HR1.out.1; obtain ⟨⟨s0, s1, s2, s3, s4, s5⟩, _⟩ := arr_six0 HR1.out.2.1; obtain ⟨⟨r0, r1, r2, r3, r4, r5, r6, r7, r8, r9⟩, u0, u1, u2, u3, u4, u5, u6, u7, u8, u9⟩ := ten_all HR1.out.2.2.1; have hzA := arr9_lt HR1.out.1; have hzB := arr9_lt HR1.out.2.1; have hzC := arr9_lt HR1.out.2.2.1))
  have hb3 : w.heap.size + 3 ≤ w1.heap.size := HR1.out.big
  have HR9 := Lib.hid (RqB.put6b HR5.out (b := w1.heap.size) hb3 (.string Y.k) (.string Y.t) (.string Y.f) (.string Y.o) (.int .i64 Y.n) (.string Y.b)); have HE9 := Lib.hid ((((((HE5.out.put 3 (.string Y.k)).put 4 (.string Y.t)).put 5 (.string Y.f)).put 6 (.string Y.o)).put 7 (.int .i64 Y.n)).put 8 (.string Y.b)); have HV9 := Lib.hid (And.intro (own_put6b HV5.out.1 (own_ne10 HV5.out.1 HE5.out (by decide)) (.string Y.k) (.string Y.t) (.string Y.f) (.string Y.o) (.int .i64 Y.n) (.string Y.b)) (own_put6b HV5.out.2 (own_ne10 HV5.out.2 HE5.out (by decide)) (.string Y.k) (.string Y.t) (.string Y.f) (.string Y.o) (.int .i64 Y.n) (.string Y.b)))
  have hA := arr_put10 HR9.out.2.2.1 (.slice q1 n1 l1) (.slice q2 n2 l2) (.slice none 0 0) (.string Y.k) (.string Y.t) (.string Y.f) (.string Y.o) (.int .i64 Y.n) (.string Y.b) (.int .i64 0)
  have hBw := below_put10 HR9.out.2.2.2 (show w.heap.size ≤ w.heap.size + 1 + 1 by omega) (.slice q1 n1 l1) (.slice q2 n2 l2) (.slice none 0 0) (.string Y.k) (.string Y.t) (.string Y.f) (.string Y.o) (.int .i64 Y.n) (.string Y.b) (.int .i64 0)
  exact bodyPost_ret (v := .agg #[.slice q1 n1 l1, .slice q2 n2 l2, .slice none 0 0, .string Y.k, .string Y.t, .string Y.f, .string Y.o, .int .i64 Y.n, .string Y.b, .int .i64 0]) (results_cell_row (P := Tryz.prog) Tryz.results22 _ _ (w.heap.size + 1 + 1) 33 _ (0, 0) _ rfl hA Tryz.underlying33 rfl (by kernel_rfl)) rfl ⟨⟨q1, l1, q2, l2, none, 0, by unfold roV; rw [HX.out, HY.out]; rfl, by rw [HX.out]; exact (own_put10 HV9.out.1 (by omega) (.slice q1 n1 l1) (.slice q2 n2 l2) (.slice none 0 0) (.string Y.k) (.string Y.t) (.string Y.f) (.string Y.o) (.int .i64 Y.n) (.string Y.b) (.int .i64 0)).mono (by omega), by rw [HY.out]; exact (own_put10 HV9.out.2 (by omega) (.slice q1 n1 l1) (.slice q2 n2 l2) (.slice none 0 0) (.string Y.k) (.string Y.t) (.string Y.f) (.string Y.o) (.int .i64 Y.n) (.string Y.b) (.int .i64 0)).mono (by omega), ownC_nil _ _ _ _ _⟩, hBw⟩
set_option maxRecDepth 100000 in
set_option maxHeartbeats 8000000 in
theorem spec_riqs1 (xs : List SeL) (ys : List MsL) (p1 p2 : Option Addr) (n1 n2 c1 c2 : Nat) (s : MsL) (w : World) (hx : xs.length = n1) (hy : ys.length = n2) (hn1 : n1 ≤ 1048576) (hn2 : n2 ≤ 1048576) (hw : SzS xs) (hw2 : SzM ys) (hs : s.le 1048576) (B0 : Nat) (hO1 : OwnC seC w B0 40 4 (.slice p1 n1 c1) xs) (hO2 : OwnC msC w B0 28 6 (.slice p2 n2 c2) ys) (hyes : routB kIq xs ys s = true) (hr0 : ((resA s.o).toList == []) = false) (hon : hereB (resA s.o) xs = false) (h2 : (s.t.toList == [103, 101, 116]) = false) (h3 : (s.t.toList == [115, 101, 116]) = true) :
    Calls Tryz.prog 22 #[.agg #[.slice p1 n1 c1, .slice p2 n2 c2], .agg #[.string s.k, .string s.t, .string s.f, .string s.o, .int .i64 s.n, .string s.b]] w fun e w' => RoIs w.heap.size ⟨xs, ys, [], fltM s unavS, 0⟩ e w' ∧ Below w.heap.size w w' := by
  have hR1 := row_own9 hO1
  have hR2 := row_ownM hO2
  have HR := Lib.hid (rqb_start w p1 n1 c1 p2 n2 c2 s)
  have HP1 := Lib.hid (fun W (h : Below w.heap.size w W) => hR1.on h)
  have HP2 := Lib.hid (fun W (h : Below w.heap.size w W) => hR2.on h)
  have HO1 := Lib.hid (fun W (h : Below w.heap.size w W) => hO1.on h)
  have HO2 := Lib.hid (fun W (h : Below w.heap.size w W) => hO2.on h)
  have HX := Lib.hid hx
  have HY := Lib.hid hy
  have hmb : mbB xs ys = true := by unfold routB at hyes; simp only [Bool.and_eq_true] at hyes; exact hyes.1.1.1
  obtain ⟨hok, hn5, _⟩ := mb_parts hmb
  have i1 := fun W h1 h2 => spec_beginT kIq xs ys p1 p2 n1 n2 c1 c2 s W hx hy hn1 hn2 hw hw2 hs B0 h1 h2 hyes
  unfold kIq at i1
  obtain ⟨r, hr⟩ : ∃ r, resA s.o = r := ⟨_, rfl⟩
  rw [hr] at i1 hon hr0
  have hr1 : r.toList ≠ [] := by simpa using hr0
  have hr2 : r.toList.isEmpty = false := by simpa using hr1
  have hI := (okB_iff.1 hok).2.1
  have h5 := (okB_iff.1 hok).1
  have i2 := fun W hR => spec_at9 xs r p1 c1 W (by omega) hI hR
  rw [hx] at i2
  rw [show whereI r xs = -1 by unfold whereI; rw [hon]; rfl] at i2
  have i4 := fun W => spec_fault s.k s.t s.f s.o s.n s.b unavS W (by have := hs.2.1; unfold maxLen; omega) (by have := hs.2.2.1; omega) (by have := hs.2.2.2.1; omega) (by have := hs.2.2.2.2; unfold maxLen; omega) (by rw [show unavS.size = _ from rfl]; first | done | (unfold maxLen; decide))
  simp only [fltV_M] at i4
  obtain ⟨Y, hY⟩ : ∃ Y, fltM s unavS = Y := ⟨_, rfl⟩
  rw [hY] at i4
  unfold msV unavS at i4
  rw [hY]
  clear hx hy hw hw2 hR1 hR2 hO1 hO2 hyes hmb hok hn5 hr hs hI h5 hon hY
  go_enter Tryz.func22, Tryz.ntmps22
  go_wp2_with (first
    | (go_at_call 37; have _ := HR2; go_fit (i4 _); rintro e w5 ⟨rfl, hb⟩; have HR5 := Lib.hid (HR2.out.on hb); have HE5 := Lib.hid (arr9_on HE2.out hb); have HV5 := Lib.hid (And.intro (HV2.out.1.on hb) (HV2.out.2.on hb)); clear hb; obtain ⟨⟨m0, m1⟩, _⟩ := arr9_two HR5.out.1; obtain ⟨⟨s0, s1, s2, s3, s4, s5⟩, _⟩ := arr_six0 HR5.out.2.1; obtain ⟨⟨r0, r1, r2, r3, r4, r5, r6, r7, r8, r9⟩, u0, u1, u2, u3, u4, u5, u6, u7, u8, u9⟩ := ten_all HR5.out.2.2.1; have hzA := arr9_lt HR5.out.1; have hzB := arr9_lt HR5.out.2.1; have hzC := arr9_lt HR5.out.2.2.1; obtain ⟨⟨e0, e1, e2, e3, e4, e5, e6, e7, e8, e9⟩, f0, f1, f2, f3, f4, f5, f6, f7, f8, f9⟩ := ten_all HE5.out; have hzE := arr9_lt HE5.out)
    | (go_at_call 46; go_fit (i2 _ (HP1.out _ HR1a.out.2.2.2)); rintro e w2 ⟨rfl, hb⟩; have HR2 := Lib.hid (HR1a.out.on hb); have HE2 := Lib.hid (arr9_on HE1a.out hb); have HV2 := Lib.hid (And.intro (HV1a.out.1.on hb) (HV1a.out.2.on hb)); clear hb; obtain ⟨⟨m0, m1⟩, _⟩ := arr9_two HR2.out.1; obtain ⟨⟨s0, s1, s2, s3, s4, s5⟩, _⟩ := arr_six0 HR2.out.2.1; obtain ⟨⟨r0, r1, r2, r3, r4, r5, r6, r7, r8, r9⟩, u0, u1, u2, u3, u4, u5, u6, u7, u8, u9⟩ := ten_all HR2.out.2.2.1; have hzA := arr9_lt HR2.out.1; have hzB := arr9_lt HR2.out.2.1; have hzC := arr9_lt HR2.out.2.2.1; obtain ⟨⟨e0, e1, e2, e3, e4, e5, e6, e7, e8, e9⟩, f0, f1, f2, f3, f4, f5, f6, f7, f8, f9⟩ := ten_all HE2.out; have hzE := arr9_lt HE2.out)
    | (go_at_call 34; go_fit (i1 _ (HO1.out _ HR.out.2.2.2) (HO2.out _ HR.out.2.2.2)); rintro e w1 ⟨⟨q1, l1, q2, l2, rfl, v1, v2⟩, hb⟩; have HR1 := Lib.hid (HR.out.on hb); have HR1a := Lib.hid (HR1.out.on ((Below.refl _ _).alloc (Nat.le_refl _) (.cells #[.slice q1 n1 l1, .slice q2 n2 l2, .slice none 0 0, .string ⟨#[]⟩, .string ⟨#[]⟩, .string ⟨#[]⟩, .string ⟨#[]⟩, .int .i64 0, .string ⟨#[]⟩, .int .i64 0] 33))); have HE1a := Lib.hid (Arr.fresh w1 33 [.slice q1 n1 l1, .slice q2 n2 l2, .slice none 0 0, .string ⟨#[]⟩, .string ⟨#[]⟩, .string ⟨#[]⟩, .string ⟨#[]⟩, .int .i64 0, .string ⟨#[]⟩, .int .i64 0]); have HV1 := Lib.hid (And.intro (v1.mono HR.out.big) (v2.mono HR.out.big)); have HV1a := Lib.hid (And.intro (HV1.out.1.alloc (.cells #[.slice q1 n1 l1, .slice q2 n2 l2, .slice none 0 0, .string ⟨#[]⟩, .string ⟨#[]⟩, .string ⟨#[]⟩, .string ⟨#[]⟩, .int .i64 0, .string ⟨#[]⟩, .int .i64 0] 33)) (HV1.out.2.alloc (.cells #[.slice q1 n1 l1, .slice q2 n2 l2, .slice none 0 0, .string ⟨#[]⟩, .string ⟨#[]⟩, .string ⟨#[]⟩, .string ⟨#[]⟩, .int .i64 0, .string ⟨#[]⟩, .int .i64 0] 33))); clear hb v1 v2; obtain ⟨⟨m0, m1⟩, _⟩ := arr9_two HR1.out.1; obtain ⟨⟨s0, s1, s2, s3, s4, s5⟩, _⟩ := arr_six0 HR1.out.2.1; obtain ⟨⟨r0, r1, r2, r3, r4, r5, r6, r7, r8, r9⟩, u0, u1, u2, u3, u4, u5, u6, u7, u8, u9⟩ := ten_all HR1.out.2.2.1; have hzA := arr9_lt HR1.out.1; have hzB := arr9_lt HR1.out.2.1; have hzC := arr9_lt HR1.out.2.2.1))
  have hb3 : w.heap.size + 3 ≤ w1.heap.size := HR1.out.big
  have HR9 := Lib.hid (RqB.put6b HR5.out (b := w1.heap.size) hb3 (.string Y.k) (.string Y.t) (.string Y.f) (.string Y.o) (.int .i64 Y.n) (.string Y.b)); have HE9 := Lib.hid ((((((HE5.out.put 3 (.string Y.k)).put 4 (.string Y.t)).put 5 (.string Y.f)).put 6 (.string Y.o)).put 7 (.int .i64 Y.n)).put 8 (.string Y.b)); have HV9 := Lib.hid (And.intro (own_put6b HV5.out.1 (own_ne10 HV5.out.1 HE5.out (by decide)) (.string Y.k) (.string Y.t) (.string Y.f) (.string Y.o) (.int .i64 Y.n) (.string Y.b)) (own_put6b HV5.out.2 (own_ne10 HV5.out.2 HE5.out (by decide)) (.string Y.k) (.string Y.t) (.string Y.f) (.string Y.o) (.int .i64 Y.n) (.string Y.b)))
  have hA := arr_put10 HR9.out.2.2.1 (.slice q1 n1 l1) (.slice q2 n2 l2) (.slice none 0 0) (.string Y.k) (.string Y.t) (.string Y.f) (.string Y.o) (.int .i64 Y.n) (.string Y.b) (.int .i64 0)
  have hBw := below_put10 HR9.out.2.2.2 (show w.heap.size ≤ w.heap.size + 1 + 1 by omega) (.slice q1 n1 l1) (.slice q2 n2 l2) (.slice none 0 0) (.string Y.k) (.string Y.t) (.string Y.f) (.string Y.o) (.int .i64 Y.n) (.string Y.b) (.int .i64 0)
  exact bodyPost_ret (v := .agg #[.slice q1 n1 l1, .slice q2 n2 l2, .slice none 0 0, .string Y.k, .string Y.t, .string Y.f, .string Y.o, .int .i64 Y.n, .string Y.b, .int .i64 0]) (results_cell_row (P := Tryz.prog) Tryz.results22 _ _ (w.heap.size + 1 + 1) 33 _ (0, 0) _ rfl hA Tryz.underlying33 rfl (by kernel_rfl)) rfl ⟨⟨q1, l1, q2, l2, none, 0, by unfold roV; rw [HX.out, HY.out]; rfl, by rw [HX.out]; exact (own_put10 HV9.out.1 (by omega) (.slice q1 n1 l1) (.slice q2 n2 l2) (.slice none 0 0) (.string Y.k) (.string Y.t) (.string Y.f) (.string Y.o) (.int .i64 Y.n) (.string Y.b) (.int .i64 0)).mono (by omega), by rw [HY.out]; exact (own_put10 HV9.out.2 (by omega) (.slice q1 n1 l1) (.slice q2 n2 l2) (.slice none 0 0) (.string Y.k) (.string Y.t) (.string Y.f) (.string Y.o) (.int .i64 Y.n) (.string Y.b) (.int .i64 0)).mono (by omega), ownC_nil _ _ _ _ _⟩, hBw⟩
set_option maxRecDepth 100000 in
set_option maxHeartbeats 8000000 in
theorem spec_riqn1 (xs : List SeL) (ys : List MsL) (p1 p2 : Option Addr) (n1 n2 c1 c2 : Nat) (s : MsL) (w : World) (hx : xs.length = n1) (hy : ys.length = n2) (hn1 : n1 ≤ 1048576) (hn2 : n2 ≤ 1048576) (hw : SzS xs) (hw2 : SzM ys) (hs : s.le 1048576) (B0 : Nat) (hO1 : OwnC seC w B0 40 4 (.slice p1 n1 c1) xs) (hO2 : OwnC msC w B0 28 6 (.slice p2 n2 c2) ys) (hyes : routB kIq xs ys s = true) (hr0 : ((resA s.o).toList == []) = false) (hon : hereB (resA s.o) xs = false) (h2 : (s.t.toList == [103, 101, 116]) = false) (h3 : (s.t.toList == [115, 101, 116]) = false) :
    Calls Tryz.prog 22 #[.agg #[.slice p1 n1 c1, .slice p2 n2 c2], .agg #[.string s.k, .string s.t, .string s.f, .string s.o, .int .i64 s.n, .string s.b]] w fun e w' => RoIs w.heap.size ⟨xs, ys, [], zMs, 0⟩ e w' ∧ Below w.heap.size w w' := by
  have hR1 := row_own9 hO1
  have hR2 := row_ownM hO2
  have HR := Lib.hid (rqb_start w p1 n1 c1 p2 n2 c2 s)
  have HP1 := Lib.hid (fun W (h : Below w.heap.size w W) => hR1.on h)
  have HP2 := Lib.hid (fun W (h : Below w.heap.size w W) => hR2.on h)
  have HO1 := Lib.hid (fun W (h : Below w.heap.size w W) => hO1.on h)
  have HO2 := Lib.hid (fun W (h : Below w.heap.size w W) => hO2.on h)
  have HX := Lib.hid hx
  have HY := Lib.hid hy
  have hmb : mbB xs ys = true := by unfold routB at hyes; simp only [Bool.and_eq_true] at hyes; exact hyes.1.1.1
  obtain ⟨hok, hn5, _⟩ := mb_parts hmb
  have i1 := fun W h1 h2 => spec_beginT kIq xs ys p1 p2 n1 n2 c1 c2 s W hx hy hn1 hn2 hw hw2 hs B0 h1 h2 hyes
  unfold kIq at i1
  obtain ⟨r, hr⟩ : ∃ r, resA s.o = r := ⟨_, rfl⟩
  rw [hr] at i1 hon hr0
  have hr1 : r.toList ≠ [] := by simpa using hr0
  have hr2 : r.toList.isEmpty = false := by simpa using hr1
  have hI := (okB_iff.1 hok).2.1
  have h5 := (okB_iff.1 hok).1
  have i2 := fun W hR => spec_at9 xs r p1 c1 W (by omega) hI hR
  rw [hx] at i2
  rw [show whereI r xs = -1 by unfold whereI; rw [hon]; rfl] at i2
  clear hx hy hw hw2 hR1 hR2 hO1 hO2 hyes hmb hok hn5 hr hs hI h5 hon
  go_enter Tryz.func22, Tryz.ntmps22
  go_wp2_with (first
    | (go_at_call 46; go_fit (i2 _ (HP1.out _ HR1a.out.2.2.2)); rintro e w2 ⟨rfl, hb⟩; have HR2 := Lib.hid (HR1a.out.on hb); have HE2 := Lib.hid (arr9_on HE1a.out hb); have HV2 := Lib.hid (And.intro (HV1a.out.1.on hb) (HV1a.out.2.on hb)); clear hb; obtain ⟨⟨m0, m1⟩, _⟩ := arr9_two HR2.out.1; obtain ⟨⟨s0, s1, s2, s3, s4, s5⟩, _⟩ := arr_six0 HR2.out.2.1; obtain ⟨⟨r0, r1, r2, r3, r4, r5, r6, r7, r8, r9⟩, u0, u1, u2, u3, u4, u5, u6, u7, u8, u9⟩ := ten_all HR2.out.2.2.1; have hzA := arr9_lt HR2.out.1; have hzB := arr9_lt HR2.out.2.1; have hzC := arr9_lt HR2.out.2.2.1; obtain ⟨⟨e0, e1, e2, e3, e4, e5, e6, e7, e8, e9⟩, f0, f1, f2, f3, f4, f5, f6, f7, f8, f9⟩ := ten_all HE2.out; have hzE := arr9_lt HE2.out)
    | (go_at_call 34; go_fit (i1 _ (HO1.out _ HR.out.2.2.2) (HO2.out _ HR.out.2.2.2)); rintro e w1 ⟨⟨q1, l1, q2, l2, rfl, v1, v2⟩, hb⟩; have HR1 := Lib.hid (HR.out.on hb); have HR1a := Lib.hid (HR1.out.on ((Below.refl _ _).alloc (Nat.le_refl _) (.cells #[.slice q1 n1 l1, .slice q2 n2 l2, .slice none 0 0, .string ⟨#[]⟩, .string ⟨#[]⟩, .string ⟨#[]⟩, .string ⟨#[]⟩, .int .i64 0, .string ⟨#[]⟩, .int .i64 0] 33))); have HE1a := Lib.hid (Arr.fresh w1 33 [.slice q1 n1 l1, .slice q2 n2 l2, .slice none 0 0, .string ⟨#[]⟩, .string ⟨#[]⟩, .string ⟨#[]⟩, .string ⟨#[]⟩, .int .i64 0, .string ⟨#[]⟩, .int .i64 0]); have HV1 := Lib.hid (And.intro (v1.mono HR.out.big) (v2.mono HR.out.big)); have HV1a := Lib.hid (And.intro (HV1.out.1.alloc (.cells #[.slice q1 n1 l1, .slice q2 n2 l2, .slice none 0 0, .string ⟨#[]⟩, .string ⟨#[]⟩, .string ⟨#[]⟩, .string ⟨#[]⟩, .int .i64 0, .string ⟨#[]⟩, .int .i64 0] 33)) (HV1.out.2.alloc (.cells #[.slice q1 n1 l1, .slice q2 n2 l2, .slice none 0 0, .string ⟨#[]⟩, .string ⟨#[]⟩, .string ⟨#[]⟩, .string ⟨#[]⟩, .int .i64 0, .string ⟨#[]⟩, .int .i64 0] 33))); clear hb v1 v2; obtain ⟨⟨m0, m1⟩, _⟩ := arr9_two HR1.out.1; obtain ⟨⟨s0, s1, s2, s3, s4, s5⟩, _⟩ := arr_six0 HR1.out.2.1; obtain ⟨⟨r0, r1, r2, r3, r4, r5, r6, r7, r8, r9⟩, u0, u1, u2, u3, u4, u5, u6, u7, u8, u9⟩ := ten_all HR1.out.2.2.1; have hzA := arr9_lt HR1.out.1; have hzB := arr9_lt HR1.out.2.1; have hzC := arr9_lt HR1.out.2.2.1))
  have hb3 : w.heap.size + 3 ≤ w1.heap.size := HR1.out.big
  have hA := arr_put10 HR2.out.2.2.1 (.slice q1 n1 l1) (.slice q2 n2 l2) (.slice none 0 0) (.string ⟨#[]⟩) (.string ⟨#[]⟩) (.string ⟨#[]⟩) (.string ⟨#[]⟩) (.int .i64 0) (.string ⟨#[]⟩) (.int .i64 0)
  have hBw := below_put10 HR2.out.2.2.2 (show w.heap.size ≤ w.heap.size + 1 + 1 by omega) (.slice q1 n1 l1) (.slice q2 n2 l2) (.slice none 0 0) (.string ⟨#[]⟩) (.string ⟨#[]⟩) (.string ⟨#[]⟩) (.string ⟨#[]⟩) (.int .i64 0) (.string ⟨#[]⟩) (.int .i64 0)
  exact bodyPost_ret (v := .agg #[.slice q1 n1 l1, .slice q2 n2 l2, .slice none 0 0, .string ⟨#[]⟩, .string ⟨#[]⟩, .string ⟨#[]⟩, .string ⟨#[]⟩, .int .i64 0, .string ⟨#[]⟩, .int .i64 0]) (results_cell_row (P := Tryz.prog) Tryz.results22 _ _ (w.heap.size + 1 + 1) 33 _ (0, 0) _ rfl hA Tryz.underlying33 rfl (by kernel_rfl)) rfl ⟨⟨q1, l1, q2, l2, none, 0, by unfold roV; rw [HX.out, HY.out]; rfl, by rw [HX.out]; exact (own_put10 HV2.out.1 (by omega) (.slice q1 n1 l1) (.slice q2 n2 l2) (.slice none 0 0) (.string ⟨#[]⟩) (.string ⟨#[]⟩) (.string ⟨#[]⟩) (.string ⟨#[]⟩) (.int .i64 0) (.string ⟨#[]⟩) (.int .i64 0)).mono (by omega), by rw [HY.out]; exact (own_put10 HV2.out.2 (by omega) (.slice q1 n1 l1) (.slice q2 n2 l2) (.slice none 0 0) (.string ⟨#[]⟩) (.string ⟨#[]⟩) (.string ⟨#[]⟩) (.string ⟨#[]⟩) (.int .i64 0) (.string ⟨#[]⟩) (.int .i64 0)).mono (by omega), ownC_nil _ _ _ _ _⟩, hBw⟩
theorem wt1 {T : RtL} {xs : List SeL} {ys : List MsL} {s : MsL} {L : List ByteArray} (h : T.to (resA s.o) xs = L) (h2 : L.length ≠ 0) : withT T xs ys s = ⟨xs, ys, L, zMs, 0⟩ := by
  unfold withT
  rw [h, if_pos h2]
theorem wt2 {T : RtL} {xs : List SeL} {ys : List MsL} {s : MsL} {y : MsL} (h : T.to (resA s.o) xs = []) (h2 : T.rest ys s = y) (h3 : y ≠ s) : withT T xs ys s = ⟨xs, ys, [], y, 0⟩ := by
  unfold withT
  rw [h, h2, if_neg (by simp), if_neg h3]
theorem ne_z {k : ByteArray} {xs : List SeL} {ys : List MsL} {s : MsL} (hk : k.toList ≠ []) (h : routB k xs ys s = true) : zMs ≠ s := by
  intro e
  have := cmp_z hk h
  rw [e] at this
  simp at this
theorem ne_flt {k : ByteArray} {xs : List SeL} {ys : List MsL} {s : MsL} (nm : ByteArray) (hk : k.toList ≠ []) (h : routB k xs ys s = true) : fltM s nm ≠ s := by
  intro e
  rcases cmp_flt (nm := nm) hk h with h1 | ⟨_, h1⟩
  · rw [e] at h1
    simp at h1
  · rw [e] at h1
    simp at h1
theorem r_size {r : ByteArray} (h : (r.toList == []) = true) : r.size = 0 := by
  have h1 : r.toList = [] := by simpa using h
  rw [ByteArray.toList_eq] at h1
  rw [← size_data, h1]
  rfl
theorem r_full {r : ByteArray} {xs : List SeL} (hok : okB xs = true) (h : hereB r xs = true) : (r.toList == []) = false := by
  cases hr : (r.toList == [])
  · rfl
  · rw [here_empty hok (r_size hr)] at h
    cases h
theorem spec_riq (xs : List SeL) (ys : List MsL) (p1 p2 : Option Addr) (n1 n2 c1 c2 : Nat) (s : MsL) (w : World) (hx : xs.length = n1) (hy : ys.length = n2) (hn1 : n1 ≤ 1048576) (hn2 : n2 ≤ 1048576) (hw : SzS xs) (hw2 : SzM ys) (hs : s.le 1048576) (B0 : Nat) (hO1 : OwnC seC w B0 40 4 (.slice p1 n1 c1) xs) (hO2 : OwnC msC w B0 28 6 (.slice p2 n2 c2) ys) :
    Calls Tryz.prog 22 #[.agg #[.slice p1 n1 c1, .slice p2 n2 c2], .agg #[.string s.k, .string s.t, .string s.f, .string s.o, .int .i64 s.n, .string s.b]] w fun e w' => RoIs w.heap.size (iqR xs ys s) e w' ∧ Below w.heap.size w w' := by
  unfold iqR routeR
  cases hyes : routB kIq xs ys s
  · rw [if_neg (by decide)]
    exact spec_riqF xs ys p1 p2 n1 n2 c1 c2 s w hx hy hn1 hn2 hw hw2 hs B0 hO1 hO2 hyes
  rw [if_pos rfl]
  have hmb : mbB xs ys = true := by unfold routB at hyes; simp only [Bool.and_eq_true] at hyes; exact hyes.1.1.1
  obtain ⟨hok, hn5, _⟩ := mb_parts hmb
  have hI := (okB_iff.1 hok).2.1
  have hz := ne_z iq_ne hyes
  unfold iqT
  rw [get_list, set_list]
  cases hon : hereB (resA s.o) xs
  rotate_left
  · have e := spec_riqO xs ys p1 p2 n1 n2 c1 c2 s w hx hy hn1 hn2 hw hw2 hs B0 hO1 hO2 hyes hon (r_full hok hon)
    have hbd : boundL (resA s.o) xs = [resA s.o] := by rw [bound_eq hI, hon]; rfl
    split
    · rw [wt1 (T := askT) hbd (by simp)]
      exact e
    · rw [wt1 (T := tellT) hbd (by simp)]
      exact e
  have hbd : boundL (resA s.o) xs = [] := by rw [bound_eq hI, hon]; rfl
  cases h2 : (s.t.toList == [103, 101, 116])
  rotate_left
  · rw [Bool.true_or, if_pos rfl, wt2 (T := askT) hbd rfl (ne_flt unavS iq_ne hyes)]
    exact (by
      cases hr : ((resA s.o).toList == [])
      · exact spec_riqg1 xs ys p1 p2 n1 n2 c1 c2 s w hx hy hn1 hn2 hw hw2 hs B0 hO1 hO2 hyes  hr hon h2
      · exact spec_riqg0 xs ys p1 p2 n1 n2 c1 c2 s w hx hy hn1 hn2 hw hw2 hs B0 hO1 hO2 hyes  (r_size hr) h2)
  cases h3 : (s.t.toList == [115, 101, 116])
  · rw [if_neg (by decide), wt2 (T := tellT) hbd rfl hz]
    exact (by
      cases hr : ((resA s.o).toList == [])
      · exact spec_riqn1 xs ys p1 p2 n1 n2 c1 c2 s w hx hy hn1 hn2 hw hw2 hs B0 hO1 hO2 hyes  hr hon h2 h3
      · exact spec_riqn0 xs ys p1 p2 n1 n2 c1 c2 s w hx hy hn1 hn2 hw hw2 hs B0 hO1 hO2 hyes  (r_size hr) h2 h3)
  · rw [Bool.false_or, if_pos rfl, wt2 (T := askT) hbd rfl (ne_flt unavS iq_ne hyes)]
    exact (by
      cases hr : ((resA s.o).toList == [])
      · exact spec_riqs1 xs ys p1 p2 n1 n2 c1 c2 s w hx hy hn1 hn2 hw hw2 hs B0 hO1 hO2 hyes  hr hon h2 h3
      · exact spec_riqs0 xs ys p1 p2 n1 n2 c1 c2 s w hx hy hn1 hn2 hw hw2 hs B0 hO1 hO2 hyes  (r_size hr) h2 h3)
end Go.Proofs.YtafdjjdmcnlddaaGreat

namespace Go.Proofs.YtafdjjdmcnlddaaGreat
set_option linter.unusedSimpArgs false
set_option linter.unusedVariables false
open Go.RowKit Go.Joins

def askB (s : MsL) : Bool := (s.t.toList == [103, 101, 116]) || (s.t.toList == [115, 101, 116])
theorem name_err : nameB errS = true := nameB_true ⟨by decide, by decide, fun k h => by
  have h5 : k < 5 := h
  have e : k = 0 ∨ k = 1 ∨ k = 2 ∨ k = 3 ∨ k = 4 := by omega
  rcases e with rfl | rfl | rfl | rfl | rfl
  · exact (show (if (0 : Nat) = 0 then letN 101 else moreN 101) by decide)
  · exact (show (if (1 : Nat) = 0 then letN 114 else moreN 114) by decide)
  · exact (show (if (2 : Nat) = 0 then letN 114 else moreN 114) by decide)
  · exact (show (if (3 : Nat) = 0 then letN 111 else moreN 111) by decide)
  · exact (show (if (4 : Nat) = 0 then letN 114 else moreN 114) by decide)⟩
theorem name_unav : nameB unavS = true := nameB_true ⟨by decide, by decide, fun k h => by
  have h5 : k < 11 := h
  have e : k = 0 ∨ k = 1 ∨ k = 2 ∨ k = 3 ∨ k = 4 ∨ k = 5 ∨ k = 6 ∨ k = 7 ∨ k = 8 ∨ k = 9 ∨ k = 10 := by omega
  rcases e with rfl | rfl | rfl | rfl | rfl | rfl | rfl | rfl | rfl | rfl | rfl
  · exact (show (if (0 : Nat) = 0 then letN 117 else moreN 117) by decide)
  · exact (show (if (1 : Nat) = 0 then letN 110 else moreN 110) by decide)
  · exact (show (if (2 : Nat) = 0 then letN 97 else moreN 97) by decide)
  · exact (show (if (3 : Nat) = 0 then letN 118 else moreN 118) by decide)
  · exact (show (if (4 : Nat) = 0 then letN 97 else moreN 97) by decide)
  · exact (show (if (5 : Nat) = 0 then letN 105 else moreN 105) by decide)
  · exact (show (if (6 : Nat) = 0 then letN 108 else moreN 108) by decide)
  · exact (show (if (7 : Nat) = 0 then letN 97 else moreN 97) by decide)
  · exact (show (if (8 : Nat) = 0 then letN 98 else moreN 98) by decide)
  · exact (show (if (9 : Nat) = 0 then letN 108 else moreN 108) by decide)
  · exact (show (if (10 : Nat) = 0 then letN 101 else moreN 101) by decide)⟩
theorem flt_ask {k : ByteArray} {xs : List SeL} {ys : List MsL} {s : MsL} (h : routB k xs ys s = true) (ha : (s.t.toList == errS.toList) = false) : fltM s unavS = ⟨s.k, errS, s.o, s.f, s.n, unavS⟩ := by
  unfold routB at h
  simp only [Bool.and_eq_true] at h
  have h1 : msB s = true := h.1.1.2
  have h2 := h1
  unfold msB stB at h2
  simp only [Bool.and_eq_true] at h2
  obtain ⟨⟨⟨⟨⟨a1, a2⟩, a3⟩, a4⟩, a5⟩, a6⟩ := h2
  unfold fltM
  rw [ha, name_unav, if_neg (by decide)]
  unfold repM
  rw [h1]
  have h3 : stB s.k errS s.o s.f s.n unavS = true := by
    unfold stB
    rw [a1, a3, a4, a5, name_err]
    decide
  rw [h3]
  rfl
theorem ask_err {s : MsL} (h : askB s = true) : (s.t.toList == errS.toList) = false := by
  unfold askB at h
  rw [err_list]
  rcases Bool.or_eq_true _ _ ▸ h with h | h
  · rw [eq_of_beq h]; rfl
  · rw [eq_of_beq h]; rfl
theorem iq_three {xs : List SeL} {ys : List MsL} {s : MsL} (h : (iqR xs ys s).c = 0) :
    (iqR xs ys s).l = xs ∧ (iqR xs ys s).ks = ys ∧ s.k = kIq ∧ (((iqR xs ys s).to.length = 1 ∧ (iqR xs ys s).bk = zMs) ∨ ((iqR xs ys s).to.length = 0 ∧ askB s = true ∧ (iqR xs ys s).bk = ⟨s.k, errS, s.o, s.f, s.n, unavS⟩) ∨ ((iqR xs ys s).to.length = 0 ∧ askB s = false ∧ (iqR xs ys s).bk = zMs)) := by
  unfold iqR routeR at h ⊢
  cases hyes : routB kIq xs ys s
  · rw [hyes, if_neg (by decide)] at h
    exact absurd h (by decide)
  rw [if_pos rfl]
  have hmb : mbB xs ys = true := by unfold routB at hyes; simp only [Bool.and_eq_true] at hyes; exact hyes.1.1.1
  have hsk : s.k = kIq := by
    unfold routB at hyes
    simp only [Bool.and_eq_true] at hyes
    exact ba_eq (eq_of_beq hyes.1.2)
  obtain ⟨hok, hn5, _⟩ := mb_parts hmb
  have hI := (okB_iff.1 hok).2.1
  have hz := ne_z iq_ne hyes
  have e : iqT s.t = if askB s = true then askT else tellT := by unfold iqT askB; rw [get_list, set_list]
  rw [e]
  cases hon : hereB (resA s.o) xs
  rotate_left
  · have hbd : boundL (resA s.o) xs = [resA s.o] := by rw [bound_eq hI, hon]; rfl
    split
    · rw [wt1 (T := askT) hbd (by simp)]
      exact ⟨rfl, rfl, hsk, .inl ⟨rfl, rfl⟩⟩
    · rw [wt1 (T := tellT) hbd (by simp)]
      exact ⟨rfl, rfl, hsk, .inl ⟨rfl, rfl⟩⟩
  have hbd : boundL (resA s.o) xs = [] := by rw [bound_eq hI, hon]; rfl
  cases ha : askB s
  · rw [if_neg (by decide), wt2 (T := tellT) hbd rfl hz]
    exact ⟨rfl, rfl, hsk, .inr (.inr ⟨rfl, rfl, rfl⟩)⟩
  · rw [if_pos rfl, wt2 (T := askT) hbd rfl (ne_flt unavS iq_ne hyes)]
    exact ⟨rfl, rfl, hsk, .inr (.inl ⟨rfl, rfl, flt_ask hyes (ask_err ha)⟩)⟩
end Go.Proofs.YtafdjjdmcnlddaaGreat

namespace Go.Proofs.YtafdjjdmcnlddaaGreat
set_option linter.unusedSimpArgs false
set_option linter.unusedVariables false
open Go.RowKit Go.Joins

theorem two10 {w w1 : World} {cs ds : List Value} {t : Nat} (h : Below ((w.alloc (.cells cs.toArray t)).alloc (.cells ds.toArray t)).heap.size ((w.alloc (.cells cs.toArray t)).alloc (.cells ds.toArray t)) w1) :
    Arr w1 w.heap.size t cs ∧ Arr w1 (w.heap.size + 1) t ds ∧ Below w.heap.size w w1 := by
  have h2 := Arr.fresh (w.alloc (.cells cs.toArray t)) t ds
  rw [World.size_alloc] at h2
  exact ⟨arr9_on (arr9_on (Arr.fresh w t cs) ((Below.refl _ _).alloc (Nat.le_refl _) _)) h, arr9_on h2 h, ((((Below.refl _ _).alloc (Nat.le_refl _) _).alloc (by simp) _)).trans (h.mono (by simp; omega))⟩
set_option maxRecDepth 100000 in
set_option maxHeartbeats 2000000 in
theorem lw_mbox (xs : List SeL) (ys : List MsL) (n m : Nat) (hx : xs.length = n) (hy : ys.length = m) (p1 p2 q1 q2 : Option Addr) (k1 k2 l1 l2 : Nat) (w : World) (hn : n ≤ 1000000) (hm : m ≤ 1000000) (a1 : RowC seC 4 w p1 xs) (b1 : RowC seC 4 w q1 xs) (a2 : RowC msC 6 w p2 ys) (b2 : RowC msC 6 w q2 ys) :
    Calls Tryz.prog 28 #[.agg #[.slice p1 n k1, .slice p2 m k2], .agg #[.slice q1 n l1, .slice q2 m l2]] w fun e w' => e = .returned (.bool true) ∧ Below w.heap.size w w' := by
  have i1 := fun W hp hq => lw_sess xs p1 q1 k1 l1 W (by omega) hp hq
  have i2 := fun W hp hq => lw_ms ys p2 q2 k2 l2 W (by omega) hp hq
  rw [hx] at i1
  rw [hy] at i2
  have HT := Lib.hid (((Below.refl w.heap.size w).alloc (Nat.le_refl _) (.cells #[.slice p1 n k1, .slice p2 m k2] 26)).alloc (by simp) (.cells #[.slice q1 n l1, .slice q2 m l2] 26))
  have HA := Lib.hid a1
  have HB := Lib.hid b1
  have HK := Lib.hid (fun w1 h => two10 (w := w) (w1 := w1) (cs := [.slice p1 n k1, .slice p2 m k2]) (ds := [.slice q1 n l1, .slice q2 m l2]) (t := 26) h)
  have HA2 := Lib.hid (fun W (h : Below w.heap.size w W) => a2.on h)
  have HB2 := Lib.hid (fun W (h : Below w.heap.size w W) => b2.on h)
  clear a1 b1 a2 b2 hx hy
  go_enter Tryz.func28, Tryz.ntmps28
  go_wp2_with (first
    | (go_at_call 14; have _ := HB1; go_fit (i2 _ (HA2.out _ HB1.out) (HB2.out _ HB1.out)); rintro e w2 ⟨rfl, hb2⟩; have HB3 := Lib.hid (HB1.out.trans (hb2.mono HB1.out.size)); clear hb2)
    | (go_at_call 13; go_fit (i1 _ (HA.out.on HT.out) (HB.out.on HT.out)); rintro e w1 ⟨rfl, hb1⟩; obtain ⟨hA, hB, hb⟩ := HK.out _ hb1; have HB1 := Lib.hid hb; obtain ⟨⟨c0, c1⟩, _⟩ := arr9_two hA; obtain ⟨⟨d0, d1⟩, _⟩ := arr9_two hB; clear hA hB hb1 hb))
  go_ret
  exact ⟨rfl, HB3.out⟩
set_option maxRecDepth 100000 in
set_option maxHeartbeats 4000000 in
theorem lw_route (R : RoL) (n m o : Nat) (hx : R.l.length = n) (hy : R.ks.length = m) (hz : R.to.length = o) (p1 p2 p3 q1 q2 q3 : Option Addr) (k1 k2 k3 l1 l2 l3 : Nat) (w : World) (hn : n ≤ 1000000) (hm : m ≤ 1000000) (ho : o ≤ 1000000) (a1 : RowC seC 4 w p1 R.l) (b1 : RowC seC 4 w q1 R.l) (a2 : RowC msC 6 w p2 R.ks) (b2 : RowC msC 6 w q2 R.ks) (a3 : RowC strC 1 w p3 R.to) (b3 : RowC strC 1 w q3 R.to) :
    Calls Tryz.prog 9 #[.agg #[.slice p1 n k1, .slice p2 m k2, .slice p3 o k3, .string R.bk.k, .string R.bk.t, .string R.bk.f, .string R.bk.o, .int .i64 R.bk.n, .string R.bk.b, .int .i64 R.c], .agg #[.slice q1 n l1, .slice q2 m l2, .slice q3 o l3, .string R.bk.k, .string R.bk.t, .string R.bk.f, .string R.bk.o, .int .i64 R.bk.n, .string R.bk.b, .int .i64 R.c]] w fun e w' => e = .returned (.bool true) ∧ Below w.heap.size w w' := by
  have i1 := fun W hp hq => lw_texts R.to p3 q3 k3 l3 W (by omega) hp hq
  have i2 := fun W h1 h2 h3 h4 => lw_mbox R.l R.ks n m hx hy p1 p2 q1 q2 k1 k2 l1 l2 W hn hm h1 h2 h3 h4
  rw [hz] at i1
  obtain ⟨S, hS⟩ : ∃ S, R.bk = S := ⟨_, rfl⟩
  obtain ⟨c, hc⟩ : ∃ c, R.c = c := ⟨_, rfl⟩
  rw [hS, hc]
  have HT := Lib.hid (((Below.refl w.heap.size w).alloc (Nat.le_refl _) (.cells #[.slice p1 n k1, .slice p2 m k2, .slice p3 o k3, .string S.k, .string S.t, .string S.f, .string S.o, .int .i64 S.n, .string S.b, .int .i64 c] 33)).alloc (by simp) (.cells #[.slice q1 n l1, .slice q2 m l2, .slice q3 o l3, .string S.k, .string S.t, .string S.f, .string S.o, .int .i64 S.n, .string S.b, .int .i64 c] 33))
  have HA := Lib.hid a3
  have HB := Lib.hid b3
  have HK := Lib.hid (fun w1 h => two10 (w := w) (w1 := w1) (cs := [.slice p1 n k1, .slice p2 m k2, .slice p3 o k3, .string S.k, .string S.t, .string S.f, .string S.o, .int .i64 S.n, .string S.b, .int .i64 c]) (ds := [.slice q1 n l1, .slice q2 m l2, .slice q3 o l3, .string S.k, .string S.t, .string S.f, .string S.o, .int .i64 S.n, .string S.b, .int .i64 c]) (t := 33) h)
  have HA1 := Lib.hid (fun W (h : Below w.heap.size w W) => a1.on h)
  have HB1 := Lib.hid (fun W (h : Below w.heap.size w W) => b1.on h)
  have HA2 := Lib.hid (fun W (h : Below w.heap.size w W) => a2.on h)
  have HB2 := Lib.hid (fun W (h : Below w.heap.size w W) => b2.on h)
  clear a1 b1 a2 b2 a3 b3 hx hy hz hS hc
  go_enter Tryz.func9, Tryz.ntmps9
  go_wp2_with (first
    | (go_at_call 28; have _ := HC1; go_fit (i2 _ (HA1.out _ HC1.out) (HB1.out _ HC1.out) (HA2.out _ HC1.out) (HB2.out _ HC1.out)); rintro e w2 ⟨rfl, hb2⟩; have HC3 := Lib.hid (HC1.out.trans (hb2.mono HC1.out.size)); clear hb2)
    | (go_at_call 18; go_fit (i1 _ (HA.out.on HT.out) (HB.out.on HT.out)); rintro e w1 ⟨rfl, hb1⟩; obtain ⟨hA, hB, hb⟩ := HK.out _ hb1; have HC1 := Lib.hid hb; obtain ⟨⟨c0, c1, c2, c3, c4, c5, c6, c7, c8, c9⟩, _⟩ := ten_all hA; obtain ⟨⟨d0, d1, d2, d3, d4, d5, d6, d7, d8, d9⟩, _⟩ := ten_all hB; clear hA hB hb1 hb))
  go_ret
  exact ⟨rfl, HC3.out⟩
end Go.Proofs.YtafdjjdmcnlddaaGreat

namespace Go.Proofs.YtafdjjdmcnlddaaGreat
set_option linter.unusedSimpArgs false
set_option linter.unusedVariables false
open Go.RowKit Go.Joins

theorem sel_le (f : SeL → Bool) (xs : List SeL) : (selL f xs).length ≤ xs.length := by
  unfold selL
  rw [List.length_map]
  exact List.length_filter_le _ _
theorem iq_len (xs : List SeL) (ys : List MsL) (s : MsL) : (iqR xs ys s).l.length ≤ xs.length ∧ (iqR xs ys s).ks.length ≤ ys.length + 1 ∧ (iqR xs ys s).to.length ≤ xs.length := by
  unfold iqR routeR
  split
  · unfold withT
    split
    · refine ⟨Nat.le_refl _, Nat.le_succ _, ?_⟩
      show ((iqT s.t).to (resA s.o) xs).length ≤ _
      unfold iqT
      split <;> exact sel_le _ _
    · split
      · exact ⟨Nat.le_refl _, by show (ys ++ [s]).length ≤ _; rw [List.length_append]; exact Nat.le_refl _, Nat.zero_le _⟩
      · exact ⟨Nat.le_refl _, Nat.le_succ _, Nat.zero_le _⟩
  · exact ⟨Nat.zero_le _, Nat.zero_le _, Nat.zero_le _⟩
set_option maxRecDepth 100000 in
set_option maxHeartbeats 8000000 in
theorem iqF_law (w : World) (a0 : Option Addr) (len0 cap0 : Nat) (w0 : SrcRow w w.heap.size a0 len0) (h0 : len0 ≤ 1048576) (hm : MaxL w) :
    Calls Tryz.prog 5 #[.slice a0 len0 cap0] w fun e w' => e = .returned (.bool true) ∧ Below w.heap.size w w' := by
  have HM := Lib.hid (fun W (h : Below w.heap.size w W) => hm.below h hm.pos)
  have R0 := Lib.hid w0
  clear w0 hm
  go_enter Tryz.func5, Tryz.ntmps5
  go_wp2_with fail
  refine (draw_riq a0 len0 cap0 _ h0 R0.out).mono ?_
  rintro e v1 ⟨⟨xs, p, k, ys, q, l, s, rfl, hx, hy, hxw, hyl, hyw, hs⟩, hb1⟩
  have hz1 : SzS xs := fun x hx => by have := hxw.2 x hx; omega
  have hz2 : SzM ys := hyw.sz
  have hz3 : s.le 1048576 := hs.sz s (List.mem_singleton.2 rfl)
  have i1 := fun W h1 h2 hm => impl_riq xs ys p q xs.length ys.length k l s W rfl rfl (by omega) (by omega) hz1 hz2 hz3 h1 h2 hm
  have i2 := fun B W h1 h2 => spec_riq xs ys p q xs.length ys.length k l s W rfl rfl (by omega) (by omega) hz1 hz2 hz3 B h1 h2
  have hle := iq_len xs ys s
  have HIQ : Hid ((iqR xs ys s).c = 0 → s.k = kIq ∧ (((iqR xs ys s).to.length = 1 ∧ (iqR xs ys s).bk = zMs) ∨ ((iqR xs ys s).to.length = 0 ∧ askB s = true ∧ (iqR xs ys s).bk = ⟨s.k, errS, s.o, s.f, s.n, unavS⟩) ∨ ((iqR xs ys s).to.length = 0 ∧ askB s = false ∧ (iqR xs ys s).bk = zMs))) := Lib.hid (fun h => (iq_three h).2.2)
  unfold RoIs roV at i1 i2
  obtain ⟨R, hR⟩ : ∃ R, iqR xs ys s = R := ⟨_, rfl⟩
  rw [hR] at i1 i2 hle HIQ
  obtain ⟨n, hxn⟩ : ∃ n, xs.length = n := ⟨_, rfl⟩
  obtain ⟨m, hym⟩ : ∃ m, ys.length = m := ⟨_, rfl⟩
  rw [hxn] at i1 i2 hx hle hxw ⊢
  rw [hym] at i1 i2 hy hle hyl ⊢
  have j1 := fun nl nk nt e1 e2 e3 p1 p2 p3 q1 q2 q3 k1 k2 k3 l1 l2 l3 W g1 g2 g3 g4 g5 g6 => lw_route R nl nk nt e1 e2 e3 p1 p2 p3 q1 q2 q3 k1 k2 k3 l1 l2 l3 W (by omega) (by omega) (by omega) g1 g2 g3 g4 g5 g6
  have j2 := fun p1 p2 p3 q1 q2 q3 k1 k2 k3 l1 l2 l3 W g1 g2 g3 g4 g5 g6 => lw_route R R.l.length R.ks.length R.to.length rfl rfl rfl p1 p2 p3 q1 q2 q3 k1 k2 k3 l1 l2 l3 W (by omega) (by omega) (by omega) g1 g2 g3 g4 g5 g6
  obtain ⟨nl, hnl⟩ : ∃ n, R.l.length = n := ⟨_, rfl⟩
  obtain ⟨nk, hnk⟩ : ∃ n, R.ks.length = n := ⟨_, rfl⟩
  obtain ⟨nt, hnt⟩ : ∃ n, R.to.length = n := ⟨_, rfl⟩
  obtain ⟨bk, hbk⟩ : ∃ b, R.bk = b := ⟨_, rfl⟩
  obtain ⟨c, hc⟩ : ∃ c, R.c = c := ⟨_, rfl⟩
  rw [hnl, hnk, hnt, hbk, hc] at i1 i2 j2
  rw [hnt, hbk, hc] at HIQ
  have hA := ((Below.refl v1.heap.size v1).alloc (Nat.le_refl _) (.cells #[.slice p n k, .slice q m l] 26)).alloc (by simp) (.cells #[.string s.k, .string s.t, .string s.f, .string s.o, .int .i64 s.n, .string s.b] 28)
  have hF1 : Arr ((v1.alloc (.cells #[.slice p n k, .slice q m l] 26)).alloc (.cells #[.string s.k, .string s.t, .string s.f, .string s.o, .int .i64 s.n, .string s.b] 28)) v1.heap.size 26 [.slice p n k, .slice q m l] := (Arr.fresh v1 _ _).alloc _
  have hF2 : Arr ((v1.alloc (.cells #[.slice p n k, .slice q m l] 26)).alloc (.cells #[.string s.k, .string s.t, .string s.f, .string s.o, .int .i64 s.n, .string s.b] 28)) (v1.heap.size + 1) 28 [.string s.k, .string s.t, .string s.f, .string s.o, .int .i64 s.n, .string s.b] := by
    have h := Arr.fresh (v1.alloc (.cells #[.slice p n k, .slice q m l] 26)) 28 [.string s.k, .string s.t, .string s.f, .string s.o, .int .i64 s.n, .string s.b]
    rw [World.size_alloc] at h
    exact h
  obtain ⟨v2, hv2⟩ : ∃ v, (v1.alloc (.cells #[.slice p n k, .slice q m l] 26)).alloc (.cells #[.string s.k, .string s.t, .string s.f, .string s.o, .int .i64 s.n, .string s.b] 28) = v := ⟨_, rfl⟩
  rw [hv2] at hA hF1 hF2
  obtain ⟨⟨c0, c1⟩, _⟩ := arr9_two hF1
  obtain ⟨⟨a0', a1', a2', a3', a4', a5'⟩, _⟩ := arr_six0 hF2
  have HW2 := Lib.hid (fun W (h : Below v2.heap.size v2 W) => (hb1.trans (hA.mono hb1.size)).trans (h.mono (Nat.le_trans hb1.size hA.size)))
  have HP2 := Lib.hid (fun W (h : Below v2.heap.size v2 W) => And.intro (hx.on (hA.trans (h.mono hA.size))) (And.intro (hy.on (hA.trans (h.mono hA.size))) (And.intro (arr9_on hF1 h) (arr9_on hF2 h))))
  clear hb1 hx hy hxw hyl hyw hs hz1 hz2 hz3 hle hA hF1 hF2 hR hxn hym j1 hnl hnk hnt hbk hc h0
  go_wp2_with fail
  clear hv2
  go_fit (i1 _ (row_own9 (HP2.out _ (Below.refl _ _)).1) (row_ownM (HP2.out _ (Below.refl _ _)).2.1) (HM.out _ (HW2.out _ (Below.refl _ _))))
  rintro e v3 ⟨⟨p1, k1, p2, k2, p3, k3, rfl, hq1, hq2, hq3⟩, hb⟩
  have hA := (Below.refl v3.heap.size v3).alloc (Nat.le_refl _) (.cells #[.slice p1 nl k1, .slice p2 nk k2, .slice p3 nt k3, .string bk.k, .string bk.t, .string bk.f, .string bk.o, .int .i64 bk.n, .string bk.b, .int .i64 c] 33)
  have hF3 : Arr (v3.alloc (.cells #[.slice p1 nl k1, .slice p2 nk k2, .slice p3 nt k3, .string bk.k, .string bk.t, .string bk.f, .string bk.o, .int .i64 bk.n, .string bk.b, .int .i64 c] 33)) v3.heap.size 33 [.slice p1 nl k1, .slice p2 nk k2, .slice p3 nt k3, .string bk.k, .string bk.t, .string bk.f, .string bk.o, .int .i64 bk.n, .string bk.b, .int .i64 c] := Arr.fresh v3 _ _
  go_wp2_with fail
  obtain ⟨b5, hb5⟩ : ∃ b, v3.heap.size = b := ⟨_, rfl⟩
  obtain ⟨vB, hvB⟩ : ∃ v, v3.alloc (.cells #[.slice p1 nl k1, .slice p2 nk k2, .slice p3 nt k3, .string bk.k, .string bk.t, .string bk.f, .string bk.o, .int .i64 bk.n, .string bk.b, .int .i64 c] 33) = v := ⟨_, rfl⟩
  rw [hvB] at hA hF3 ⊢
  rw [hb5] at hF3
  try rw [hb5]
  have HWB := Lib.hid (fun W (h : Below vB.heap.size vB W) => HW2.out W ((hb.trans (hA.mono hb.size)).trans (h.mono (Nat.le_trans hb.size hA.size))))
  have HPB := Lib.hid (fun W (h : Below vB.heap.size vB W) => And.intro (HP2.out W ((hb.trans (hA.mono hb.size)).trans (h.mono (Nat.le_trans hb.size hA.size)))) (And.intro (arr9_on hF3 h) (And.intro (hq1.on (hA.trans (h.mono hA.size))) (And.intro (hq2.on (hA.trans (h.mono hA.size))) (hq3.on (hA.trans (h.mono hA.size)))))))
  clear hb hA hF3 hq1 hq2 hq3 hvB hb5 HW2 HP2 i1 HM c0 c1 a0' a1' a2' a3' a4' a5'
  by_cases hc0 : c = 0
  · have q1 : (c != 0) = false := by rw [hc0]; rfl
    have HC0 := Lib.hid hc0
    clear hc0
    refine region_join [18, 19, 20, 21, 22, 23, 24, 25, 26, 27, 28] (fun vs W => vs 28 = .bool false ∧ Below vB.heap.size vB W) ?_ ?_
    · refine wp_region_held_drew (S := fun W => Below vB.heap.size vB W) (by kernel_rfl) (Below.refl _ _).drew (fun hHeld => ?_)
      have HS0 : Hid (Below vB.heap.size vB (World.drew vB)) := Lib.hid (Below.refl _ _).drew
      generalize World.drew _ = wd at HS0 hHeld ⊢
      refine takeQ (i := 0) (k := 18) (v := .agg #[.slice p1 nl k1, .slice p2 nk k2, .slice p3 nt k3, .string bk.k, .string bk.t, .string bk.f, .string bk.o, .int .i64 bk.n, .string bk.b, .int .i64 c]) rfl (by rfl) (by kernel_rfl) (by kernel_rfl) (by kernel_rfl) (fun _ _ _ h => h) (by rfl) ?_ hHeld ?_
      · intro w1 hSw; obtain ⟨⟨m0, m1, m2, m3, m4, m5, m6, m7, m8, m9⟩, _⟩ := ten_all (HPB.out _ hSw).2.1; go_simp
      (try simp only [Act.put, List.setIfInBounds_toArray, List.set_cons_zero, List.set_cons_succ])
      refine takeQ (i := 1) (k := 19) (v := .agg #[.slice p n k, .slice q m l]) rfl (by rfl) (by kernel_rfl) (by kernel_rfl) (by kernel_rfl) (fun _ _ _ h => h) (by rfl) ?_ hHeld ?_
      · intro w1 hSw; obtain ⟨⟨m0, m1⟩, _⟩ := arr9_two (HPB.out _ hSw).1.2.2.1; go_simp
      (try simp only [Act.put, List.setIfInBounds_toArray, List.set_cons_zero, List.set_cons_succ])
      refine takeQ (i := 2) (k := 20) (v := .agg #[.string s.k, .string s.t, .string s.f, .string s.o, .int .i64 s.n, .string s.b]) rfl (by rfl) (by kernel_rfl) (by kernel_rfl) (by kernel_rfl) (fun _ _ _ h => h) (by rfl) ?_ hHeld ?_
      · intro w1 hSw; obtain ⟨⟨m0, m1, m2, m3, m4, m5⟩, _⟩ := arr_six0 (HPB.out _ hSw).1.2.2.2; go_simp
      (try simp only [Act.put, List.setIfInBounds_toArray, List.set_cons_zero, List.set_cons_succ])
      refine wpAnyH_ready (rs := [3]) (by kernel_rfl) (by simp) ?_
      refine AllReadyH.cons rfl (fun K hK => ?_) AllReadyH.nil
      rw [if_pos (by rfl)]
      go_simp
      go_fit (i2 _ _ (HPB.out _ HS0.out).1.1 (HPB.out _ HS0.out).1.2.1)
      rintro e W1r18 ⟨⟨q1, l1, q2, l2, q3, l3, rfl, hv, hv2, hv3⟩, hb⟩
      have HS2r18 := Lib.hid (HS0.out.trans (hb.mono HS0.out.size))
      have RA3r18 := Lib.hid hv
      have RB4r18 := Lib.hid hv2
      have RC5r18 := Lib.hid hv3
      clear hb hv hv2 hv3
      refine hK.out _ _ HS2r18.out (fun hHeld => ?_)
      clear hK K
      (try simp only [Act.put, List.setIfInBounds_toArray, List.set_cons_zero, List.set_cons_succ])
      refine wpAnyH_ready (rs := [4]) (by kernel_rfl) (by simp) ?_
      refine AllReadyH.cons rfl (fun K hK => ?_) AllReadyH.nil
      rw [if_pos (by rfl)]
      go_simp
      go_fit (j2 p1 p2 p3 q1 q2 q3 k1 k2 k3 l1 l2 l3 _ (row_own9 (HPB.out _ HS2r18.out).2.2.1) (row_own9 RA3r18.out) (row_ownM (HPB.out _ HS2r18.out).2.2.2.1) (row_ownM RB4r18.out) (row_ownT (HPB.out _ HS2r18.out).2.2.2.2) (row_ownT RC5r18.out))
      rintro e W6r18 ⟨rfl, hb⟩
      have HS7r18 := Lib.hid (HS2r18.out.trans (hb.mono HS2r18.out.size))
      have RA8r18 := Lib.hid (RA3r18.out.on hb)
      have RB9r18 := Lib.hid (RB4r18.out.on hb)
      have RC10r18 := Lib.hid (RC5r18.out.on hb)
      clear hb
      refine hK.out _ _ HS7r18.out (fun hHeld => ?_)
      clear hK K
      (try simp only [Act.put, List.setIfInBounds_toArray, List.set_cons_zero, List.set_cons_succ])
      refine takeQ (i := 5) (k := 23) (v := .bool false) rfl (by rfl) (by kernel_rfl) (by kernel_rfl) (by kernel_rfl) (fun _ _ _ h => h) (by rfl) ?_ hHeld ?_
      · intro w1 hSw; go_simp
      (try simp only [Act.put, List.setIfInBounds_toArray, List.set_cons_zero, List.set_cons_succ])
      refine takeQ (i := 6) (k := 24) (v := .bool false) rfl (by rfl) (by kernel_rfl) (by kernel_rfl) (by kernel_rfl) (fun _ _ _ h => h) (by rfl) ?_ hHeld ?_
      · intro w1 hSw; go_simp
      (try simp only [Act.put, List.setIfInBounds_toArray, List.set_cons_zero, List.set_cons_succ])
      refine takeQ (i := 7) (k := 25) (v := .pointer (some ⟨b5, 9, none⟩)) rfl (by rfl) (by kernel_rfl) (by kernel_rfl) (by kernel_rfl) (fun _ _ _ h => h) (by rfl) ?_ hHeld ?_
      · intro w1 hSw; go_simp
      (try simp only [Act.put, List.setIfInBounds_toArray, List.set_cons_zero, List.set_cons_succ])
      refine takeQ (i := 8) (k := 26) (v := .int .i64 c) rfl (by rfl) (by kernel_rfl) (by kernel_rfl) (by kernel_rfl) (fun _ _ _ h => h) (by rfl) ?_ hHeld ?_
      · intro w1 hSw; obtain ⟨⟨m0, m1, m2, m3, m4, m5, m6, m7, m8, m9⟩, _⟩ := ten_all (HPB.out _ hSw).2.1; go_simp
      (try simp only [Act.put, List.setIfInBounds_toArray, List.set_cons_zero, List.set_cons_succ])
      refine takeQ (i := 9) (k := 27) (v := .bool false) rfl (by rfl) (by kernel_rfl) (by kernel_rfl) (by kernel_rfl) (fun _ _ _ h => h) (by rfl) ?_ hHeld ?_
      · intro w1 hSw; go_simp
      (try simp only [Act.put, List.setIfInBounds_toArray, List.set_cons_zero, List.set_cons_succ])
      refine takeQ (i := 10) (k := 28) (v := .bool false) rfl (by rfl) (by kernel_rfl) (by kernel_rfl) (by kernel_rfl) (fun _ _ _ h => h) (by rfl) ?_ hHeld ?_
      · intro w1 hSw; go_simp
      (try simp only [Act.put, List.setIfInBounds_toArray, List.set_cons_zero, List.set_cons_succ])
      refine wpAnyH_done (by kernel_rfl) ?_ _
      exact ⟨⟨rfl, HS7r18.out⟩, by simp only [putAll, Act.put, List.setIfInBounds_toArray, List.set_cons_zero, List.set_cons_succ]; rfl⟩
    · rintro vs v8 ⟨e28, hS⟩
      have HS8 := Lib.hid hS
      simp only [putAll, Act.put, List.setIfInBounds_toArray, List.set_cons_zero, List.set_cons_succ, e28]
      clear e28 hS i2 j2
      obtain ⟨hk, h3⟩ := HIQ.out HC0.out
      obtain ⟨⟨m0, m1, m2, m3, m4, m5, m6, m7, m8, m9⟩, _⟩ := ten_all (HPB.out _ HS8.out).2.1
      obtain ⟨⟨a0', a1', a2', a3', a4', a5'⟩, _⟩ := arr_six0 (HPB.out _ HS8.out).1.2.2.2
      have g0 : askB s = ((s.t.toList == [103, 101, 116]) || (s.t.toList == [115, 101, 116])) := rfl
      obtain ⟨g1, hg1⟩ : ∃ b, (s.t.toList == [103, 101, 116]) = b := ⟨_, rfl⟩
      obtain ⟨g2, hg2⟩ : ∃ b, (s.t.toList == [115, 101, 116]) = b := ⟨_, rfl⟩
      rw [hg1, hg2] at g0
      rcases h3 with ⟨hn1, hbz⟩ | ⟨hn0, hask, hbz⟩ | ⟨hn0, hask, hbz⟩
      · have e3 : bk.k = ⟨#[]⟩ := by rw [hbz]; rfl
        rw [e3] at m3
        subst hn1
        clear hbz e3 g0 hk HIQ HC0 q1
        cases g1 <;> cases g2 <;> (go_wp2_with fail; go_ret; exact ⟨rfl, HWB.out _ HS8.out⟩)
      · have e3 : bk.k = ⟨#[105, 113]⟩ := by rw [hbz]; exact hk
        have e4 : bk.t = ⟨#[101, 114, 114, 111, 114]⟩ := by rw [hbz]; rfl
        have e6 : bk.o = s.f := by rw [hbz]
        have e7 : bk.n = s.n := by rw [hbz]
        rw [e3] at m3
        rw [e4] at m4
        rw [e6] at m6
        rw [e7] at m7
        rw [hask] at g0
        subst hn0
        clear hbz e3 e4 e6 e7 hk HIQ HC0 q1 hask
        cases g1 <;> cases g2 <;> first | (exact absurd g0 (by decide)) | (clear g0; go_wp2_with fail; go_ret; exact ⟨rfl, HWB.out _ HS8.out⟩)
      · have e3 : bk.k = ⟨#[]⟩ := by rw [hbz]; rfl
        rw [e3] at m3
        rw [hask] at g0
        subst hn0
        clear hbz e3 hk HIQ HC0 q1 hask
        cases g1 <;> cases g2 <;> first | (exact absurd g0 (by decide)) | (clear g0; go_wp2_with fail; go_ret; exact ⟨rfl, HWB.out _ HS8.out⟩)
  · have q1 : (c != 0) = true := by simpa using hc0
    clear hc0 HIQ
    refine region_join [18, 19, 20, 21, 22, 23, 24, 25, 26, 27, 28] (fun vs W => vs 28 = .bool true ∧ Below vB.heap.size vB W) ?_ ?_
    · refine wp_region_held_drew (S := fun W => Below vB.heap.size vB W) (by kernel_rfl) (Below.refl _ _).drew (fun hHeld => ?_)
      have HS0 : Hid (Below vB.heap.size vB (World.drew vB)) := Lib.hid (Below.refl _ _).drew
      generalize World.drew _ = wd at HS0 hHeld ⊢
      refine takeQ (i := 0) (k := 18) (v := .agg #[.slice p1 nl k1, .slice p2 nk k2, .slice p3 nt k3, .string bk.k, .string bk.t, .string bk.f, .string bk.o, .int .i64 bk.n, .string bk.b, .int .i64 c]) rfl (by rfl) (by kernel_rfl) (by kernel_rfl) (by kernel_rfl) (fun _ _ _ h => h) (by rfl) ?_ hHeld ?_
      · intro w1 hSw; obtain ⟨⟨m0, m1, m2, m3, m4, m5, m6, m7, m8, m9⟩, _⟩ := ten_all (HPB.out _ hSw).2.1; go_simp
      (try simp only [Act.put, List.setIfInBounds_toArray, List.set_cons_zero, List.set_cons_succ])
      refine takeQ (i := 1) (k := 19) (v := .agg #[.slice p n k, .slice q m l]) rfl (by rfl) (by kernel_rfl) (by kernel_rfl) (by kernel_rfl) (fun _ _ _ h => h) (by rfl) ?_ hHeld ?_
      · intro w1 hSw; obtain ⟨⟨m0, m1⟩, _⟩ := arr9_two (HPB.out _ hSw).1.2.2.1; go_simp
      (try simp only [Act.put, List.setIfInBounds_toArray, List.set_cons_zero, List.set_cons_succ])
      refine takeQ (i := 2) (k := 20) (v := .agg #[.string s.k, .string s.t, .string s.f, .string s.o, .int .i64 s.n, .string s.b]) rfl (by rfl) (by kernel_rfl) (by kernel_rfl) (by kernel_rfl) (fun _ _ _ h => h) (by rfl) ?_ hHeld ?_
      · intro w1 hSw; obtain ⟨⟨m0, m1, m2, m3, m4, m5⟩, _⟩ := arr_six0 (HPB.out _ hSw).1.2.2.2; go_simp
      (try simp only [Act.put, List.setIfInBounds_toArray, List.set_cons_zero, List.set_cons_succ])
      refine wpAnyH_ready (rs := [3]) (by kernel_rfl) (by simp) ?_
      refine AllReadyH.cons rfl (fun K hK => ?_) AllReadyH.nil
      rw [if_pos (by rfl)]
      go_simp
      go_fit (i2 _ _ (HPB.out _ HS0.out).1.1 (HPB.out _ HS0.out).1.2.1)
      rintro e W1r18 ⟨⟨q1, l1, q2, l2, q3, l3, rfl, hv, hv2, hv3⟩, hb⟩
      have HS2r18 := Lib.hid (HS0.out.trans (hb.mono HS0.out.size))
      have RA3r18 := Lib.hid hv
      have RB4r18 := Lib.hid hv2
      have RC5r18 := Lib.hid hv3
      clear hb hv hv2 hv3
      refine hK.out _ _ HS2r18.out (fun hHeld => ?_)
      clear hK K
      (try simp only [Act.put, List.setIfInBounds_toArray, List.set_cons_zero, List.set_cons_succ])
      refine wpAnyH_ready (rs := [4]) (by kernel_rfl) (by simp) ?_
      refine AllReadyH.cons rfl (fun K hK => ?_) AllReadyH.nil
      rw [if_pos (by rfl)]
      go_simp
      go_fit (j2 p1 p2 p3 q1 q2 q3 k1 k2 k3 l1 l2 l3 _ (row_own9 (HPB.out _ HS2r18.out).2.2.1) (row_own9 RA3r18.out) (row_ownM (HPB.out _ HS2r18.out).2.2.2.1) (row_ownM RB4r18.out) (row_ownT (HPB.out _ HS2r18.out).2.2.2.2) (row_ownT RC5r18.out))
      rintro e W6r18 ⟨rfl, hb⟩
      have HS7r18 := Lib.hid (HS2r18.out.trans (hb.mono HS2r18.out.size))
      have RA8r18 := Lib.hid (RA3r18.out.on hb)
      have RB9r18 := Lib.hid (RB4r18.out.on hb)
      have RC10r18 := Lib.hid (RC5r18.out.on hb)
      clear hb
      refine hK.out _ _ HS7r18.out (fun hHeld => ?_)
      clear hK K
      (try simp only [Act.put, List.setIfInBounds_toArray, List.set_cons_zero, List.set_cons_succ])
      refine takeQ (i := 5) (k := 23) (v := .bool false) rfl (by rfl) (by kernel_rfl) (by kernel_rfl) (by kernel_rfl) (fun _ _ _ h => h) (by rfl) ?_ hHeld ?_
      · intro w1 hSw; go_simp
      (try simp only [Act.put, List.setIfInBounds_toArray, List.set_cons_zero, List.set_cons_succ])
      refine takeQ (i := 6) (k := 24) (v := .bool false) rfl (by rfl) (by kernel_rfl) (by kernel_rfl) (by kernel_rfl) (fun _ _ _ h => h) (by rfl) ?_ hHeld ?_
      · intro w1 hSw; go_simp
      (try simp only [Act.put, List.setIfInBounds_toArray, List.set_cons_zero, List.set_cons_succ])
      refine takeQ (i := 7) (k := 25) (v := .pointer (some ⟨b5, 9, none⟩)) rfl (by rfl) (by kernel_rfl) (by kernel_rfl) (by kernel_rfl) (fun _ _ _ h => h) (by rfl) ?_ hHeld ?_
      · intro w1 hSw; go_simp
      (try simp only [Act.put, List.setIfInBounds_toArray, List.set_cons_zero, List.set_cons_succ])
      refine takeQ (i := 8) (k := 26) (v := .int .i64 c) rfl (by rfl) (by kernel_rfl) (by kernel_rfl) (by kernel_rfl) (fun _ _ _ h => h) (by rfl) ?_ hHeld ?_
      · intro w1 hSw; obtain ⟨⟨m0, m1, m2, m3, m4, m5, m6, m7, m8, m9⟩, _⟩ := ten_all (HPB.out _ hSw).2.1; go_simp
      (try simp only [Act.put, List.setIfInBounds_toArray, List.set_cons_zero, List.set_cons_succ])
      refine takeQ (i := 9) (k := 27) (v := .bool true) rfl (by rfl) (by kernel_rfl) (by kernel_rfl) (by kernel_rfl) (fun _ _ _ h => h) (by rfl) ?_ hHeld ?_
      · intro w1 hSw; go_simp
      (try simp only [Act.put, List.setIfInBounds_toArray, List.set_cons_zero, List.set_cons_succ])
      refine takeQ (i := 10) (k := 28) (v := .bool true) rfl (by rfl) (by kernel_rfl) (by kernel_rfl) (by kernel_rfl) (fun _ _ _ h => h) (by rfl) ?_ hHeld ?_
      · intro w1 hSw; go_simp
      (try simp only [Act.put, List.setIfInBounds_toArray, List.set_cons_zero, List.set_cons_succ])
      refine wpAnyH_done (by kernel_rfl) ?_ _
      exact ⟨⟨rfl, HS7r18.out⟩, by simp only [putAll, Act.put, List.setIfInBounds_toArray, List.set_cons_zero, List.set_cons_succ]; rfl⟩
    · rintro vs v8 ⟨e28, hS⟩
      have HS8 := Lib.hid hS
      have HW8 := Lib.hid (fun W (h : Below v8.heap.size v8 W) => hS.trans (h.mono hS.size))
      simp only [putAll, Act.put, List.setIfInBounds_toArray, List.set_cons_zero, List.set_cons_succ, e28]
      clear e28 hS q1
      go_wp2_with fail
      refine region_join [29, 30, 31, 32, 33, 2] (fun vs W => vs 2 = .bool true ∧ Below vB.heap.size vB W) ?_ ?_
      · refine wp_region_held_drew (S := fun W => Below vB.heap.size vB W) (by kernel_rfl) (HW8.out _ (Below.refl _ _).drew) (fun hHeld => ?_)
        have HS0 : Hid (Below vB.heap.size vB (World.drew v8)) := Lib.hid (HW8.out _ (Below.refl _ _).drew)
        generalize World.drew _ = wd at HS0 hHeld ⊢
        refine takeQ (i := 0) (k := 29) (v := .agg #[.slice p1 nl k1, .slice p2 nk k2, .slice p3 nt k3, .string bk.k, .string bk.t, .string bk.f, .string bk.o, .int .i64 bk.n, .string bk.b, .int .i64 c]) rfl (by rfl) (by kernel_rfl) (by kernel_rfl) (by kernel_rfl) (fun _ _ _ h => h) (by rfl) ?_ hHeld ?_
        · intro w1 hSw; obtain ⟨⟨m0, m1, m2, m3, m4, m5, m6, m7, m8, m9⟩, _⟩ := ten_all (HPB.out _ hSw).2.1; go_simp
        (try simp only [Act.put, List.setIfInBounds_toArray, List.set_cons_zero, List.set_cons_succ])
        refine takeQ (i := 1) (k := 30) (v := .agg #[.slice p n k, .slice q m l]) rfl (by rfl) (by kernel_rfl) (by kernel_rfl) (by kernel_rfl) (fun _ _ _ h => h) (by rfl) ?_ hHeld ?_
        · intro w1 hSw; obtain ⟨⟨m0, m1⟩, _⟩ := arr9_two (HPB.out _ hSw).1.2.2.1; go_simp
        (try simp only [Act.put, List.setIfInBounds_toArray, List.set_cons_zero, List.set_cons_succ])
        refine takeQ (i := 2) (k := 31) (v := .agg #[.string s.k, .string s.t, .string s.f, .string s.o, .int .i64 s.n, .string s.b]) rfl (by rfl) (by kernel_rfl) (by kernel_rfl) (by kernel_rfl) (fun _ _ _ h => h) (by rfl) ?_ hHeld ?_
        · intro w1 hSw; obtain ⟨⟨m0, m1, m2, m3, m4, m5⟩, _⟩ := arr_six0 (HPB.out _ hSw).1.2.2.2; go_simp
        (try simp only [Act.put, List.setIfInBounds_toArray, List.set_cons_zero, List.set_cons_succ])
        refine wpAnyH_ready (rs := [3]) (by kernel_rfl) (by simp) ?_
        refine AllReadyH.cons rfl (fun K hK => ?_) AllReadyH.nil
        rw [if_pos (by rfl)]
        go_simp
        go_fit (i2 _ _ (HPB.out _ HS0.out).1.1 (HPB.out _ HS0.out).1.2.1)
        rintro e W1r29 ⟨⟨q1, l1, q2, l2, q3, l3, rfl, hv, hv2, hv3⟩, hb⟩
        have HS2r29 := Lib.hid (HS0.out.trans (hb.mono HS0.out.size))
        have RA3r29 := Lib.hid hv
        have RB4r29 := Lib.hid hv2
        have RC5r29 := Lib.hid hv3
        clear hb hv hv2 hv3
        refine hK.out _ _ HS2r29.out (fun hHeld => ?_)
        clear hK K
        (try simp only [Act.put, List.setIfInBounds_toArray, List.set_cons_zero, List.set_cons_succ])
        refine wpAnyH_ready (rs := [4]) (by kernel_rfl) (by simp) ?_
        refine AllReadyH.cons rfl (fun K hK => ?_) AllReadyH.nil
        rw [if_pos (by rfl)]
        go_simp
        go_fit (j2 p1 p2 p3 q1 q2 q3 k1 k2 k3 l1 l2 l3 _ (row_own9 (HPB.out _ HS2r29.out).2.2.1) (row_own9 RA3r29.out) (row_ownM (HPB.out _ HS2r29.out).2.2.2.1) (row_ownM RB4r29.out) (row_ownT (HPB.out _ HS2r29.out).2.2.2.2) (row_ownT RC5r29.out))
        rintro e W6r29 ⟨rfl, hb⟩
        have HS7r29 := Lib.hid (HS2r29.out.trans (hb.mono HS2r29.out.size))
        have RA8r29 := Lib.hid (RA3r29.out.on hb)
        have RB9r29 := Lib.hid (RB4r29.out.on hb)
        have RC10r29 := Lib.hid (RC5r29.out.on hb)
        clear hb
        refine hK.out _ _ HS7r29.out (fun hHeld => ?_)
        clear hK K
        (try simp only [Act.put, List.setIfInBounds_toArray, List.set_cons_zero, List.set_cons_succ])
        refine takeQ (i := 5) (k := 2) (v := .bool true) rfl (by rfl) (by kernel_rfl) (by kernel_rfl) (by kernel_rfl) (fun _ _ _ h => h) (by rfl) ?_ hHeld ?_
        · intro w1 hSw; go_simp
        (try simp only [Act.put, List.setIfInBounds_toArray, List.set_cons_zero, List.set_cons_succ])
        refine wpAnyH_done (by kernel_rfl) ?_ _
        exact ⟨⟨rfl, HS7r29.out⟩, by simp only [putAll, Act.put, List.setIfInBounds_toArray, List.set_cons_zero, List.set_cons_succ]; rfl⟩
      · rintro vs v9 ⟨e2, hS⟩
        have HS9 := Lib.hid hS
        simp only [putAll, Act.put, List.setIfInBounds_toArray, List.set_cons_zero, List.set_cons_succ, e2]
        clear e2 hS
        go_wp2_with fail
        go_ret
        exact ⟨rfl, HWB.out _ HS9.out⟩
end Go.Proofs.YtafdjjdmcnlddaaGreat
