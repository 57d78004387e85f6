/- Several parts in one text: DlMath, DlLw, DlDraws, DlDraw2, DlDraw3, DlDraw4, DlFact. -/
import Derived.Test.YtkjkfcljejjpbaaDoorDbFnI
import Derived.Test.YtkjkfcljejjpbaaDoorDbOutL
import Derived.Test.YtkjkfcljejjpbaaDoorDlBaseG
namespace Go.Proofs.YtkjkfcljejjpbaaDoor
set_option linter.unusedSimpArgs false
set_option linter.unusedVariables false

/-- The last number of a row. -/
def lastI : Int → List PrL → Int
  | l, [] => l
  | _, x :: r => lastI x.i r
theorem prs_more {n : Int} : ∀ {l : Int} {ps : List PrL}, prsB n l ps = true → prsB (n + 1) l ps = true
  | _, [], _ => rfl
  | l, x :: r, h => by
    simp only [prsB, Bool.and_eq_true, decide_eq_true_eq] at h ⊢
    exact ⟨⟨h.1.1, by omega⟩, prs_more h.2⟩
theorem prs_last {n : Int} : ∀ {l : Int} {ps : List PrL}, prsB n l ps = true → l < n → lastI l ps < n
  | l, [], _, h => h
  | l, x :: r, h, _ => by
    simp only [prsB, Bool.and_eq_true, decide_eq_true_eq] at h
    show lastI x.i r < n
    exact prs_last (l := x.i) h.2 h.1.2
theorem prs_app {n : Int} {y : PrL} : ∀ {l : Int} {ps : List PrL}, prsB n l ps = true → prB y = true → lastI l ps < y.i → y.i < n → prsB n l (ps ++ [y]) = true
  | l, [], _, h1, h2, h3 => by
    simp only [List.nil_append, prsB, Bool.and_eq_true, decide_eq_true_eq, h1]
    exact ⟨⟨⟨trivial, h2⟩, h3⟩, trivial⟩
  | l, x :: r, h, h1, h2, h3 => by
    simp only [List.cons_append, prsB, Bool.and_eq_true, decide_eq_true_eq] at h ⊢
    exact ⟨h.1, prs_app h.2 h1 h2 h3⟩
/-- A peer is replaced by a valid one of its number. -/
theorem prs_set {n : Int} {y : PrL} : ∀ {l : Int} {ps : List PrL} {k : Nat}, prsB n l ps = true → prB y = true → (hk : k < ps.length) → y.i = ps[k].i → prsB n l (ps.set k y) = true
  | l, x :: r, 0, h, h1, _, h2 => by
    simp only [List.set_cons_zero, prsB, Bool.and_eq_true, decide_eq_true_eq] at h ⊢
    have h2' : y.i = x.i := h2
    rw [h2']
    exact ⟨⟨⟨h1, h.1.1.2⟩, h.1.2⟩, h.2⟩
  | l, x :: r, k + 1, h, h1, hk, h2 => by
    simp only [List.set_cons_succ, prsB, Bool.and_eq_true, decide_eq_true_eq] at h ⊢
    exact ⟨h.1, prs_set h.2 h1 (by simpa using hk) (by simpa using h2)⟩
theorem db_parts {d : ByteArray} {n : Int} {ps : List PrL} (h : dbB d n ps = true) : domB d = true ∧ 1 ≤ n ∧ n ≤ 1000000000 ∧ ps.length ≤ 10 ∧ prsB n 0 ps = true := by
  unfold dbB at h
  simp only [Bool.and_eq_true, decide_eq_true_eq] at h
  exact ⟨h.1.1.1, h.1.1.2.1, h.1.1.2.2, h.1.2, h.2⟩
theorem db_of {d : ByteArray} {n : Int} {ps : List PrL} (h1 : domB d = true) (h2 : 1 ≤ n) (h3 : n ≤ 1000000000) (h4 : ps.length ≤ 10) (h5 : prsB n 0 ps = true) : dbB d n ps = true := by
  unfold dbB
  simp only [Bool.and_eq_true, decide_eq_true_eq]
  exact ⟨⟨⟨h1, h2, h3⟩, h4⟩, h5⟩
theorem pr_zero {f : ByteArray} {n : Int} (h : domB f = true) : prB (zeroPr f n) = true := by
  unfold prB zeroPr
  simp only [h, Bool.true_and]
  rfl
theorem open_right {d : ByteArray} {n : Int} {ps : List PrL} {f : ByteArray} (h : dbB d n ps = true) (hf : domB f = true) (h1 : ps.length ≠ 10) (h2 : n ≠ 1000000000) : dbB d (n + 1) (ps ++ [zeroPr f n]) = true := by
  obtain ⟨a, b, c, e, g⟩ := db_parts h
  refine db_of a (by omega) (by omega) (by rw [List.length_append]; show _ + 1 ≤ 10; omega) (prs_app (prs_more g) (pr_zero hf) (show lastI 0 ps < n from prs_last g (by omega)) (by show n < n + 1; omega))
theorem pr_asked {x : PrL} {key : ByteArray} (h : prB x = true) (h1 : 0 < key.size) (h2 : key.size ≤ 64) : prB (prK x 1 key) = true := by
  rw [prB_parts] at h ⊢
  simp only [Bool.and_eq_true] at h
  unfold prK
  dsimp only
  rw [h.1.1.1, decide_eq_true (show key.size ≤ 64 from h2), decide_eq_false (show ¬ key.size = 0 by omega)]
  rfl
theorem pr_told {x : PrL} (h : prB x = true) (h1 : x.s = 1) (good : Bool) : prB (prS x (if good then 2 else 3)) = true := by
  rw [prB_parts] at h ⊢
  simp only [Bool.and_eq_true, decide_eq_true_eq, beq_iff_eq, h1] at h
  have hk : ¬ x.k.size = 0 := by
    intro e
    have h2 := h.2
    rw [decide_eq_true e] at h2
    exact absurd h2 (by decide)
  unfold prS
  dsimp only
  rw [h.1.1.1, decide_eq_true h.1.2, decide_eq_false hk]
  cases good <;> rfl
theorem prs_at {n : Int} {l : Int} {ps : List PrL} (h : prsB n l ps = true) {k : Nat} (hk : k < ps.length) : prB ps[k] = true := prsB_all h _ (List.getElem_mem hk)
/-- Setting a peer with its number leaves where each is found. -/
theorem at_set {id : Int} {y : PrL} : ∀ {ps : List PrL} {k : Nat} (hk : k < ps.length), y.i = ps[k].i → atK id (ps.set k y) = atK id ps
  | x :: r, 0, _, h => by
    have h' : y.i = x.i := h
    simp only [List.set_cons_zero, atK, h']
  | x :: r, k + 1, hk, h => by
    simp only [List.set_cons_succ, atK]
    rw [at_set (by simpa using hk) (by simpa using h)]
theorem result_right {d : ByteArray} {n : Int} {ps : List PrL} {K : Nat} {key : ByteArray} (h : dbB d n ps = true) (hK : K < ps.length) (h1 : 0 < key.size) (h2 : key.size ≤ 64) : dbB d n (ps.set K (prK ps[K] 1 key)) = true := by
  obtain ⟨a, b, c, e, g⟩ := db_parts h
  exact db_of a b c (by rw [List.length_set]; exact e) (prs_set g (pr_asked (prs_at g hK) h1 h2) hK rfl)
theorem verified_right {d : ByteArray} {n : Int} {ps : List PrL} {K : Nat} (good : Bool) (h : dbB d n ps = true) (hK : K < ps.length) (h1 : ps[K].s = 1) : dbB d n (ps.set K (prS ps[K] (if good then 2 else 3))) = true := by
  obtain ⟨a, b, c, e, g⟩ := db_parts h
  exact db_of a b c (by rw [List.length_set]; exact e) (prs_set g (pr_told (prs_at g hK) h1 good) hK rfl)
/-- A new stream is not trusted. -/
theorem open_trust {d : ByteArray} {n : Int} {ps : List PrL} {f : ByteArray} (h : prsB n 0 ps = true) : fdB (ps ++ [zeroPr f n]) f n = false := by
  have key : ∀ (l : Int) (qs : List PrL), prsB n l qs = true → atK n (qs ++ [zeroPr f n]) = some qs.length := by
    intro l qs
    induction qs generalizing l with
    | nil => intro _; show (if n = n then some 0 else _) = _; rw [if_pos rfl]; rfl
    | cons x r ih =>
      intro hx
      simp only [prsB, Bool.and_eq_true, decide_eq_true_eq] at hx
      show (if x.i = n then some 0 else (atK n (r ++ [zeroPr f n])).map (· + 1)) = _
      rw [if_neg (by omega), ih x.i hx.2]
      rfl
  have hx : (ps ++ [zeroPr f n])[ps.length]? = some (zeroPr f n) := by simp
  rw [fd_some (key 0 ps h) hx]
  show ((zeroPr f n).d.toList == f.toList && ((0 : Int) == 2)) = false
  simp
/-- A stream that was told is trusted by its domain just when the answer was good. -/
theorem told_trust {ps : List PrL} {id : Int} {K : Nat} (good : Bool) (h : atK id ps = some K) (hK : K < ps.length) : fdB (ps.set K (prS ps[K] (if good then 2 else 3))) ps[K].d id = good := by
  have h1 : atK id (ps.set K (prS ps[K] (if good then 2 else 3))) = some K := (at_set (y := prS ps[K] (if good then 2 else 3)) hK rfl).trans h
  have hx : (ps.set K (prS ps[K] (if good then 2 else 3)))[K]? = some (prS ps[K] (if good then 2 else 3)) := by rw [List.getElem?_set_self hK]
  rw [fd_some h1 hx]
  unfold prS
  dsimp only
  cases good <;> simp
end Go.Proofs.YtkjkfcljejjpbaaDoor

namespace Go.Proofs.YtkjkfcljejjpbaaDoor
set_option linter.unusedSimpArgs false
set_option linter.unusedVariables false
open Go.RowKit

theorem two_bx {w w1 : World} {cs ds : List Value} {t : Nat} (h : Below ((w.alloc (.cells cs.toArray t)).alloc (.cells ds.toArray t)).heap.size ((w.alloc (.cells cs.toArray t)).alloc (.cells ds.toArray t)) w1) :
    Arr w1 w.heap.size t cs ∧ Arr w1 (w.heap.size + 1) t ds ∧ Below w.heap.size w w1 := two_do h
set_option maxRecDepth 100000 in
set_option maxHeartbeats 400000 in
theorem lw_db (d : ByteArray) (n : Int) (ps : List PrL) (p q : Option Addr) (k l : Nat) (w : World) (hn : ps.length ≤ 2000000) (hp : RowC prC 4 w p ps) (hq : RowC prC 4 w q ps) :
    Calls Tryd.prog 11 #[dbV d n p ps.length k, dbV d n q ps.length l] w fun e w' => e = .returned (.bool true) ∧ Below w.heap.size w w' := by
  have HP := Lib.hid (fun W (h : Below w.heap.size w W) => hp.on h)
  have HQ := Lib.hid (fun W (h : Below w.heap.size w W) => hq.on h)
  obtain ⟨N, hN⟩ : ∃ N, ps.length = N := ⟨_, rfl⟩
  have HN := Lib.hid hN
  rw [hN] at hn ⊢
  clear hp hq hN
  have HK := Lib.hid (two_bx (w := w) (cs := [.string d, .int .i64 n, .slice p N k]) (ds := [.string d, .int .i64 n, .slice q N l]) (t := 25) (Below.refl _ _))
  unfold dbV
  go_enter Tryd.func11, Tryd.ntmps11
  go_wp2
  go_loopw [5] (fun iq wr => ∃ i : Nat, i ≤ N ∧ iq = .int .i64 i ∧ Arr wr w.heap.size 25 [.string d, .int .i64 n, .slice p N k] ∧ Arr wr (w.heap.size + 1) 25 [.string d, .int .i64 n, .slice q N l] ∧ Below w.heap.size w wr) (fun i _ => N - (intOf i).toNat)
  case atStart => exact ⟨0, Nat.zero_le _, rfl, HK.out.1, HK.out.2.1, HK.out.2.2⟩
  case round =>
    clear HK
    obtain ⟨i, hi, rfl, hA, hB, hb⟩ := hrel
    have HA := Lib.hid hA
    have HB := Lib.hid hB
    have HBl := Lib.hid hb
    obtain ⟨a0, a1, a2, _⟩ := arr_three hA
    obtain ⟨b0, b1, b2, _⟩ := arr_three hB
    clear hA hB
    by_cases hlt : i < N
    · have hlt' : i < ps.length := by rw [HN.out]; exact hlt
      obtain ⟨g, rfl, hg, c0, c1, c2, c3⟩ := row4 (HP.out _ hb) hlt'
      obtain ⟨g2, rfl, hg2, d0, d1, d2, d3⟩ := row4 (HQ.out _ hb) hlt'
      obtain ⟨x, hx⟩ : ∃ x, ps[i] = x := ⟨_, rfl⟩
      rw [hx] at c0 c1 c2 c3 d0 d1 d2 d3
      clear hx hb
      go_wp2
      go_region
      all_goals (try go_wp2)
      exact ⟨⟨i + 1, by omega, by go_num, HA.out, HB.out, HBl.out.drew⟩, by simp [intOf]; omega⟩
    · obtain rfl : i = N := by omega
      clear hb
      go_wp2
      go_ret
      exact ⟨rfl, HBl.out⟩
end Go.Proofs.YtkjkfcljejjpbaaDoor

namespace Go.Proofs.YtkjkfcljejjpbaaDoor
set_option linter.unusedSimpArgs false
set_option linter.unusedVariables false
open Go.RowKit Go.Joins

theorem own_grown {α : Type} {enc : α → List Value} {W W2 : World} {g B e size : Nat} {v : Value} {xs : List α} (ho : OwnC enc W B e size v xs) (hg : W.grownBy W2 (some g)) (hB : g < B) : OwnC enc W2 B e size v xs := by
  refine ⟨ho.1, ?_⟩
  rcases ho.2 with h0 | ⟨j, c, cur, h1, h2, h3, h4⟩
  · exact .inl h0
  · exact .inr ⟨j, c, cur, h1, h2, (hg.block j (Array.getElem?_eq_some_iff.1 h3).1 (fun e => by have := Option.some.inj e; omega)).trans h3, h4⟩
theorem arr_grown {W W2 : World} {g b t : Nat} {cs : List Value} (h : Arr W b t cs) (hg : W.grownBy W2 (some g)) (hne : b ≠ g) : Arr W2 b t cs := (hg.block b (arr_lt h) (fun e => hne (Option.some.inj e))).trans h
/-- A small dialback. -/
def DlW (d : ByteArray) (ps : List PrL) : Prop := d.size ≤ 100 ∧ ps.length ≤ 10 ∧ ∀ x ∈ ps, x.d.size ≤ 100 ∧ x.k.size ≤ 100
theorem dlw_err (c : Int) : DlW (errR c).d (errR c).ps := ⟨Nat.zero_le _, Nat.zero_le _, fun x hx => by cases hx⟩
theorem dlw_set {d : ByteArray} {ps : List PrL} (h : DlW d ps) {K : Nat} {y : PrL} (h1 : y.d.size ≤ 100) (h2 : y.k.size ≤ 100) : DlW d (ps.set K y) :=
  ⟨h.1, by rw [List.length_set]; exact h.2.1, fun x hx => by
    rcases List.mem_or_eq_of_mem_set hx with hx | rfl
    · exact h.2.2 x hx
    · exact ⟨h1, h2⟩⟩
theorem dlw_open {d : ByteArray} {n : Int} {ps : List PrL} {f : ByteArray} (h : DlW d ps) (hf : f.size ≤ 100) : DlW (openR d n ps f).d (openR d n ps f).ps := by
  unfold openR
  split
  · exact dlw_err _
  · split
    · exact dlw_err _
    · split
      · exact dlw_err _
      · rename_i h1
        refine ⟨h.1, ?_, fun x hx => ?_⟩
        · have := h.2.1
          show (ps ++ [zeroPr f n]).length ≤ 10
          rw [List.length_append]
          show ps.length + 1 ≤ 10
          omega
        · rcases List.mem_append.1 hx with hx | hx
          · exact h.2.2 x hx
          · obtain rfl := List.mem_singleton.1 hx
            exact ⟨hf, Nat.zero_le _⟩
theorem dlw_result {d : ByteArray} {n : Int} {ps : List PrL} {id : Int} {key : ByteArray} (h : DlW d ps) (hf : key.size ≤ 100) : DlW (resultR d n ps id key).d (resultR d n ps id key).ps := by
  unfold resultR
  split
  · exact dlw_err _
  · split
    · exact dlw_err _
    · split
      · exact dlw_err _
      · rename_i K hK
        obtain ⟨hk, _⟩ := atK_lt hK
        rw [getD_at hk]
        split
        · exact dlw_err _
        · split
          · exact dlw_err _
          · exact dlw_set h (h.2.2 _ (List.getElem_mem hk)).1 hf
theorem dlw_verified {d : ByteArray} {n : Int} {ps : List PrL} {id : Int} {good : Bool} (h : DlW d ps) : DlW (verifiedR d n ps id good).d (verifiedR d n ps id good).ps := by
  unfold verifiedR
  split
  · exact dlw_err _
  · split
    · exact dlw_err _
    · rename_i K hK
      obtain ⟨hk, _⟩ := atK_lt hK
      rw [getD_at hk]
      split
      · exact dlw_err _
      · exact dlw_set h (h.2.2 _ (List.getElem_mem hk)).1 (h.2.2 _ (List.getElem_mem hk)).2
/-- The source, the answer's box, the dialback's box and its row. -/
def DlS (w W : World) (B g : Nat) (d : ByteArray) (n : Int) (ps : List PrL) (p : Option Addr) (k : Nat) : Prop :=
  Src W B g ∧ w.grownBy W (some g) ∧ Arr W w.heap.size 25 [.string ⟨#[]⟩, .int .i64 0, .slice none 0 0] ∧ Arr W (w.heap.size + 1) 25 [.string d, .int .i64 n, .slice p ps.length k] ∧ OwnC prC W w.heap.size 43 4 (.slice p ps.length k) ps
theorem DlS.on {w W W2 : World} {B g : Nat} {d : ByteArray} {n : Int} {ps : List PrL} {p : Option Addr} {k : Nat} (h : DlS w W B g d n ps p k) (hb : Below W.heap.size W W2) : DlS w W2 B g d n ps p k :=
  ⟨h.1.on hb, grown_on h.2.1 hb, arr_below h.2.2.1 hb, arr_below h.2.2.2.1 hb, h.2.2.2.2.on hb⟩
theorem DlS.src {w W W2 : World} {B g : Nat} {d : ByteArray} {n : Int} {ps : List PrL} {p : Option Addr} {k : Nat} (h : DlS w W B g d n ps p k) (hS : Src W2 B g) (hg : W.grownBy W2 (some g)) (hlt : g < w.heap.size) : DlS w W2 B g d n ps p k :=
  ⟨hS, grown_same h.2.1 hg, arr_grown h.2.2.1 hg (by omega), arr_grown h.2.2.2.1 hg (by omega), own_grown h.2.2.2.2 hg hlt⟩
/-- What lies beside all of this may be written. -/
theorem DlS.other {w W : World} {B g : Nat} {d : ByteArray} {n : Int} {ps : List PrL} {p : Option Addr} {k : Nat} (h : DlS w W B g d n ps p k) (hlt : g < w.heap.size) {b i : Nat} {u : Value} (hb : w.heap.size + 2 ≤ b) (hB : B ≤ b) (hne : ∀ j, (Value.slice p ps.length k).ownBlock = some j → b ≠ j) : DlS w (W.setCell ⟨b, i, none⟩ u) B g d n ps p k :=
  ⟨h.1.set b i u (by omega) hB, grown_new h.2.1 b i u (by omega), arr_beside h.2.2.1 b i u (by omega), arr_beside h.2.2.2.1 b i u (by omega), own_other h.2.2.2.2 hne⟩
theorem DlS.put5 {w W : World} {B g : Nat} {d : ByteArray} {n : Int} {ps : List PrL} {p : Option Addr} {k : Nat} (h : DlS w W B g d n ps p k) (hlt : g < w.heap.size) {b : Nat} (hb : w.heap.size + 2 ≤ b) (hB : B ≤ b) (hne : ∀ j, (Value.slice p ps.length k).ownBlock = some j → b ≠ j) (x0 x1 x2 x3 x4 : Value) : DlS w (Go.Proofs.YtkjkfcljejjpbaaDoor.put5 W b x0 x1 x2 x3 x4) B g d n ps p k :=
  ((((h.other hlt hb hB hne).other hlt hb hB hne).other hlt hb hB hne).other hlt hb hB hne).other hlt hb hB hne
/-- Another dialback is stored in its box. -/
theorem DlS.new {w W : World} {B g : Nat} {d d2 : ByteArray} {n n2 : Int} {ps qs : List PrL} {p p2 : Option Addr} {k k2 : Nat} (h : DlS w W B g d n ps p k) (hlt : g < w.heap.size) (ho : OwnC prC W w.heap.size 43 4 (.slice p2 qs.length k2) qs) :
    DlS w (((W.setCell ⟨w.heap.size + 1, 0, none⟩ (.string d2)).setCell ⟨w.heap.size + 1, 1, none⟩ (.int .i64 n2)).setCell ⟨w.heap.size + 1, 2, none⟩ (.slice p2 qs.length k2)) B g d2 n2 qs p2 k2 := by
  have hne := own_ne_box ho h.2.2.2.1 (by decide)
  have hne' : ∀ j, (Value.slice p2 qs.length k2).ownBlock = some j → w.heap.size + 1 ≠ j := fun j hj => (hne j hj).symm
  have hB := h.1.1
  have q1 : w.heap.size + 1 ≠ g := by omega
  have q2 : B ≤ w.heap.size + 1 := by omega
  have q3 : w.heap.size ≠ w.heap.size + 1 := by omega
  exact ⟨((h.1.set _ 0 _ q1 q2).set _ 1 _ q1 q2).set _ 2 _ q1 q2, grown_new (grown_new (grown_new h.2.1 _ _ _ (Nat.le_succ _)) _ _ _ (Nat.le_succ _)) _ _ _ (Nat.le_succ _), arr_beside (arr_beside (arr_beside h.2.2.1 _ _ _ q3) _ _ _ q3) _ _ _ q3, ((h.2.2.2.1.put 0 _).put 1 _).put 2 _, own_other (own_other (own_other ho hne') hne') hne'⟩
theorem own_put5 {W : World} {B b : Nat} {v : Value} {xs : List PrL} (h : OwnC prC W B 43 4 v xs) (hne : ∀ j, v.ownBlock = some j → j ≠ b) (x0 x1 x2 x3 x4 : Value) : OwnC prC (put5 W b x0 x1 x2 x3 x4) B 43 4 v xs :=
  own_other (own_other (own_other (own_other (own_other h (fun j hj => (hne j hj).symm)) (fun j hj => (hne j hj).symm)) (fun j hj => (hne j hj).symm)) (fun j hj => (hne j hj).symm)) (fun j hj => (hne j hj).symm)
/-- The number, the domain of the dialback is stored. -/
theorem DlS.putN {w W : World} {B g : Nat} {d : ByteArray} {n : Int} {ps : List PrL} {p : Option Addr} {k : Nat} (h : DlS w W B g d n ps p k) (hlt : g < w.heap.size) (n2 : Int) : DlS w (W.setCell ⟨w.heap.size + 1, 1, none⟩ (.int .i64 n2)) B g d n2 ps p k := by
  have hne := own_ne_box h.2.2.2.2 h.2.2.2.1 (by decide)
  have hB := h.1.1
  exact ⟨h.1.set _ 1 _ (by omega) (by omega), grown_new h.2.1 _ _ _ (Nat.le_succ _), arr_beside h.2.2.1 _ _ _ (by omega), h.2.2.2.1.put 1 _, own_other h.2.2.2.2 (fun j hj => (hne j hj).symm)⟩
theorem DlS.putD {w W : World} {B g : Nat} {d : ByteArray} {n : Int} {ps : List PrL} {p : Option Addr} {k : Nat} (h : DlS w W B g d n ps p k) (hlt : g < w.heap.size) (d2 : ByteArray) : DlS w (W.setCell ⟨w.heap.size + 1, 0, none⟩ (.string d2)) B g d2 n ps p k := by
  have hne := own_ne_box h.2.2.2.2 h.2.2.2.1 (by decide)
  have hB := h.1.1
  exact ⟨h.1.set _ 0 _ (by omega) (by omega), grown_new h.2.1 _ _ _ (Nat.le_succ _), arr_beside h.2.2.1 _ _ _ (by omega), h.2.2.2.1.put 0 _, own_other h.2.2.2.2 (fun j hj => (hne j hj).symm)⟩
/-- A cell of the row is stored. -/
theorem DlS.putS {w W : World} {B g j : Nat} {d : ByteArray} {n : Int} {ps : List PrL} {k : Nat} (h : DlS w W B g d n ps (some ⟨j, 0, none⟩) k) (hlt : g < w.heap.size) (h0 : 0 < ps.length) (s : Int) : DlS w (W.setCell ⟨j, 0 * 4 + 2, none⟩ (.int .i64 s)) B g d n (ps.set 0 (prS ps[0] s)) (some ⟨j, 0, none⟩) k := by
  have hj : w.heap.size ≤ j := own_base h.2.2.2.2 j rfl
  have n1 := own_ne_box h.2.2.2.2 h.2.2.2.1 (by decide) j rfl
  have n2 := own_ne_box h.2.2.2.2 h.2.2.1 (by decide) j rfl
  have hB := h.1.1
  have ho := OwnC.set prC_len h.2.2.2.2 0 2 h0 (by decide) (u := .int .i64 s) (y := prS ps[0] s) rfl
  have hl : (ps.set 0 (prS ps[0] s)).length = ps.length := List.length_set
  unfold DlS
  rw [hl]
  exact ⟨h.1.set _ _ _ (by omega) (by omega), grown_new h.2.1 _ _ _ hj, arr_beside h.2.2.1 _ _ _ n2.symm, arr_beside h.2.2.2.1 _ _ _ n1.symm, ho⟩
/-- The row has grown, and is stored. -/
theorem DlS.putR {w W W2 : World} {B g : Nat} {d : ByteArray} {n : Int} {ps qs : List PrL} {p p2 : Option Addr} {k k2 : Nat} (h : DlS w W B g d n ps p k) (hlt : g < w.heap.size) (hg : W.grownBy W2 (Value.slice p ps.length k).ownBlock) (ho : OwnC prC W2 w.heap.size 43 4 (.slice p2 qs.length k2) qs) :
    Arr W2 (w.heap.size + 1) 25 [.string d, .int .i64 n, .slice p ps.length k] ∧ Arr W2 w.heap.size 25 [.string ⟨#[]⟩, .int .i64 0, .slice none 0 0] ∧ DlS w (W2.setCell ⟨w.heap.size + 1, 2, none⟩ (.slice p2 qs.length k2)) B g d n qs p2 k2 := by
  have hB := h.1.1
  have hb := own_base h.2.2.2.2
  have e1 := own_ne_box h.2.2.2.2 h.2.2.2.1 (by decide)
  have e2 := own_ne_box h.2.2.2.2 h.2.2.1 (by decide)
  have A1 : Arr W2 (w.heap.size + 1) 25 [.string d, .int .i64 n, .slice p ps.length k] := (hg.block _ (arr_lt h.2.2.2.1) (fun e => e1 _ e.symm rfl)).trans h.2.2.2.1
  have A2 : Arr W2 w.heap.size 25 [.string ⟨#[]⟩, .int .i64 0, .slice none 0 0] := (hg.block _ (arr_lt h.2.2.1) (fun e => e2 _ e.symm rfl)).trans h.2.2.1
  have S2 : Src W2 B g := h.1.other hg (fun q hq => by have := hb q hq; omega) h.1.lt (fun q hq => by have := hb q hq; omega)
  have G2 : w.grownBy W2 (some g) := grown_over h.2.1 hg (fun q hq => hb q hq)
  have hne := own_ne_box ho A1 (by decide)
  exact ⟨A1, A2, S2.set _ 2 _ (by omega) (by omega), grown_new G2 _ _ _ (Nat.le_succ _), arr_beside A2 _ _ _ (by omega), A1.put 2 _, own_other ho (fun j hj => (hne j hj).symm)⟩
/-- The answer's box is filled. -/
theorem DlS.fin {w W : World} {B g : Nat} {d : ByteArray} {n : Int} {ps : List PrL} {p : Option Addr} {k : Nat} (h : DlS w W B g d n ps p k) (hlt : g < w.heap.size) :
    Arr (((W.setCell ⟨w.heap.size, 0, none⟩ (.string d)).setCell ⟨w.heap.size, 1, none⟩ (.int .i64 n)).setCell ⟨w.heap.size, 2, none⟩ (.slice p ps.length k)) w.heap.size 25 [.string d, .int .i64 n, .slice p ps.length k] ∧
    OwnC prC (((W.setCell ⟨w.heap.size, 0, none⟩ (.string d)).setCell ⟨w.heap.size, 1, none⟩ (.int .i64 n)).setCell ⟨w.heap.size, 2, none⟩ (.slice p ps.length k)) w.heap.size 43 4 (.slice p ps.length k) ps ∧
    Src (((W.setCell ⟨w.heap.size, 0, none⟩ (.string d)).setCell ⟨w.heap.size, 1, none⟩ (.int .i64 n)).setCell ⟨w.heap.size, 2, none⟩ (.slice p ps.length k)) B g ∧
    w.grownBy (((W.setCell ⟨w.heap.size, 0, none⟩ (.string d)).setCell ⟨w.heap.size, 1, none⟩ (.int .i64 n)).setCell ⟨w.heap.size, 2, none⟩ (.slice p ps.length k)) (some g) := by
  have hne := own_ne_box h.2.2.2.2 h.2.2.1 (by decide)
  have hne' : ∀ j, (Value.slice p ps.length k).ownBlock = some j → w.heap.size ≠ j := fun j hj => (hne j hj).symm
  have hB := h.1.1
  have q1 : w.heap.size ≠ g := by omega
  have q2 : B ≤ w.heap.size := by omega
  exact ⟨((h.2.2.1.put 0 _).put 1 _).put 2 _, own_other (own_other (own_other h.2.2.2.2 hne') hne') hne', ((h.1.set _ 0 _ q1 q2).set _ 1 _ q1 q2).set _ 2 _ q1 q2, grown_new (grown_new (grown_new h.2.1 _ _ _ (Nat.le_refl _)) _ _ _ (Nat.le_refl _)) _ _ _ (Nat.le_refl _)⟩
theorem int4_at {W : World} {b R : Nat} (h : Arr W b 2 [.int .i64 0, .int .i64 1, .int .i64 1000000000, .int .i64 1000000001]) (h1 : (R : Int) < 4 ∨ (R : Int) = 0) : ∃ n, W.cell? ⟨b, R, none⟩ = some (.int .i64 n) := by
  have e : R = 0 ∨ R = 1 ∨ R = 2 ∨ R = 3 := by omega
  rcases e with rfl | rfl | rfl | rfl
  · exact ⟨_, h.cell 0⟩
  · exact ⟨_, h.cell 1⟩
  · exact ⟨_, h.cell 2⟩
  · exact ⟨_, h.cell 3⟩
set_option maxRecDepth 100000 in
set_option maxHeartbeats 3000000 in
theorem draw_db (B g : Nat) (w : World) (hS : Src w B g) :
    Calls Tryd.prog 20 #[.pointer (some ⟨g, 0, none⟩)] w fun e w' => (∃ d n ps p k, e = .returned (dbV d n p ps.length k) ∧ d.size ≤ 100 ∧ ps.length ≤ 11 ∧ (∀ x ∈ ps, x.d.size ≤ 100 ∧ x.k.size ≤ 100) ∧ OwnC prC w' w.heap.size 43 4 (.slice p ps.length k) ps) ∧ Src w' B g ∧ w.grownBy w' (some g) := by
  have hlt := hS.lt
  have hBg := hS.1
  have HS0 : Hid (DlS w ((w.alloc (.cells #[.string ⟨#[]⟩, .int .i64 0, .slice none 0 0] 25)).alloc (.cells #[.string ⟨#[97]⟩, .int .i64 1, .slice none 0 0] 25)) B g ⟨#[97]⟩ 1 [] none 0) := Lib.hid (by
    have h2 := Arr.fresh (w.alloc (.cells #[.string ⟨#[]⟩, .int .i64 0, .slice none 0 0] 25)) 25 [.string ⟨#[97]⟩, .int .i64 1, .slice none 0 0]
    rw [World.size_alloc] at h2
    exact ⟨(hS.alloc _).alloc _, grown_alloc (grown_alloc (World.grownBy.refl w _) _) _, arr_alloc (Arr.fresh w _ _) _, h2, ownC_nil _ _ _ _ _⟩)
  obtain ⟨hBg', a, len, cap, at_, mix, size, hA, a0, a1, m0, m1, s0, s1, hl, hr⟩ := HS0.out.1
  obtain ⟨⟨x0, x1, x2, x3⟩, _⟩ := arr_4p hA
  clear hA hr
  go_enter Tryd.func20, Tryd.ntmps20
  go_wp2_with fail
  refine (src_n B g _ _ (by omega) HS0.out.1).mono ?_
  rintro e w1 ⟨_, rfl, ⟨r, rfl, h0, h1⟩, hS1, hg1⟩
  obtain ⟨c, rfl⟩ : ∃ c : Nat, r = c := ⟨r.toNat, by omega⟩
  have hc20 : c ≤ 20 := by omega
  have HS1 := Lib.hid (HS0.out.src hS1 hg1 hlt)
  clear hS1 hg1 HS0 x0 x1 x2 x3 h0 h1 a0 a1 m0 m1 s0 s1 hl hBg'
  go_wp2
  go_loopw [4] (fun iq wr => ∃ c : Nat, c ≤ 20 ∧ iq = .int .i64 c ∧ ∃ d n ps p k, DlW d ps ∧ DlS w wr B g d n ps p k) (fun i _ => (intOf i).toNat)
  case atStart => exact ⟨c, hc20, rfl, _, _, _, _, _, ⟨by show 1 ≤ 100; omega, Nat.zero_le _, fun x hx => by cases hx⟩, HS1.out⟩
  case round =>
    clear HS1 hc20
    obtain ⟨m, hm20, rfl, d, n, ps, p, k, hdw, hDl⟩ := hrel
    have HDl := Lib.hid hDl
    have hd1 := hdw.1
    have hd2 := hdw.2.1
    by_cases hc : 0 < m
    · have hc0 : (0 : Int) < (m : Int) := by omega
      have hb5 : w.heap.size + 2 ≤ wr.heap.size := by have := arr_lt hDl.2.2.2.1; omega
      have hB5 : B ≤ wr.heap.size := by omega
      have hne3 : ∀ j, (Value.slice p ps.length k).ownBlock = some j → wr.heap.size ≠ j := fun j hj => by have := own_lt hDl.2.2.2.2 j hj; omega
      clear hDl
      go_wp2_with fail
      refine (src_n B g 4 _ (by omega) (HDl.out.on ((Below.refl _ _).alloc (Nat.le_refl _) _)).1).mono ?_
      rintro e w2 ⟨_, rfl, ⟨r, rfl, h0, h1⟩, hS2, hg2⟩
      have HS2 := Lib.hid ((HDl.out.on ((Below.refl _ _).alloc (Nat.le_refl _) _)).src hS2 hg2 hlt)
      have HB2 := Lib.hid (arr_grown (Arr.fresh wr 29 [.string ⟨#[]⟩, .int .i64 0, .slice none 0 0, .int .i64 0, .int .i64 0]) hg2 (by omega))
      clear hS2 hg2
      by_cases hr0 : r = 0
      · subst hr0
        go_wp2
        refine wp_region_held_drew (S := fun W => Arr W (w.heap.size + 1) 25 [.string d, .int .i64 n, .slice p ps.length k]) (by kernel_rfl) HS2.out.2.2.2.1 (fun hHeld => ?_)
        have HS3 := Lib.hid (HS2.out.on (Below.refl _ _).drew)
        have HB3 := Lib.hid (arr_below HB2.out (Below.refl _ _).drew)
        generalize World.drew _ = wd at HS3 HB3 hHeld ⊢
        refine takeQ (i := 0) (k := 29) (v := .agg #[.string d, .int .i64 n, .slice p ps.length k]) rfl (by rfl) (by kernel_rfl) (by kernel_rfl) (by kernel_rfl) (fun _ _ _ h => h) (by rfl) ?_ hHeld ?_
        · intro w1 hSw; obtain ⟨m0, m1, m2, _⟩ := arr_three hSw; go_simp
        (try simp only [Act.put, List.setIfInBounds_toArray, List.set_cons_zero, List.set_cons_succ])
        refine takeQ (i := 1) (k := 30) (v := .pointer (some ⟨g, 0, none⟩)) rfl (by rfl) (by kernel_rfl) (by kernel_rfl) (by kernel_rfl) (fun _ _ _ h => h) (by rfl) ?_ hHeld ?_
        · intro w1 hSw; go_simp
        (try simp only [Act.put, List.setIfInBounds_toArray, List.set_cons_zero, List.set_cons_succ])
        refine wpAnyH_ready (rs := [2]) (by kernel_rfl) (by simp) ?_
        refine AllReadyH.cons rfl (fun K hK => ?_) AllReadyH.nil
        rw [if_pos (by rfl)]
        go_simp
        go_fit (src_n B g 4 _ (by omega) HS3.out.1)
        rintro e wx ⟨_, rfl, ⟨r2, rfl, h20, h21⟩, hSz, hgz⟩
        have h24 : r2 < 4 := by omega
        have HS4 := Lib.hid (HS3.out.src hSz hgz hlt)
        have HB4 := Lib.hid (arr_grown HB3.out hgz (by omega))
        refine hK.out _ _ (HS4.out.2.2.2.1) (fun hHeld => ?_)
        clear hK K hSz hgz
        (try simp only [Act.put, List.setIfInBounds_toArray, List.set_cons_zero, List.set_cons_succ])
        refine takeQ (i := 3) (k := 32) (v := .int .i64 (1 + r2)) rfl (by rfl) (by kernel_rfl) (by kernel_rfl) (by kernel_rfl) (fun _ _ _ h => h) (by rfl) ?_ hHeld ?_
        · intro w1 hSw; go_simp; exact IntWalk.i64_in _ ⟨by omega, by omega⟩
        (try simp only [Act.put, List.setIfInBounds_toArray, List.set_cons_zero, List.set_cons_succ])
        refine wpAnyH_ready (rs := [4]) (by kernel_rfl) (by simp) ?_
        refine AllReadyH.cons rfl (fun K hK => ?_) AllReadyH.nil
        rw [if_pos (by rfl)]
        go_simp
        go_fit (spec_result d n ps p k w.heap.size (1 + r2) ⟨#[107]⟩ _ (by omega) (by omega) (fun x hx => ⟨by have := (hdw.2.2 x hx).1; omega, by have := (hdw.2.2 x hx).2; omega⟩) HS4.out.2.2.2.2 (by show 1 ≤ 1048576; omega))
        rintro e wy ⟨⟨p5, k5, rfl, hv⟩, hb⟩
        have hdR := dlw_result hdw (show 1 ≤ 100 by omega) (n := n) (id := 1 + r2) (key := ⟨#[107]⟩)
        obtain ⟨Q, hQ⟩ : ∃ Q, resultR d n ps (1 + r2) ⟨#[107]⟩ = Q := ⟨_, rfl⟩
        rw [hQ] at hv hdR ⊢
        unfold doV
        have HS5 := Lib.hid (HS4.out.on hb)
        have HB5 := Lib.hid (arr_below HB4.out hb)
        have HV5 := Lib.hid (hv.mono (B' := w.heap.size) (by have := arr_lt HS4.out.2.2.1; omega))
        clear hQ hb hv
        refine hK.out _ _ (HS5.out.2.2.2.1) (fun hHeld => ?_)
        clear hK K
        (try simp only [Act.put, List.setIfInBounds_toArray, List.set_cons_zero, List.set_cons_succ])
        obtain ⟨⟨c0, c1, c2, c3, c4⟩, f0, f1, f2_, f3, f4⟩ := arr_five HB5.out
        refine wpAnyH_ready (rs := [5]) (by kernel_rfl) (by simp) ?_
        refine AllReadyH.cons rfl (fun K hK => ?_) AllReadyH.nil
        rw [if_pos (by rfl)]
        go_simp
        have hne5 := own_ne_box HV5.out HB5.out (by decide)
        have HS6 := Lib.hid (HS5.out.put5 hlt hb5 hB5 hne3 (.string Q.d) (.int .i64 Q.n) (.slice p5 Q.ps.length k5) (.int .i64 Q.i) (.int .i64 Q.c))
        have HB6 := Lib.hid (arr_put5 HB5.out (.string Q.d) (.int .i64 Q.n) (.slice p5 Q.ps.length k5) (.int .i64 Q.i) (.int .i64 Q.c))
        have HV6 := Lib.hid (own_put5 HV5.out hne5 (.string Q.d) (.int .i64 Q.n) (.slice p5 Q.ps.length k5) (.int .i64 Q.i) (.int .i64 Q.c))
        refine hK.out _ _ HS6.out.2.2.2.1 (fun hHeld => ?_)
        clear hK K c0 c1 c2 c3 c4 f0 f1 f2_ f3 f4
        (try simp only [Act.put, List.setIfInBounds_toArray, List.set_cons_zero, List.set_cons_succ])
        refine wpAnyH_done (by kernel_rfl) ?_ _
        have hz : ((((wy.setCell ⟨wr.heap.size, 0, none⟩ (.string Q.d)).setCell ⟨wr.heap.size, 1, none⟩ (.int .i64 Q.n)).setCell ⟨wr.heap.size, 2, none⟩ (.slice p5 Q.ps.length k5)).setCell ⟨wr.heap.size, 3, none⟩ (.int .i64 Q.i)).setCell ⟨wr.heap.size, 4, none⟩ (.int .i64 Q.c) = put5 wy wr.heap.size (.string Q.d) (.int .i64 Q.n) (.slice p5 Q.ps.length k5) (.int .i64 Q.i) (.int .i64 Q.c) := rfl
        rw [hz]
        clear hz
        generalize put5 wy wr.heap.size (.string Q.d) (.int .i64 Q.n) (.slice p5 Q.ps.length k5) (.int .i64 Q.i) (.int .i64 Q.c) = wz at HS6 HB6 HV6 ⊢
        obtain ⟨⟨c0, c1, c2, c3, c4⟩, _⟩ := arr_five HB6.out
        obtain ⟨o0, o1, o2, o3, o4, o5⟩ := arr_three HS6.out.2.2.2.1
        have hq1 : ¬ (wr.heap.size = w.heap.size + 1) := by omega
        have hq2 : ¬ (w.heap.size + 1 = wr.heap.size) := by omega
        obtain ⟨bq, hbq⟩ : ∃ b, (Q.c == 0) = b := ⟨_, rfl⟩
        cases bq
        · go_wp2
          go_roundw
          case rel => exact ⟨m - 1, by omega, by go_num, d, n, ps, p, k, hdw, HS6.out⟩
          case measure => simp [intOf]; omega
        · go_wp2
          go_roundw
          case rel => exact ⟨m - 1, by omega, by go_num, Q.d, Q.n, Q.ps, p5, k5, hdR, HS6.out.new hlt HV6.out⟩
          case measure => simp [intOf]; omega
      by_cases hr1 : r = 1
      · subst hr1
        go_wp2
        refine wp_region_held_drew (S := fun W => Arr W (w.heap.size + 1) 25 [.string d, .int .i64 n, .slice p ps.length k]) (by kernel_rfl) HS2.out.2.2.2.1 (fun hHeld => ?_)
        have HS3 := Lib.hid (HS2.out.on (Below.refl _ _).drew)
        have HB3 := Lib.hid (arr_below HB2.out (Below.refl _ _).drew)
        generalize World.drew _ = wd at HS3 HB3 hHeld ⊢
        refine takeQ (i := 0) (k := 36) (v := .agg #[.string d, .int .i64 n, .slice p ps.length k]) rfl (by rfl) (by kernel_rfl) (by kernel_rfl) (by kernel_rfl) (fun _ _ _ h => h) (by rfl) ?_ hHeld ?_
        · intro w1 hSw; obtain ⟨m0, m1, m2, _⟩ := arr_three hSw; go_simp
        (try simp only [Act.put, List.setIfInBounds_toArray, List.set_cons_zero, List.set_cons_succ])
        refine takeQ (i := 1) (k := 37) (v := .pointer (some ⟨g, 0, none⟩)) rfl (by rfl) (by kernel_rfl) (by kernel_rfl) (by kernel_rfl) (fun _ _ _ h => h) (by rfl) ?_ hHeld ?_
        · intro w1 hSw; go_simp
        (try simp only [Act.put, List.setIfInBounds_toArray, List.set_cons_zero, List.set_cons_succ])
        refine takeQ (i := 4) (k := 40) (v := .pointer (some ⟨g, 0, none⟩)) rfl (by rfl) (by kernel_rfl) (by kernel_rfl) (by kernel_rfl) (fun _ _ _ h => h) (by rfl) ?_ hHeld ?_
        · intro w1 hSw; go_simp
        (try simp only [Act.put, List.setIfInBounds_toArray, List.set_cons_zero, List.set_cons_succ])
        refine wpAnyH_ready (rs := [2]) (by kernel_rfl) (by simp) ?_
        refine AllReadyH.cons rfl (fun K hK => ?_) AllReadyH.nil
        rw [if_pos (by rfl)]
        go_simp
        go_fit (src_n B g 4 _ (by omega) HS3.out.1)
        rintro e wx ⟨_, rfl, ⟨r2, rfl, h20, h21⟩, hSz, hgz⟩
        have h24 : r2 < 4 := by omega
        have HS3b := Lib.hid (HS3.out.src hSz hgz hlt)
        have HB3b := Lib.hid (arr_grown HB3.out hgz (by omega))
        refine hK.out _ _ (HS3b.out.2.2.2.1) (fun hHeld => ?_)
        clear hK K hSz hgz
        (try simp only [Act.put, List.setIfInBounds_toArray, List.set_cons_zero, List.set_cons_succ])
        refine takeQ (i := 3) (k := 39) (v := .int .i64 (1 + r2)) rfl (by rfl) (by kernel_rfl) (by kernel_rfl) (by kernel_rfl) (fun _ _ _ h => h) (by rfl) ?_ hHeld ?_
        · intro w1 hSw; go_simp; exact IntWalk.i64_in _ ⟨by omega, by omega⟩
        (try simp only [Act.put, List.setIfInBounds_toArray, List.set_cons_zero, List.set_cons_succ])
        refine wpAnyH_ready (rs := [5]) (by kernel_rfl) (by simp) ?_
        refine AllReadyH.cons rfl (fun K hK => ?_) AllReadyH.nil
        rw [if_pos (by rfl)]
        go_simp
        go_fit (src_one B g 2 _ (by omega) HS3b.out.1)
        rintro e wx2 ⟨_, rfl, ⟨q2, rfl⟩, hSz, hgz⟩
        have HS4 := Lib.hid (HS3b.out.src hSz hgz hlt)
        have HB4 := Lib.hid (arr_grown HB3b.out hgz (by omega))
        refine hK.out _ _ (HS4.out.2.2.2.1) (fun hHeld => ?_)
        clear hK K hSz hgz
        (try simp only [Act.put, List.setIfInBounds_toArray, List.set_cons_zero, List.set_cons_succ])
        refine wpAnyH_ready (rs := [6]) (by kernel_rfl) (by simp) ?_
        refine AllReadyH.cons rfl (fun K hK => ?_) AllReadyH.nil
        rw [if_pos (by rfl)]
        go_simp
        go_fit (spec_verified d n ps p k w.heap.size (1 + r2) q2 _ (by omega) (by omega) (fun x hx => ⟨by have := (hdw.2.2 x hx).1; omega, by have := (hdw.2.2 x hx).2; omega⟩) HS4.out.2.2.2.2)
        rintro e wy ⟨⟨p5, k5, rfl, hv⟩, hb⟩
        have hdR := dlw_verified hdw (n := n) (id := 1 + r2) (good := q2)
        obtain ⟨Q, hQ⟩ : ∃ Q, verifiedR d n ps (1 + r2) q2 = Q := ⟨_, rfl⟩
        rw [hQ] at hv hdR ⊢
        unfold doV
        have HS5 := Lib.hid (HS4.out.on hb)
        have HB5 := Lib.hid (arr_below HB4.out hb)
        have HV5 := Lib.hid (hv.mono (B' := w.heap.size) (by have := arr_lt HS4.out.2.2.1; omega))
        clear hQ hb hv
        refine hK.out _ _ (HS5.out.2.2.2.1) (fun hHeld => ?_)
        clear hK K
        (try simp only [Act.put, List.setIfInBounds_toArray, List.set_cons_zero, List.set_cons_succ])
        obtain ⟨⟨c0, c1, c2, c3, c4⟩, f0, f1, f2_, f3, f4⟩ := arr_five HB5.out
        refine wpAnyH_ready (rs := [7]) (by kernel_rfl) (by simp) ?_
        refine AllReadyH.cons rfl (fun K hK => ?_) AllReadyH.nil
        rw [if_pos (by rfl)]
        go_simp
        have hne5 := own_ne_box HV5.out HB5.out (by decide)
        have HS6 := Lib.hid (HS5.out.put5 hlt hb5 hB5 hne3 (.string Q.d) (.int .i64 Q.n) (.slice p5 Q.ps.length k5) (.int .i64 Q.i) (.int .i64 Q.c))
        have HB6 := Lib.hid (arr_put5 HB5.out (.string Q.d) (.int .i64 Q.n) (.slice p5 Q.ps.length k5) (.int .i64 Q.i) (.int .i64 Q.c))
        have HV6 := Lib.hid (own_put5 HV5.out hne5 (.string Q.d) (.int .i64 Q.n) (.slice p5 Q.ps.length k5) (.int .i64 Q.i) (.int .i64 Q.c))
        refine hK.out _ _ HS6.out.2.2.2.1 (fun hHeld => ?_)
        clear hK K c0 c1 c2 c3 c4 f0 f1 f2_ f3 f4
        (try simp only [Act.put, List.setIfInBounds_toArray, List.set_cons_zero, List.set_cons_succ])
        refine wpAnyH_done (by kernel_rfl) ?_ _
        have hz : ((((wy.setCell ⟨wr.heap.size, 0, none⟩ (.string Q.d)).setCell ⟨wr.heap.size, 1, none⟩ (.int .i64 Q.n)).setCell ⟨wr.heap.size, 2, none⟩ (.slice p5 Q.ps.length k5)).setCell ⟨wr.heap.size, 3, none⟩ (.int .i64 Q.i)).setCell ⟨wr.heap.size, 4, none⟩ (.int .i64 Q.c) = put5 wy wr.heap.size (.string Q.d) (.int .i64 Q.n) (.slice p5 Q.ps.length k5) (.int .i64 Q.i) (.int .i64 Q.c) := rfl
        rw [hz]
        clear hz
        generalize put5 wy wr.heap.size (.string Q.d) (.int .i64 Q.n) (.slice p5 Q.ps.length k5) (.int .i64 Q.i) (.int .i64 Q.c) = wz at HS6 HB6 HV6 ⊢
        obtain ⟨⟨c0, c1, c2, c3, c4⟩, _⟩ := arr_five HB6.out
        obtain ⟨o0, o1, o2, o3, o4, o5⟩ := arr_three HS6.out.2.2.2.1
        have hq1 : ¬ (wr.heap.size = w.heap.size + 1) := by omega
        have hq2 : ¬ (w.heap.size + 1 = wr.heap.size) := by omega
        obtain ⟨bq, hbq⟩ : ∃ b, (Q.c == 0) = b := ⟨_, rfl⟩
        cases bq
        · go_wp2
          go_roundw
          case rel => exact ⟨m - 1, by omega, by go_num, d, n, ps, p, k, hdw, HS6.out⟩
          case measure => simp [intOf]; omega
        · go_wp2
          go_roundw
          case rel => exact ⟨m - 1, by omega, by go_num, Q.d, Q.n, Q.ps, p5, k5, hdR, HS6.out.new hlt HV6.out⟩
          case measure => simp [intOf]; omega
      · have hr0' : (r == 0) = false := by rw [beq_eq_false_iff_ne]; exact hr0
        have hr1' : (r == 1) = false := by rw [beq_eq_false_iff_ne]; exact hr1
        go_wp2
        refine wp_region_held_drew (S := fun W => Arr W (w.heap.size + 1) 25 [.string d, .int .i64 n, .slice p ps.length k]) (by kernel_rfl) HS2.out.2.2.2.1 (fun hHeld => ?_)
        have HS3 := Lib.hid (HS2.out.on (Below.refl _ _).drew)
        have HB3 := Lib.hid (arr_below HB2.out (Below.refl _ _).drew)
        generalize World.drew _ = wd at HS3 HB3 hHeld ⊢
        refine takeQ (i := 0) (k := 22) (v := .agg #[.string d, .int .i64 n, .slice p ps.length k]) rfl (by rfl) (by kernel_rfl) (by kernel_rfl) (by kernel_rfl) (fun _ _ _ h => h) (by rfl) ?_ hHeld ?_
        · intro w1 hSw; obtain ⟨m0, m1, m2, _⟩ := arr_three hSw; go_simp
        (try simp only [Act.put, List.setIfInBounds_toArray, List.set_cons_zero, List.set_cons_succ])
        refine takeQ (i := 1) (k := 23) (v := .pointer (some ⟨g, 0, none⟩)) rfl (by rfl) (by kernel_rfl) (by kernel_rfl) (by kernel_rfl) (fun _ _ _ h => h) (by rfl) ?_ hHeld ?_
        · intro w1 hSw; go_simp
        (try simp only [Act.put, List.setIfInBounds_toArray, List.set_cons_zero, List.set_cons_succ])
        refine wpAnyH_ready (rs := [2]) (by kernel_rfl) (by simp) ?_
        refine AllReadyH.cons rfl (fun K hK => ?_) AllReadyH.nil
        rw [if_pos (by rfl)]
        go_simp
        have HS3b := Lib.hid (HS3.out.on ((Below.refl _ _).alloc (Nat.le_refl _) (.cells #[.string ⟨#[98]⟩, .string ⟨#[99, 46, 100]⟩] 9)))
        have HB3b := Lib.hid (arr_alloc HB3.out (.cells #[.string ⟨#[98]⟩, .string ⟨#[99, 46, 100]⟩] 9))
        refine hK.out _ _ (HS3b.out.2.2.2.1) (fun hHeld => ?_)
        clear hK K
        (try simp only [Act.put, List.setIfInBounds_toArray, List.set_cons_zero, List.set_cons_succ])
        refine wpAnyH_ready (rs := [3]) (by kernel_rfl) (by simp) ?_
        refine AllReadyH.cons rfl (fun K hK => ?_) AllReadyH.nil
        rw [if_pos (by rfl)]
        go_simp
        go_fit (src_pick B g wd.heap.size 2 100 _ (by omega) (by omega) HS3b.out.1 (by have := arr_lt HS3.out.2.2.1; omega) (strRow_at wd 9 100 wd.heap.size [⟨#[98]⟩, ⟨#[99, 46, 100]⟩] rfl (by intro s hs; simp only [List.mem_cons, List.not_mem_nil, or_false] at hs; rcases hs with rfl | rfl <;> first | (show 1 ≤ 100; omega) | (show 3 ≤ 100; omega))))
        rintro e wx ⟨_, rfl, ⟨f2, rfl, hf2⟩, hSz, hgz⟩
        have HS4 := Lib.hid (HS3b.out.src hSz hgz hlt)
        have HB4 := Lib.hid (arr_grown HB3b.out hgz (by omega))
        refine hK.out _ _ (HS4.out.2.2.2.1) (fun hHeld => ?_)
        clear hK K hSz hgz
        (try simp only [Act.put, List.setIfInBounds_toArray, List.set_cons_zero, List.set_cons_succ])
        refine wpAnyH_ready (rs := [4]) (by kernel_rfl) (by simp) ?_
        refine AllReadyH.cons rfl (fun K hK => ?_) AllReadyH.nil
        rw [if_pos (by rfl)]
        go_simp
        go_fit (spec_open d n ps p k w.heap.size f2 _ (by omega) (by omega) (fun x hx => ⟨by have := (hdw.2.2 x hx).1; omega, by have := (hdw.2.2 x hx).2; omega⟩) HS4.out.2.2.2.2 (by omega))
        rintro e wy ⟨⟨p5, k5, rfl, hv⟩, hb⟩
        have hdR := dlw_open hdw hf2 (n := n)
        obtain ⟨Q, hQ⟩ : ∃ Q, openR d n ps f2 = Q := ⟨_, rfl⟩
        rw [hQ] at hv hdR ⊢
        unfold doV
        have HS5 := Lib.hid (HS4.out.on hb)
        have HB5 := Lib.hid (arr_below HB4.out hb)
        have HV5 := Lib.hid (hv.mono (B' := w.heap.size) (by have := arr_lt HS4.out.2.2.1; omega))
        clear hQ hb hv
        refine hK.out _ _ (HS5.out.2.2.2.1) (fun hHeld => ?_)
        clear hK K
        (try simp only [Act.put, List.setIfInBounds_toArray, List.set_cons_zero, List.set_cons_succ])
        obtain ⟨⟨c0, c1, c2, c3, c4⟩, f0, f1, f2_, f3, f4⟩ := arr_five HB5.out
        refine wpAnyH_ready (rs := [5]) (by kernel_rfl) (by simp) ?_
        refine AllReadyH.cons rfl (fun K hK => ?_) AllReadyH.nil
        rw [if_pos (by rfl)]
        go_simp
        have hne5 := own_ne_box HV5.out HB5.out (by decide)
        have HS6 := Lib.hid (HS5.out.put5 hlt hb5 hB5 hne3 (.string Q.d) (.int .i64 Q.n) (.slice p5 Q.ps.length k5) (.int .i64 Q.i) (.int .i64 Q.c))
        have HB6 := Lib.hid (arr_put5 HB5.out (.string Q.d) (.int .i64 Q.n) (.slice p5 Q.ps.length k5) (.int .i64 Q.i) (.int .i64 Q.c))
        have HV6 := Lib.hid (own_put5 HV5.out hne5 (.string Q.d) (.int .i64 Q.n) (.slice p5 Q.ps.length k5) (.int .i64 Q.i) (.int .i64 Q.c))
        refine hK.out _ _ HS6.out.2.2.2.1 (fun hHeld => ?_)
        clear hK K c0 c1 c2 c3 c4 f0 f1 f2_ f3 f4
        (try simp only [Act.put, List.setIfInBounds_toArray, List.set_cons_zero, List.set_cons_succ])
        refine wpAnyH_done (by kernel_rfl) ?_ _
        have hz : ((((wy.setCell ⟨wr.heap.size, 0, none⟩ (.string Q.d)).setCell ⟨wr.heap.size, 1, none⟩ (.int .i64 Q.n)).setCell ⟨wr.heap.size, 2, none⟩ (.slice p5 Q.ps.length k5)).setCell ⟨wr.heap.size, 3, none⟩ (.int .i64 Q.i)).setCell ⟨wr.heap.size, 4, none⟩ (.int .i64 Q.c) = put5 wy wr.heap.size (.string Q.d) (.int .i64 Q.n) (.slice p5 Q.ps.length k5) (.int .i64 Q.i) (.int .i64 Q.c) := rfl
        rw [hz]
        clear hz
        generalize put5 wy wr.heap.size (.string Q.d) (.int .i64 Q.n) (.slice p5 Q.ps.length k5) (.int .i64 Q.i) (.int .i64 Q.c) = wz at HS6 HB6 HV6 ⊢
        obtain ⟨⟨c0, c1, c2, c3, c4⟩, _⟩ := arr_five HB6.out
        obtain ⟨o0, o1, o2, o3, o4, o5⟩ := arr_three HS6.out.2.2.2.1
        have hq1 : ¬ (wr.heap.size = w.heap.size + 1) := by omega
        have hq2 : ¬ (w.heap.size + 1 = wr.heap.size) := by omega
        obtain ⟨bq, hbq⟩ : ∃ b, (Q.c == 0) = b := ⟨_, rfl⟩
        cases bq
        · go_wp2
          go_roundw
          case rel => exact ⟨m - 1, by omega, by go_num, d, n, ps, p, k, hdw, HS6.out⟩
          case measure => simp [intOf]; omega
        · go_wp2
          go_roundw
          case rel => exact ⟨m - 1, by omega, by go_num, Q.d, Q.n, Q.ps, p5, k5, hdR, HS6.out.new hlt HV6.out⟩
          case measure => simp [intOf]; omega
    · obtain rfl : m = 0 := by omega
      go_wp2_with fail
      refine (src_one B g 20 _ (by omega) HDl.out.1).mono ?_
      rintro e w2 ⟨_, rfl, ⟨q, rfl⟩, hS2, hg2⟩
      have HS2 := Lib.hid (HDl.out.src hS2 hg2 hlt)
      clear hS2 hg2 hDl
      cases q
      · obtain ⟨o0, o1, o2, o3, o4, o5⟩ := arr_three HS2.out.2.2.2.1
        obtain ⟨z0, z1, z2, z3, z4, z5⟩ := arr_three HS2.out.2.2.1
        go_wp2
        exact bodyPost_ret (v := dbV d n p (ps).length k) (results_cell_row (P := Tryd.prog) Tryd.results20 _ _ w.heap.size 25 _ (0, 0) _ rfl (HS2.out.fin hlt).1 Tryd.underlying25 rfl (by kernel_rfl)) rfl ⟨⟨d, n, ps, p, k, rfl, hd1, (by omega), hdw.2.2, (HS2.out.fin hlt).2.1⟩, (HS2.out.fin hlt).2.2⟩
      · go_wp2_with fail
        refine (src_n B g 4 _ (by omega) HS2.out.1).mono ?_
        rintro e w3 ⟨_, rfl, ⟨r, rfl, h0, h1⟩, hS3, hg3⟩
        have HS3 := Lib.hid (HS2.out.src hS3 hg3 hlt)
        clear hS3 hg3
        by_cases hr0 : r = 0
        · subst hr0
          go_wp2_with fail
          refine (src_n B g 4 _ (by omega) (HS3.out.on ((Below.refl _ _).alloc (Nat.le_refl _) _)).1).mono ?_
          rintro e w4 ⟨_, rfl, ⟨r2, rfl, h20, h21⟩, hS4, hg4⟩
          obtain ⟨Rr, rfl⟩ : ∃ Rr : Nat, r2 = Rr := ⟨r2.toNat, by omega⟩
          have hr4 : (Rr : Int) < 4 := by omega
          have HS4 := Lib.hid ((HS3.out.on ((Below.refl _ _).alloc (Nat.le_refl _) _)).src hS4 hg4 hlt)
          obtain ⟨n4, hn4⟩ := int4_at (arr_grown (Arr.fresh w3 2 [.int .i64 0, .int .i64 1, .int .i64 1000000000, .int .i64 1000000001]) hg4 (by have := arr_lt HS3.out.2.2.1; omega)) h21
          clear hS4 hg4
          obtain ⟨o0, o1, o2, o3, o4, o5⟩ := arr_three HS4.out.2.2.2.1
          obtain ⟨z0, z1, z2, z3, z4, z5⟩ := arr_three HS4.out.2.2.1
          go_wp2
          exact bodyPost_ret (v := dbV d n4 p (ps).length k) (results_cell_row (P := Tryd.prog) Tryd.results20 _ _ w.heap.size 25 _ (0, 0) _ rfl ((HS4.out.putN hlt n4).fin hlt).1 Tryd.underlying25 rfl (by kernel_rfl)) rfl ⟨⟨d, n4, ps, p, k, rfl, hd1, (by omega), hdw.2.2, ((HS4.out.putN hlt n4).fin hlt).2.1⟩, ((HS4.out.putN hlt n4).fin hlt).2.2⟩
        have hr0' : (r == 0) = false := by rw [beq_eq_false_iff_ne]; exact hr0
        by_cases hr2 : r = 2
        · subst hr2
          obtain ⟨o0, o1, o2, o3, o4, o5⟩ := arr_three HS3.out.2.2.2.1
          obtain ⟨z0, z1, z2, z3, z4, z5⟩ := arr_three HS3.out.2.2.1
          go_wp2
          exact bodyPost_ret (v := dbV ⟨#[65]⟩ n p (ps).length k) (results_cell_row (P := Tryd.prog) Tryd.results20 _ _ w.heap.size 25 _ (0, 0) _ rfl ((HS3.out.putD hlt ⟨#[65]⟩).fin hlt).1 Tryd.underlying25 rfl (by kernel_rfl)) rfl ⟨⟨⟨#[65]⟩, n, ps, p, k, rfl, (by show 1 ≤ 100; omega), (by omega), hdw.2.2, ((HS3.out.putD hlt ⟨#[65]⟩).fin hlt).2.1⟩, ((HS3.out.putD hlt ⟨#[65]⟩).fin hlt).2.2⟩
        by_cases hr1 : r = 1
        · subst hr1
          have HE1 := Lib.hid (HS3.out.on ((Below.refl _ _).alloc (Nat.le_refl _) (.cells #[.string ⟨#[98]⟩, .int .i64 n, .int .i64 0, .string ⟨#[]⟩] 43)))
          have HR1 := Lib.hid (one_rowP w3 ⟨#[98]⟩ n)
          obtain ⟨o0, o1, o2, o3, o4, o5⟩ := arr_three HS3.out.2.2.2.1
          have hz3 := arr_lt HS3.out.2.2.2.1
          go_wp2_with (at_builtin; refine wpList_app_rowP rfl _ _ rfl w.heap.size _ ps rfl HE1.out.2.2.2.2 _ _ _ _ [zeroPr ⟨#[98]⟩ n] rfl HR1.out (by simp; omega) (by have := arr_lt HE1.out.2.2.1; omega) ?_; intro v' w5 ho hg; obtain ⟨q2, k2, hv, _⟩ := ho.row prC_len; subst hv; have HP := Lib.hid (HE1.out.putR hlt hg ho); clear ho hg o0 o1 o2 o3 o4 o5; obtain ⟨o0, o1, o2, o3, o4, o5⟩ := arr_three HP.out.1; obtain ⟨z0, z1, z2, z3, z4, z5⟩ := arr_three HP.out.2.1)
          have hl9 : (ps ++ [zeroPr ⟨#[98]⟩ n]).length = ps.length + 1 := by simp
          have hF := HP.out.2.2.fin hlt
          rw [hl9] at hF
          exact bodyPost_ret (v := dbV d n q2 (ps.length + 1) k2) (results_cell_row (P := Tryd.prog) Tryd.results20 _ _ w.heap.size 25 _ (0, 0) _ rfl hF.1 Tryd.underlying25 rfl (by kernel_rfl)) rfl ⟨⟨d, n, ps ++ [zeroPr ⟨#[98]⟩ n], q2, k2, by rw [hl9], hd1, (by rw [hl9]; omega), (fun x hx => by rcases List.mem_append.1 hx with hx | hx; exact hdw.2.2 x hx; obtain rfl := List.mem_singleton.1 hx; exact ⟨(show 1 ≤ 100 by omega), Nat.zero_le _⟩), by rw [hl9]; exact hF.2.1⟩, hF.2.2⟩
        have hr1' : (r == 1) = false := by rw [beq_eq_false_iff_ne]; exact hr1
        have hr2' : (r == 2) = false := by rw [beq_eq_false_iff_ne]; exact hr2
        obtain ⟨o0, o1, o2, o3, o4, o5⟩ := arr_three HS3.out.2.2.2.1
        obtain ⟨z0, z1, z2, z3, z4, z5⟩ := arr_three HS3.out.2.2.1
        rcases Nat.eq_zero_or_pos ps.length with hp0 | hp0
        · have hp0' : ¬ ((0 : Int) < (ps.length : Int)) := by omega
          clear hp0
          go_wp2
          exact bodyPost_ret (v := dbV d n p (ps).length k) (results_cell_row (P := Tryd.prog) Tryd.results20 _ _ w.heap.size 25 _ (0, 0) _ rfl (HS3.out.fin hlt).1 Tryd.underlying25 rfl (by kernel_rfl)) rfl ⟨⟨d, n, ps, p, k, rfl, hd1, (by omega), hdw.2.2, (HS3.out.fin hlt).2.1⟩, (HS3.out.fin hlt).2.2⟩
        · have hp0' : (0 : Int) < (ps.length : Int) := by omega
          obtain ⟨j, hj⟩ := own_some HS3.out.2.2.2.2 hp0
          subst hj
          go_wp2
          refine wp_region_held_drew (S := fun W => Arr W (w.heap.size + 1) 25 [.string d, .int .i64 n, .slice (some ⟨j, 0, none⟩) ps.length k]) (by kernel_rfl) HS3.out.2.2.2.1 (fun hHeld => ?_)
          have HS4 := Lib.hid (HS3.out.on (Below.refl _ _).drew)
          generalize World.drew _ = wd at HS4 hHeld ⊢
          refine takeQ (i := 0) (k := 56) (v := .pointer (some ⟨w.heap.size + 1, 2, none⟩)) rfl (by rfl) (by kernel_rfl) (by kernel_rfl) (by kernel_rfl) (fun _ _ _ h => h) (by rfl) ?_ hHeld ?_
          · intro w1 hSw; go_simp
          (try simp only [Act.put, List.setIfInBounds_toArray, List.set_cons_zero, List.set_cons_succ])
          refine takeQ (i := 1) (k := 57) (v := .slice (some ⟨j, 0, none⟩) ps.length k) rfl (by rfl) (by kernel_rfl) (by kernel_rfl) (by kernel_rfl) (fun _ _ _ h => h) (by rfl) ?_ hHeld ?_
          · intro w1 hSw; obtain ⟨m0, m1, m2, _⟩ := arr_three hSw; go_simp
          (try simp only [Act.put, List.setIfInBounds_toArray, List.set_cons_zero, List.set_cons_succ])
          refine takeQ (i := 2) (k := 58) (v := .pointer (some ⟨g, 0, none⟩)) rfl (by rfl) (by kernel_rfl) (by kernel_rfl) (by kernel_rfl) (fun _ _ _ h => h) (by rfl) ?_ hHeld ?_
          · intro w1 hSw; go_simp
          (try simp only [Act.put, List.setIfInBounds_toArray, List.set_cons_zero, List.set_cons_succ])
          refine wpAnyH_ready (rs := [3]) (by kernel_rfl) (by simp) ?_
          refine AllReadyH.cons rfl (fun K hK => ?_) AllReadyH.nil
          rw [if_pos (by rfl)]
          go_simp
          go_fit (src_n B g 5 _ (by omega) HS4.out.1)
          rintro e wx ⟨_, rfl, ⟨r5, rfl, h50, h51⟩, hSz, hgz⟩
          have HS5 := Lib.hid (HS4.out.src hSz hgz hlt)
          refine hK.out _ _ (HS5.out.2.2.2.1) (fun hHeld => ?_)
          clear hK K hSz hgz
          (try simp only [Act.put, List.setIfInBounds_toArray, List.set_cons_zero, List.set_cons_succ])
          refine takeQ (i := 4) (k := 60) (v := .pointer (some ⟨j, 0, none⟩)) rfl (by rfl) (by kernel_rfl) (by kernel_rfl) (by kernel_rfl) (fun _ _ _ h => h) (by rfl) ?_ hHeld ?_
          · intro w1 hSw; go_simp
          (try simp only [Act.put, List.setIfInBounds_toArray, List.set_cons_zero, List.set_cons_succ])
          refine takeQ (i := 5) (k := 61) (v := .pointer (some ⟨j, 2, none⟩)) rfl (by rfl) (by kernel_rfl) (by kernel_rfl) (by kernel_rfl) (fun _ _ _ h => h) (by rfl) ?_ hHeld ?_
          · intro w1 hSw; go_simp
          (try simp only [Act.put, List.setIfInBounds_toArray, List.set_cons_zero, List.set_cons_succ])
          obtain ⟨⟨uo, y0⟩, y1⟩ := own_at HS5.out.2.2.2.2 hp0 (j := 2) (by decide)
          simp only [Nat.zero_mul, Nat.zero_add] at y0 y1
          have HS6 := Lib.hid (HS5.out.putS hlt hp0 r5)
          simp only [Nat.zero_mul, Nat.zero_add] at HS6
          refine wpAnyH_ready (rs := [6]) (by kernel_rfl) (by simp) ?_
          refine AllReadyH.cons rfl (fun K hK => ?_) AllReadyH.nil
          rw [if_pos (by rfl)]
          go_simp
          refine hK.out _ _ (by have h := HS6.out.2.2.2.1; rw [List.length_set] at h; exact h) (fun hHeld => ?_)
          clear hK K
          (try simp only [Act.put, List.setIfInBounds_toArray, List.set_cons_zero, List.set_cons_succ])
          refine wpAnyH_done (by kernel_rfl) ?_ _
          clear o0 o1 o2 o3 o4 o5 z0 z1 z2 z3 z4 z5
          have hl6 : (ps.set 0 (prS ps[0] r5)).length = ps.length := List.length_set
          obtain ⟨o0, o1, o2, o3, o4, o5⟩ := arr_three HS6.out.2.2.2.1
          obtain ⟨z0, z1, z2, z3, z4, z5⟩ := arr_three HS6.out.2.2.1
          rw [hl6] at o2
          generalize wx.setCell _ _ = w7 at HS6 o0 o1 o2 o3 o4 o5 z0 z1 z2 z3 z4 z5 ⊢
          go_wp2
          rw [← hl6]
          exact bodyPost_ret (v := dbV d n (some ⟨j, 0, none⟩) (ps.set 0 (prS ps[0] r5)).length k) (results_cell_row (P := Tryd.prog) Tryd.results20 _ _ w.heap.size 25 _ (0, 0) _ rfl (HS6.out.fin hlt).1 Tryd.underlying25 rfl (by kernel_rfl)) rfl ⟨⟨d, n, ps.set 0 (prS ps[0] r5), (some ⟨j, 0, none⟩), k, rfl, hd1, (by rw [hl6]; omega), (fun x hx => by rcases List.mem_or_eq_of_mem_set hx with hx | rfl; exact hdw.2.2 x hx; exact hdw.2.2 ps[0] (List.getElem_mem hp0)), (HS6.out.fin hlt).2.1⟩, (HS6.out.fin hlt).2.2⟩
end Go.Proofs.YtkjkfcljejjpbaaDoor

namespace Go.Proofs.YtkjkfcljejjpbaaDoor
set_option linter.unusedSimpArgs false
set_option linter.unusedVariables false
open Go.RowKit Go.Joins

/-- The answer's box, the drawn dialback's box and row, the source. -/
def DwS (w W : World) (b : Nat) (d : ByteArray) (n : Int) (ps : List PrL) (p : Option Addr) (k : Nat) : Prop :=
  Src W (w.heap.size + 1) (w.heap.size + 1) ∧ Below w.heap.size w W ∧ Arr W w.heap.size 25 [.string ⟨#[]⟩, .int .i64 0, .slice none 0 0] ∧ Arr W b 25 [.string d, .int .i64 n, .slice p ps.length k] ∧ OwnC prC W (w.heap.size + 2) 43 4 (.slice p ps.length k) ps ∧ w.heap.size + 2 ≤ b
theorem DwS.on {w W W2 : World} {b : Nat} {d : ByteArray} {n : Int} {ps : List PrL} {p : Option Addr} {k : Nat} (h : DwS w W b d n ps p k) (hb : Below W.heap.size W W2) : DwS w W2 b d n ps p k :=
  ⟨h.1.on hb, h.2.1.trans (hb.mono h.2.1.size), arr_below h.2.2.1 hb, arr_below h.2.2.2.1 hb, h.2.2.2.2.1.on hb, h.2.2.2.2.2⟩
theorem DwS.src {w W W2 : World} {b : Nat} {d : ByteArray} {n : Int} {ps : List PrL} {p : Option Addr} {k : Nat} (h : DwS w W b d n ps p k) (hS : Src W2 (w.heap.size + 1) (w.heap.size + 1)) (hg : W.grownBy W2 (some (w.heap.size + 1))) : DwS w W2 b d n ps p k := by
  have := h.2.2.2.2.2
  exact ⟨hS, below_grown h.2.1 h.2.1.size hg (by omega), arr_grown h.2.2.1 hg (by omega), arr_grown h.2.2.2.1 hg (by omega), own_grown h.2.2.2.2.1 hg (by omega), this⟩
theorem DwS.fin {w W : World} {b : Nat} {d : ByteArray} {n : Int} {ps : List PrL} {p : Option Addr} {k : Nat} (h : DwS w W b d n ps p k) :
    Arr (((W.setCell ⟨w.heap.size, 0, none⟩ (.string d)).setCell ⟨w.heap.size, 1, none⟩ (.int .i64 n)).setCell ⟨w.heap.size, 2, none⟩ (.slice p ps.length k)) w.heap.size 25 [.string d, .int .i64 n, .slice p ps.length k] ∧
    OwnC prC (((W.setCell ⟨w.heap.size, 0, none⟩ (.string d)).setCell ⟨w.heap.size, 1, none⟩ (.int .i64 n)).setCell ⟨w.heap.size, 2, none⟩ (.slice p ps.length k)) w.heap.size 43 4 (.slice p ps.length k) ps ∧
    Below w.heap.size w (((W.setCell ⟨w.heap.size, 0, none⟩ (.string d)).setCell ⟨w.heap.size, 1, none⟩ (.int .i64 n)).setCell ⟨w.heap.size, 2, none⟩ (.slice p ps.length k)) ∧
    Arr (((W.setCell ⟨w.heap.size, 0, none⟩ (.string d)).setCell ⟨w.heap.size, 1, none⟩ (.int .i64 n)).setCell ⟨w.heap.size, 2, none⟩ (.slice p ps.length k)) b 25 [.string d, .int .i64 n, .slice p ps.length k] := by
  have hne := own_ne_box h.2.2.2.2.1 h.2.2.1 (by decide)
  have hne' : ∀ j, (Value.slice p ps.length k).ownBlock = some j → w.heap.size ≠ j := fun j hj => (hne j hj).symm
  have hb := h.2.2.2.2.2
  exact ⟨((h.2.2.1.put 0 _).put 1 _).put 2 _, (own_other (own_other (own_other h.2.2.2.2.1 hne') hne') hne').mono (by omega), below_three h.2.1 (Nat.le_refl _) _ _ _, arr_beside (arr_beside (arr_beside h.2.2.2.1 _ _ _ (by omega)) _ _ _ (by omega)) _ _ _ (by omega)⟩
set_option maxRecDepth 100000 in
set_option maxHeartbeats 1000000 in
theorem draw_open (a : Option Addr) (len cap : Nat) (w : World) (hlen : len ≤ 1048576) (hrow : SrcRow w w.heap.size a len) :
    Calls Tryd.prog 4 #[.slice a len cap] w fun e w' => (∃ d n ps p k f, e = .returned (.tuple #[dbV d n p ps.length k, .string f]) ∧ f.size ≤ 3 ∧ d.size ≤ 100 ∧ ps.length ≤ 11 ∧ (∀ x ∈ ps, x.d.size ≤ 100 ∧ x.k.size ≤ 100) ∧ OwnC prC w' w.heap.size 43 4 (.slice p ps.length k) ps) ∧ Below w.heap.size w w' := by
  have HR := Lib.hid hrow
  clear hrow
  go_enter Tryd.func4, Tryd.ntmps4
  go_wp2_with fail
  refine (src_source a len cap _ hlen (HR.out.lift ((Below.refl _ _).alloc (Nat.le_refl _) _) (by simp))).mono ?_
  rintro e w1 ⟨rfl, hS1, hb1⟩
  have hA1 : Arr w1 w.heap.size 25 [.string ⟨#[]⟩, .int .i64 0, .slice none 0 0] := (hb1.block w.heap.size (by simp)).trans (Arr.fresh w _ _)
  have hbw : Below w.heap.size w w1 := below_one hb1
  rw [World.size_alloc] at hS1
  have hsz1 := hS1.lt
  clear hb1
  go_wp2_with fail
  refine (draw_db (w.heap.size + 1) (w.heap.size + 1) w1 hS1).mono ?_
  rintro e w2 ⟨⟨d, n, ps, p, k, rfl, hd, hl, hw, ho⟩, hS2, hg2⟩
  unfold dbV
  have hbw2 : Below w.heap.size w w2 := below_grown hbw hbw.size hg2 (by omega)
  have hA2 := arr_grown hA1 hg2 (by omega)
  have hsz2 : w.heap.size + 1 < w2.heap.size := hS2.lt
  have HW0 : Hid (DwS w (w2.alloc (.cells #[.string d, .int .i64 n, .slice p ps.length k] 25)) w2.heap.size d n ps p k) := Lib.hid ⟨hS2.alloc _, hbw2.alloc hbw2.size _, arr_alloc hA2 _, Arr.fresh w2 _ [.string d, .int .i64 n, .slice p ps.length k], (ho.mono (by omega)).alloc _, by omega⟩
  clear hS2 hbw2 hA2 ho hg2 hS1 hA1 hbw
  go_wp2
  refine wp_region_held_drew (S := fun W => Arr W w2.heap.size 25 [.string d, .int .i64 n, .slice p ps.length k]) (by kernel_rfl) HW0.out.2.2.2.1 (fun hHeld => ?_)
  have HW1 := Lib.hid (HW0.out.on (Below.refl _ _).drew)
  generalize World.drew _ = wd at HW1 hHeld ⊢
  clear HW0
  refine takeQ (i := 0) (k := 10) (v := .agg #[.string d, .int .i64 n, .slice p ps.length k]) rfl (by rfl) (by kernel_rfl) (by kernel_rfl) (by kernel_rfl) (fun _ _ _ h => h) (by rfl) ?_ hHeld ?_
  · intro w1 hSw; obtain ⟨m0, m1, m2, _⟩ := arr_three hSw; go_simp
  (try simp only [Act.put, List.setIfInBounds_toArray, List.set_cons_zero, List.set_cons_succ])
  refine takeQ (i := 1) (k := 11) (v := .pointer (some ⟨w.heap.size + 1, 0, none⟩)) rfl (by rfl) (by kernel_rfl) (by kernel_rfl) (by kernel_rfl) (fun _ _ _ h => h) (by rfl) ?_ hHeld ?_
  · intro w1 hSw; go_simp
  (try simp only [Act.put, List.setIfInBounds_toArray, List.set_cons_zero, List.set_cons_succ])
  refine wpAnyH_ready (rs := [2]) (by kernel_rfl) (by simp) ?_
  refine AllReadyH.cons rfl (fun K hK => ?_) AllReadyH.nil
  rw [if_pos (by rfl)]
  go_simp
  have HW2 := Lib.hid (HW1.out.on ((Below.refl _ _).alloc (Nat.le_refl _) (.cells #[.string ⟨#[98]⟩, .string ⟨#[120, 46, 121]⟩, .string ⟨#[65]⟩] 9)))
  refine hK.out _ _ (HW2.out.2.2.2.1) (fun hHeld => ?_)
  clear hK K
  (try simp only [Act.put, List.setIfInBounds_toArray, List.set_cons_zero, List.set_cons_succ])
  refine wpAnyH_ready (rs := [3]) (by kernel_rfl) (by simp) ?_
  refine AllReadyH.cons rfl (fun K hK => ?_) AllReadyH.nil
  rw [if_pos (by rfl)]
  go_simp
  go_fit (src_pick (w.heap.size + 1) (w.heap.size + 1) wd.heap.size 3 3 _ (by omega) (by omega) HW2.out.1 (by have := HW1.out.1.lt; omega) (strRow_at wd 9 3 wd.heap.size [⟨#[98]⟩, ⟨#[120, 46, 121]⟩, ⟨#[65]⟩] rfl (by intro s hs; simp only [List.mem_cons, List.not_mem_nil, or_false] at hs; rcases hs with rfl | rfl | rfl <;> first | (show 1 ≤ 3; omega) | (show 3 ≤ 3; omega))))
  rintro e wx ⟨_, rfl, ⟨f, rfl, hf⟩, hSz, hgz⟩
  have HW3 := Lib.hid (HW2.out.src hSz hgz)
  refine hK.out _ _ (HW3.out.2.2.2.1) (fun hHeld => ?_)
  clear hK K hSz hgz
  (try simp only [Act.put, List.setIfInBounds_toArray, List.set_cons_zero, List.set_cons_succ])
  obtain ⟨z0, z1, z2, z3, z4, z5⟩ := arr_three HW3.out.2.2.1
  refine wpAnyH_ready (rs := [4]) (by kernel_rfl) (by simp) ?_
  refine AllReadyH.cons rfl (fun K hK => ?_) AllReadyH.nil
  rw [if_pos (by rfl)]
  go_simp
  refine hK.out _ _ (HW3.out.fin.2.2.2) (fun hHeld => ?_)
  clear hK K
  (try simp only [Act.put, List.setIfInBounds_toArray, List.set_cons_zero, List.set_cons_succ])
  refine takeQ (i := 5) (k := 3) (v := .string f) rfl (by rfl) (by kernel_rfl) (by kernel_rfl) (by kernel_rfl) (fun _ _ _ h => h) (by rfl) ?_ hHeld ?_
  · intro w1 hSw; go_simp
  (try simp only [Act.put, List.setIfInBounds_toArray, List.set_cons_zero, List.set_cons_succ])
  refine wpAnyH_done (by kernel_rfl) ?_ _
  have hF := HW3.out.fin
  obtain ⟨y0, y1, y2, _⟩ := arr_three hF.1
  clear z0 z1 z2 z3 z4 z5
  generalize ((wx.setCell ⟨w.heap.size, 0, none⟩ (.string d)).setCell ⟨w.heap.size, 1, none⟩ (.int .i64 n)).setCell ⟨w.heap.size, 2, none⟩ (.slice p ps.length k) = wf at hF y0 y1 y2 ⊢
  go_wp2
  exact bodyPost_ret (v := .tuple #[.agg #[.string d, .int .i64 n, .slice p ps.length k], .string f]) (by simp [results, Tryd.results4, go_sem, y0, y1, y2]) rfl ⟨⟨d, n, ps, p, k, f, rfl, hf, hd, hl, hw, hF.2.1⟩, hF.2.2.1⟩
set_option maxRecDepth 100000 in
set_option maxHeartbeats 1000000 in
theorem draw_verified (a : Option Addr) (len cap : Nat) (w : World) (hlen : len ≤ 1048576) (hrow : SrcRow w w.heap.size a len) :
    Calls Tryd.prog 8 #[.slice a len cap] w fun e w' => (∃ d n ps p k id good, e = .returned (.tuple #[dbV d n p ps.length k, .int .i64 id, .bool good]) ∧ d.size ≤ 100 ∧ ps.length ≤ 11 ∧ (∀ x ∈ ps, x.d.size ≤ 100 ∧ x.k.size ≤ 100) ∧ OwnC prC w' w.heap.size 43 4 (.slice p ps.length k) ps) ∧ Below w.heap.size w w' := by
  have HR := Lib.hid hrow
  clear hrow
  go_enter Tryd.func8, Tryd.ntmps8
  go_wp2_with fail
  refine (src_source a len cap _ hlen (HR.out.lift ((Below.refl _ _).alloc (Nat.le_refl _) _) (by simp))).mono ?_
  rintro e w1 ⟨rfl, hS1, hb1⟩
  have hA1 : Arr w1 w.heap.size 25 [.string ⟨#[]⟩, .int .i64 0, .slice none 0 0] := (hb1.block w.heap.size (by simp)).trans (Arr.fresh w _ _)
  have hbw : Below w.heap.size w w1 := below_one hb1
  rw [World.size_alloc] at hS1
  have hsz1 := hS1.lt
  clear hb1
  go_wp2_with fail
  refine (draw_db (w.heap.size + 1) (w.heap.size + 1) w1 hS1).mono ?_
  rintro e w2 ⟨⟨d, n, ps, p, k, rfl, hd, hl, hw, ho⟩, hS2, hg2⟩
  unfold dbV
  have hbw2 : Below w.heap.size w w2 := below_grown hbw hbw.size hg2 (by omega)
  have hA2 := arr_grown hA1 hg2 (by omega)
  have hsz2 : w.heap.size + 1 < w2.heap.size := hS2.lt
  have HW0 : Hid (DwS w (w2.alloc (.cells #[.string d, .int .i64 n, .slice p ps.length k] 25)) w2.heap.size d n ps p k) := Lib.hid ⟨hS2.alloc _, hbw2.alloc hbw2.size _, arr_alloc hA2 _, Arr.fresh w2 _ [.string d, .int .i64 n, .slice p ps.length k], (ho.mono (by omega)).alloc _, by omega⟩
  clear hS2 hbw2 hA2 ho hg2 hS1 hA1 hbw
  go_wp2_with fail
  refine (src_n (w.heap.size + 1) (w.heap.size + 1) 6 _ (by omega) HW0.out.1).mono ?_
  rintro e w3 ⟨_, rfl, ⟨r, rfl, h0, h1⟩, hS3, hg3⟩
  have hr6 : r < 6 := by omega
  have HWb := Lib.hid (HW0.out.src hS3 hg3)
  clear hS3 hg3 HW0
  go_wp2
  refine wp_region_held_drew (S := fun W => Arr W w2.heap.size 25 [.string d, .int .i64 n, .slice p ps.length k]) (by kernel_rfl) HWb.out.2.2.2.1 (fun hHeld => ?_)
  have HW1 := Lib.hid (HWb.out.on (Below.refl _ _).drew)
  generalize World.drew _ = wd at HW1 hHeld ⊢
  clear HWb
  refine takeQ (i := 0) (k := 15) (v := .agg #[.string d, .int .i64 n, .slice p ps.length k]) rfl (by rfl) (by kernel_rfl) (by kernel_rfl) (by kernel_rfl) (fun _ _ _ h => h) (by rfl) ?_ hHeld ?_
  · intro w1 hSw; obtain ⟨m0, m1, m2, _⟩ := arr_three hSw; go_simp
  (try simp only [Act.put, List.setIfInBounds_toArray, List.set_cons_zero, List.set_cons_succ])
  refine takeQ (i := 1) (k := 16) (v := .int .i64 (1 + r)) rfl (by rfl) (by kernel_rfl) (by kernel_rfl) (by kernel_rfl) (fun _ _ _ h => h) (by rfl) ?_ hHeld ?_
  · intro w1 hSw; go_simp
  (try simp only [Act.put, List.setIfInBounds_toArray, List.set_cons_zero, List.set_cons_succ])
  refine takeQ (i := 2) (k := 17) (v := .pointer (some ⟨w.heap.size + 1, 0, none⟩)) rfl (by rfl) (by kernel_rfl) (by kernel_rfl) (by kernel_rfl) (fun _ _ _ h => h) (by rfl) ?_ hHeld ?_
  · intro w1 hSw; go_simp
  (try simp only [Act.put, List.setIfInBounds_toArray, List.set_cons_zero, List.set_cons_succ])
  refine wpAnyH_ready (rs := [3]) (by kernel_rfl) (by simp) ?_
  refine AllReadyH.cons rfl (fun K hK => ?_) AllReadyH.nil
  rw [if_pos (by rfl)]
  go_simp
  go_fit (src_one (w.heap.size + 1) (w.heap.size + 1) 2 _ (by omega) HW1.out.1)
  rintro e wx ⟨_, rfl, ⟨q, rfl⟩, hSz, hgz⟩
  have HW3 := Lib.hid (HW1.out.src hSz hgz)
  refine hK.out _ _ (HW3.out.2.2.2.1) (fun hHeld => ?_)
  clear hK K hSz hgz
  (try simp only [Act.put, List.setIfInBounds_toArray, List.set_cons_zero, List.set_cons_succ])
  obtain ⟨z0, z1, z2, z3, z4, z5⟩ := arr_three HW3.out.2.2.1
  refine wpAnyH_ready (rs := [4]) (by kernel_rfl) (by simp) ?_
  refine AllReadyH.cons rfl (fun K hK => ?_) AllReadyH.nil
  rw [if_pos (by rfl)]
  go_simp
  refine hK.out _ _ (HW3.out.fin.2.2.2) (fun hHeld => ?_)
  clear hK K
  (try simp only [Act.put, List.setIfInBounds_toArray, List.set_cons_zero, List.set_cons_succ])
  refine takeQ (i := 5) (k := 3) (v := .int .i64 (1 + r)) rfl (by rfl) (by kernel_rfl) (by kernel_rfl) (by kernel_rfl) (fun _ _ _ h => h) (by rfl) ?_ hHeld ?_
  · intro w1 hSw; go_simp
  (try simp only [Act.put, List.setIfInBounds_toArray, List.set_cons_zero, List.set_cons_succ])
  refine takeQ (i := 6) (k := 4) (v := .bool q) rfl (by rfl) (by kernel_rfl) (by kernel_rfl) (by kernel_rfl) (fun _ _ _ h => h) (by rfl) ?_ hHeld ?_
  · intro w1 hSw; go_simp
  (try simp only [Act.put, List.setIfInBounds_toArray, List.set_cons_zero, List.set_cons_succ])
  refine wpAnyH_done (by kernel_rfl) ?_ _
  have hF := HW3.out.fin
  obtain ⟨y0, y1, y2, _⟩ := arr_three hF.1
  clear z0 z1 z2 z3 z4 z5
  generalize ((wx.setCell ⟨w.heap.size, 0, none⟩ (.string d)).setCell ⟨w.heap.size, 1, none⟩ (.int .i64 n)).setCell ⟨w.heap.size, 2, none⟩ (.slice p ps.length k) = wf at hF y0 y1 y2 ⊢
  go_wp2
  exact bodyPost_ret (v := .tuple #[.agg #[.string d, .int .i64 n, .slice p ps.length k], .int .i64 (1 + r), .bool q]) (by simp [results, Tryd.results8, go_sem, y0, y1, y2]) rfl ⟨⟨d, n, ps, p, k, 1 + r, q, rfl, hd, hl, hw, hF.2.1⟩, hF.2.2.1⟩
end Go.Proofs.YtkjkfcljejjpbaaDoor

namespace Go.Proofs.YtkjkfcljejjpbaaDoor
set_option linter.unusedSimpArgs false
set_option linter.unusedVariables false
open Go.RowKit Go.Joins

theorem zero_arr2 (w : World) (n : Nat) : Arr (w.alloc (.cells (madeCells #[.int .u8 0] n) 5)) w.heap.size 5 ((List.replicate n (0 : UInt8)).map byteV) := by
  have h : Arr (w.alloc (.cells (madeCells #[.int .u8 0] n) 5)) w.heap.size 5 (madeCells #[.int .u8 0] n).toList := heap_alloc_new w _
  rw [madeCells_zero] at h
  exact h
theorem conv_zero2 (W : World) (b n : Nat) (hA : Arr W b 5 ((List.replicate n (0 : UInt8)).map byteV)) : (convert 22 9 (.slice (some ⟨b, 0, none⟩) n n)).run Tryd.prog W = .ok (.string (strOf (List.replicate n 0))) W := by
  refine run_string_arr (P := Tryd.prog) _ 22 9 5 b 5 n n _ (List.replicate n 0) hA ?_ (by simp) Tryd.underlying22 Tryd.underlying5 Tryd.underlying9
  unfold Heads
  exact List.take_of_length_le (by simp)
theorem make_zero2 (n : Nat) (hn : n ≤ 1000) (u : World) : (Instr.makeSlice 22 (.int .i64 (n : Int)) (.int .i64 (n : Int))).run Tryd.prog u =
      .ok (.slice (some ⟨u.heap.size, 0, none⟩) n n) (u.alloc (.cells (madeCells #[.int .u8 0] n) 5)) := by
  obtain ⟨i0, hi, hz0, hz1, hz2⟩ := info_parts info_u8d
  have h := run_make (P := Tryd.prog) u 22 5 i0 (.int .u8 0) Tryd.underlying22 hi hz0 .i64 .i64 (n : Int) (n : Int) (by omega) (Int.le_refl _) (by rw [hz2]; omega) (by omega)
  rw [h]
  simp [hz1, Value.cells]
theorem key_row (wy : World) (y1 y2 : ByteArray) (h1 : y1.size ≤ 65) (h2 : y2.size ≤ 65) : StrRow (wy.alloc (.cells #[.string ⟨#[107]⟩, .string ⟨#[107, 101, 121]⟩, .string ⟨#[]⟩, .string y1, .string y2] 9)) wy.heap.size 5 65 :=
  strRow_at wy 9 65 wy.heap.size [⟨#[107]⟩, ⟨#[107, 101, 121]⟩, ⟨#[]⟩, y1, y2] rfl (by
    intro s hs
    simp only [List.mem_cons, List.not_mem_nil, or_false] at hs
    rcases hs with rfl | rfl | rfl | rfl | rfl
    · show 1 ≤ 65; omega
    · show 3 ≤ 65; omega
    · show 0 ≤ 65; omega
    · exact h1
    · exact h2)
set_option maxRecDepth 100000 in
set_option maxHeartbeats 3000000 in
theorem draw_result (a : Option Addr) (len cap : Nat) (w : World) (hlen : len ≤ 1048576) (hrow : SrcRow w w.heap.size a len) :
    Calls Tryd.prog 6 #[.slice a len cap] w fun e w' => (∃ d n ps p k id key, e = .returned (.tuple #[dbV d n p ps.length k, .int .i64 id, .string key]) ∧ key.size ≤ 65 ∧ d.size ≤ 100 ∧ ps.length ≤ 11 ∧ (∀ x ∈ ps, x.d.size ≤ 100 ∧ x.k.size ≤ 100) ∧ OwnC prC w' w.heap.size 43 4 (.slice p ps.length k) ps) ∧ Below w.heap.size w w' := by
  have hm1 : ∀ u : World, (Instr.makeSlice 22 (.int .i64 64) (.int .i64 64)).run Tryd.prog u = .ok (.slice (some ⟨u.heap.size, 0, none⟩) 64 64) (u.alloc (.cells (madeCells #[.int .u8 0] 64) 5)) := fun u => make_zero2 64 (by omega) u
  have hm2 : ∀ u : World, (Instr.makeSlice 22 (.int .i64 65) (.int .i64 65)).run Tryd.prog u = .ok (.slice (some ⟨u.heap.size, 0, none⟩) 65 65) (u.alloc (.cells (madeCells #[.int .u8 0] 65) 5)) := fun u => make_zero2 65 (by omega) u
  have hq1 := fun W b h => conv_zero2 W b 64 h
  have hq2 := fun W b h => conv_zero2 W b 65 h
  have ha1 := fun W => zero_arr2 W 64
  have ha2 := fun W => zero_arr2 W 65
  obtain ⟨y1, hy1⟩ : ∃ z, strOf (List.replicate 64 0) = z := ⟨_, rfl⟩
  obtain ⟨y2, hy2⟩ : ∃ z, strOf (List.replicate 65 0) = z := ⟨_, rfl⟩
  have hyy : y1.size ≤ 65 ∧ y2.size ≤ 65 := by rw [← hy1, ← hy2, strOf_size, strOf_size, List.length_replicate, List.length_replicate]; omega
  rw [hy1] at hq1
  rw [hy2] at hq2
  obtain ⟨L1, hL1⟩ : ∃ L, (List.replicate 64 (0 : UInt8)).map byteV = L := ⟨_, rfl⟩
  obtain ⟨L2, hL2⟩ : ∃ L, (List.replicate 65 (0 : UInt8)).map byteV = L := ⟨_, rfl⟩
  obtain ⟨M1, hM1⟩ : ∃ L, madeCells #[Value.int .u8 0] 64 = L := ⟨_, rfl⟩
  obtain ⟨M2, hM2⟩ : ∃ L, madeCells #[Value.int .u8 0] 65 = L := ⟨_, rfl⟩
  rw [hL1] at hq1 ha1
  rw [hL2] at hq2 ha2
  rw [hM1] at hm1 ha1
  rw [hM2] at hm2 ha2
  clear hy1 hy2 hL1 hL2 hM1 hM2
  have HR := Lib.hid hrow
  clear hrow
  go_enter Tryd.func6, Tryd.ntmps6
  go_wp2_with fail
  refine (src_source a len cap _ hlen (HR.out.lift ((Below.refl _ _).alloc (Nat.le_refl _) _) (by simp))).mono ?_
  rintro e w1 ⟨rfl, hS1, hb1⟩
  have hA1 : Arr w1 w.heap.size 25 [.string ⟨#[]⟩, .int .i64 0, .slice none 0 0] := (hb1.block w.heap.size (by simp)).trans (Arr.fresh w _ _)
  have hbw : Below w.heap.size w w1 := below_one hb1
  rw [World.size_alloc] at hS1
  have hsz1 := hS1.lt
  clear hb1
  go_wp2_with fail
  refine (draw_db (w.heap.size + 1) (w.heap.size + 1) w1 hS1).mono ?_
  rintro e w2 ⟨⟨d, n, ps, p, k, rfl, hd, hl, hw, ho⟩, hS2, hg2⟩
  unfold dbV
  have hbw2 : Below w.heap.size w w2 := below_grown hbw hbw.size hg2 (by omega)
  have hA2 := arr_grown hA1 hg2 (by omega)
  have hsz2 : w.heap.size + 1 < w2.heap.size := hS2.lt
  have HW0 : Hid (DwS w (w2.alloc (.cells #[.string d, .int .i64 n, .slice p ps.length k] 25)) w2.heap.size d n ps p k) := Lib.hid ⟨hS2.alloc _, hbw2.alloc hbw2.size _, arr_alloc hA2 _, Arr.fresh w2 _ [.string d, .int .i64 n, .slice p ps.length k], (ho.mono (by omega)).alloc _, by omega⟩
  clear hS2 hbw2 hA2 ho hg2 hS1 hA1 hbw
  go_wp2_with fail
  refine (src_n (w.heap.size + 1) (w.heap.size + 1) 6 _ (by omega) HW0.out.1).mono ?_
  rintro e w3 ⟨_, rfl, ⟨r, rfl, h0, h1⟩, hS3, hg3⟩
  have hr6 : r < 6 := by omega
  have HWb := Lib.hid (HW0.out.src hS3 hg3)
  clear hS3 hg3 HW0
  go_wp2
  refine wp_region_held_drew (S := fun W => Arr W w2.heap.size 25 [.string d, .int .i64 n, .slice p ps.length k]) (by kernel_rfl) HWb.out.2.2.2.1 (fun hHeld => ?_)
  have HW1 := Lib.hid (HWb.out.on (Below.refl _ _).drew)
  generalize World.drew _ = wd at HW1 hHeld ⊢
  clear HWb
  refine takeQ (i := 0) (k := 15) (v := .agg #[.string d, .int .i64 n, .slice p ps.length k]) rfl (by rfl) (by kernel_rfl) (by kernel_rfl) (by kernel_rfl) (fun _ _ _ h => h) (by rfl) ?_ hHeld ?_
  · intro w1 hSw; obtain ⟨m0, m1, m2, _⟩ := arr_three hSw; go_simp
  (try simp only [Act.put, List.setIfInBounds_toArray, List.set_cons_zero, List.set_cons_succ])
  refine takeQ (i := 1) (k := 16) (v := .int .i64 (1 + r)) rfl (by rfl) (by kernel_rfl) (by kernel_rfl) (by kernel_rfl) (fun _ _ _ h => h) (by rfl) ?_ hHeld ?_
  · intro w1 hSw; go_simp
  (try simp only [Act.put, List.setIfInBounds_toArray, List.set_cons_zero, List.set_cons_succ])
  refine takeQ (i := 2) (k := 17) (v := .pointer (some ⟨w.heap.size + 1, 0, none⟩)) rfl (by rfl) (by kernel_rfl) (by kernel_rfl) (by kernel_rfl) (fun _ _ _ h => h) (by rfl) ?_ hHeld ?_
  · intro w1 hSw; go_simp
  (try simp only [Act.put, List.setIfInBounds_toArray, List.set_cons_zero, List.set_cons_succ])
  refine wpAnyH_ready (rs := [3, 5]) (by kernel_rfl) (by simp) ?_
  refine AllReadyH.cons rfl (fun K hK => ?_) (AllReadyH.cons rfl (fun K hK => ?_) AllReadyH.nil)
  · rw [if_pos (by rfl)]
    go_simp
    refine hK.out _ _ ((HW1.out.on ((Below.refl _ _).alloc (Nat.le_refl _) (.cells M1 5))).2.2.2.1) (fun hHeld => ?_)
    clear hK K
    (try simp only [Act.put, List.setIfInBounds_toArray, List.set_cons_zero, List.set_cons_succ])
    refine wpAnyH_ready (rs := [4, 5]) (by kernel_rfl) (by simp) ?_
    refine AllReadyH.cons rfl (fun K hK => ?_) (AllReadyH.cons rfl (fun K hK => ?_) AllReadyH.nil)
    · rw [if_pos (by rfl)]
      have hcv := hq1 (wd.alloc (.cells M1 5)) (wd.heap.size) (ha1 wd)
      go_simp
      clear hcv
      refine hK.out _ _ ((HW1.out.on ((Below.refl _ _).alloc (Nat.le_refl _) (.cells M1 5))).2.2.2.1) (fun hHeld => ?_)
      clear hK K
      (try simp only [Act.put, List.setIfInBounds_toArray, List.set_cons_zero, List.set_cons_succ])
      refine wpAnyH_ready (rs := [5]) (by kernel_rfl) (by simp) ?_
      refine AllReadyH.cons rfl (fun K hK => ?_) AllReadyH.nil
      rw [if_pos (by rfl)]
      go_simp
      refine hK.out _ _ (((HW1.out.on ((Below.refl _ _).alloc (Nat.le_refl _) (.cells M1 5))).on ((Below.refl _ _).alloc (Nat.le_refl _) (.cells M2 5))).2.2.2.1) (fun hHeld => ?_)
      clear hK K
      (try simp only [Act.put, List.setIfInBounds_toArray, List.set_cons_zero, List.set_cons_succ])
      refine wpAnyH_ready (rs := [6]) (by kernel_rfl) (by simp) ?_
      refine AllReadyH.cons rfl (fun K hK => ?_) AllReadyH.nil
      rw [if_pos (by rfl)]
      have hcv := hq2 ((wd.alloc (.cells M1 5)).alloc (.cells M2 5)) (wd.heap.size + 1) ((by have h := ha2 (wd.alloc (.cells M1 5)); rw [World.size_alloc] at h; exact h))
      go_simp
      clear hcv
      refine hK.out _ _ (((HW1.out.on ((Below.refl _ _).alloc (Nat.le_refl _) (.cells M1 5))).on ((Below.refl _ _).alloc (Nat.le_refl _) (.cells M2 5))).2.2.2.1) (fun hHeld => ?_)
      clear hK K
      (try simp only [Act.put, List.setIfInBounds_toArray, List.set_cons_zero, List.set_cons_succ])
      have HW2 := Lib.hid ((HW1.out.on ((Below.refl _ _).alloc (Nat.le_refl _) (.cells M1 5))).on ((Below.refl _ _).alloc (Nat.le_refl _) (.cells M2 5)))
      generalize ((wd.alloc (.cells M1 5)).alloc (.cells M2 5)) = wy at HW2 hHeld ⊢
      refine wpAnyH_ready (rs := [7]) (by kernel_rfl) (by simp) ?_
      refine AllReadyH.cons rfl (fun K hK => ?_) AllReadyH.nil
      rw [if_pos (by rfl)]
      go_simp
      have HW2a := Lib.hid (HW2.out.on ((Below.refl _ _).alloc (Nat.le_refl _) (.cells #[.string ⟨#[107]⟩, .string ⟨#[107, 101, 121]⟩, .string ⟨#[]⟩, .string y1, .string y2] 9)))
      refine hK.out _ _ (HW2a.out.2.2.2.1) (fun hHeld => ?_)
      clear hK K
      (try simp only [Act.put, List.setIfInBounds_toArray, List.set_cons_zero, List.set_cons_succ])
      refine wpAnyH_ready (rs := [8]) (by kernel_rfl) (by simp) ?_
      refine AllReadyH.cons rfl (fun K hK => ?_) AllReadyH.nil
      rw [if_pos (by rfl)]
      go_simp
      go_fit (src_pick (w.heap.size + 1) (w.heap.size + 1) wy.heap.size 5 65 _ (by omega) (by omega) HW2a.out.1 (by have := HW2.out.1.lt; omega) (key_row wy y1 y2 hyy.1 hyy.2))
      rintro e wx ⟨_, rfl, ⟨f, rfl, hf⟩, hSz, hgz⟩
      have HW3 := Lib.hid (HW2a.out.src hSz hgz)
      refine hK.out _ _ (HW3.out.2.2.2.1) (fun hHeld => ?_)
      clear hK K hSz hgz
      (try simp only [Act.put, List.setIfInBounds_toArray, List.set_cons_zero, List.set_cons_succ])
      obtain ⟨z0, z1, z2, z3, z4, z5⟩ := arr_three HW3.out.2.2.1
      refine wpAnyH_ready (rs := [9]) (by kernel_rfl) (by simp) ?_
      refine AllReadyH.cons rfl (fun K hK => ?_) AllReadyH.nil
      rw [if_pos (by rfl)]
      go_simp
      refine hK.out _ _ (HW3.out.fin.2.2.2) (fun hHeld => ?_)
      clear hK K
      (try simp only [Act.put, List.setIfInBounds_toArray, List.set_cons_zero, List.set_cons_succ])
      refine takeQ (i := 10) (k := 3) (v := .int .i64 (1 + r)) rfl (by rfl) (by kernel_rfl) (by kernel_rfl) (by kernel_rfl) (fun _ _ _ h => h) (by rfl) ?_ hHeld ?_
      · intro w1 hSw; go_simp
      (try simp only [Act.put, List.setIfInBounds_toArray, List.set_cons_zero, List.set_cons_succ])
      refine takeQ (i := 11) (k := 4) (v := .string f) rfl (by rfl) (by kernel_rfl) (by kernel_rfl) (by kernel_rfl) (fun _ _ _ h => h) (by rfl) ?_ hHeld ?_
      · intro w1 hSw; go_simp
      (try simp only [Act.put, List.setIfInBounds_toArray, List.set_cons_zero, List.set_cons_succ])
      refine wpAnyH_done (by kernel_rfl) ?_ _
      have hF := HW3.out.fin
      obtain ⟨x0, x1, x2, _⟩ := arr_three hF.1
      clear z0 z1 z2 z3 z4 z5
      generalize ((wx.setCell ⟨w.heap.size, 0, none⟩ (.string d)).setCell ⟨w.heap.size, 1, none⟩ (.int .i64 n)).setCell ⟨w.heap.size, 2, none⟩ (.slice p ps.length k) = wf at hF x0 x1 x2 ⊢
      go_wp2
      exact bodyPost_ret (v := .tuple #[.agg #[.string d, .int .i64 n, .slice p ps.length k], .int .i64 (1 + r), .string f]) (by simp [results, Tryd.results6, go_sem, x0, x1, x2]) rfl ⟨⟨d, n, ps, p, k, 1 + r, f, rfl, hf, hd, hl, hw, hF.2.1⟩, hF.2.2.1⟩
    · rw [if_pos (by rfl)]
      go_simp
      refine hK.out _ _ (((HW1.out.on ((Below.refl _ _).alloc (Nat.le_refl _) (.cells M1 5))).on ((Below.refl _ _).alloc (Nat.le_refl _) (.cells M2 5))).2.2.2.1) (fun hHeld => ?_)
      clear hK K
      (try simp only [Act.put, List.setIfInBounds_toArray, List.set_cons_zero, List.set_cons_succ])
      refine wpAnyH_ready (rs := [4, 6]) (by kernel_rfl) (by simp) ?_
      refine AllReadyH.cons rfl (fun K hK => ?_) (AllReadyH.cons rfl (fun K hK => ?_) AllReadyH.nil)
      · rw [if_pos (by rfl)]
        have hcv := hq1 ((wd.alloc (.cells M1 5)).alloc (.cells M2 5)) (wd.heap.size) ((ha1 wd).alloc _)
        go_simp
        clear hcv
        refine hK.out _ _ (((HW1.out.on ((Below.refl _ _).alloc (Nat.le_refl _) (.cells M1 5))).on ((Below.refl _ _).alloc (Nat.le_refl _) (.cells M2 5))).2.2.2.1) (fun hHeld => ?_)
        clear hK K
        (try simp only [Act.put, List.setIfInBounds_toArray, List.set_cons_zero, List.set_cons_succ])
        refine wpAnyH_ready (rs := [6]) (by kernel_rfl) (by simp) ?_
        refine AllReadyH.cons rfl (fun K hK => ?_) AllReadyH.nil
        rw [if_pos (by rfl)]
        have hcv := hq2 ((wd.alloc (.cells M1 5)).alloc (.cells M2 5)) (wd.heap.size + 1) ((by have h := ha2 (wd.alloc (.cells M1 5)); rw [World.size_alloc] at h; exact h))
        go_simp
        clear hcv
        refine hK.out _ _ (((HW1.out.on ((Below.refl _ _).alloc (Nat.le_refl _) (.cells M1 5))).on ((Below.refl _ _).alloc (Nat.le_refl _) (.cells M2 5))).2.2.2.1) (fun hHeld => ?_)
        clear hK K
        (try simp only [Act.put, List.setIfInBounds_toArray, List.set_cons_zero, List.set_cons_succ])
        have HW2 := Lib.hid ((HW1.out.on ((Below.refl _ _).alloc (Nat.le_refl _) (.cells M1 5))).on ((Below.refl _ _).alloc (Nat.le_refl _) (.cells M2 5)))
        generalize ((wd.alloc (.cells M1 5)).alloc (.cells M2 5)) = wy at HW2 hHeld ⊢
        refine wpAnyH_ready (rs := [7]) (by kernel_rfl) (by simp) ?_
        refine AllReadyH.cons rfl (fun K hK => ?_) AllReadyH.nil
        rw [if_pos (by rfl)]
        go_simp
        have HW2a := Lib.hid (HW2.out.on ((Below.refl _ _).alloc (Nat.le_refl _) (.cells #[.string ⟨#[107]⟩, .string ⟨#[107, 101, 121]⟩, .string ⟨#[]⟩, .string y1, .string y2] 9)))
        refine hK.out _ _ (HW2a.out.2.2.2.1) (fun hHeld => ?_)
        clear hK K
        (try simp only [Act.put, List.setIfInBounds_toArray, List.set_cons_zero, List.set_cons_succ])
        refine wpAnyH_ready (rs := [8]) (by kernel_rfl) (by simp) ?_
        refine AllReadyH.cons rfl (fun K hK => ?_) AllReadyH.nil
        rw [if_pos (by rfl)]
        go_simp
        go_fit (src_pick (w.heap.size + 1) (w.heap.size + 1) wy.heap.size 5 65 _ (by omega) (by omega) HW2a.out.1 (by have := HW2.out.1.lt; omega) (key_row wy y1 y2 hyy.1 hyy.2))
        rintro e wx ⟨_, rfl, ⟨f, rfl, hf⟩, hSz, hgz⟩
        have HW3 := Lib.hid (HW2a.out.src hSz hgz)
        refine hK.out _ _ (HW3.out.2.2.2.1) (fun hHeld => ?_)
        clear hK K hSz hgz
        (try simp only [Act.put, List.setIfInBounds_toArray, List.set_cons_zero, List.set_cons_succ])
        obtain ⟨z0, z1, z2, z3, z4, z5⟩ := arr_three HW3.out.2.2.1
        refine wpAnyH_ready (rs := [9]) (by kernel_rfl) (by simp) ?_
        refine AllReadyH.cons rfl (fun K hK => ?_) AllReadyH.nil
        rw [if_pos (by rfl)]
        go_simp
        refine hK.out _ _ (HW3.out.fin.2.2.2) (fun hHeld => ?_)
        clear hK K
        (try simp only [Act.put, List.setIfInBounds_toArray, List.set_cons_zero, List.set_cons_succ])
        refine takeQ (i := 10) (k := 3) (v := .int .i64 (1 + r)) rfl (by rfl) (by kernel_rfl) (by kernel_rfl) (by kernel_rfl) (fun _ _ _ h => h) (by rfl) ?_ hHeld ?_
        · intro w1 hSw; go_simp
        (try simp only [Act.put, List.setIfInBounds_toArray, List.set_cons_zero, List.set_cons_succ])
        refine takeQ (i := 11) (k := 4) (v := .string f) rfl (by rfl) (by kernel_rfl) (by kernel_rfl) (by kernel_rfl) (fun _ _ _ h => h) (by rfl) ?_ hHeld ?_
        · intro w1 hSw; go_simp
        (try simp only [Act.put, List.setIfInBounds_toArray, List.set_cons_zero, List.set_cons_succ])
        refine wpAnyH_done (by kernel_rfl) ?_ _
        have hF := HW3.out.fin
        obtain ⟨x0, x1, x2, _⟩ := arr_three hF.1
        clear z0 z1 z2 z3 z4 z5
        generalize ((wx.setCell ⟨w.heap.size, 0, none⟩ (.string d)).setCell ⟨w.heap.size, 1, none⟩ (.int .i64 n)).setCell ⟨w.heap.size, 2, none⟩ (.slice p ps.length k) = wf at hF x0 x1 x2 ⊢
        go_wp2
        exact bodyPost_ret (v := .tuple #[.agg #[.string d, .int .i64 n, .slice p ps.length k], .int .i64 (1 + r), .string f]) (by simp [results, Tryd.results6, go_sem, x0, x1, x2]) rfl ⟨⟨d, n, ps, p, k, 1 + r, f, rfl, hf, hd, hl, hw, hF.2.1⟩, hF.2.2.1⟩
      · rw [if_pos (by rfl)]
        have hcv := hq2 ((wd.alloc (.cells M1 5)).alloc (.cells M2 5)) (wd.heap.size + 1) ((by have h := ha2 (wd.alloc (.cells M1 5)); rw [World.size_alloc] at h; exact h))
        go_simp
        clear hcv
        refine hK.out _ _ (((HW1.out.on ((Below.refl _ _).alloc (Nat.le_refl _) (.cells M1 5))).on ((Below.refl _ _).alloc (Nat.le_refl _) (.cells M2 5))).2.2.2.1) (fun hHeld => ?_)
        clear hK K
        (try simp only [Act.put, List.setIfInBounds_toArray, List.set_cons_zero, List.set_cons_succ])
        refine wpAnyH_ready (rs := [4]) (by kernel_rfl) (by simp) ?_
        refine AllReadyH.cons rfl (fun K hK => ?_) AllReadyH.nil
        rw [if_pos (by rfl)]
        have hcv := hq1 ((wd.alloc (.cells M1 5)).alloc (.cells M2 5)) (wd.heap.size) ((ha1 wd).alloc _)
        go_simp
        clear hcv
        refine hK.out _ _ (((HW1.out.on ((Below.refl _ _).alloc (Nat.le_refl _) (.cells M1 5))).on ((Below.refl _ _).alloc (Nat.le_refl _) (.cells M2 5))).2.2.2.1) (fun hHeld => ?_)
        clear hK K
        (try simp only [Act.put, List.setIfInBounds_toArray, List.set_cons_zero, List.set_cons_succ])
        have HW2 := Lib.hid ((HW1.out.on ((Below.refl _ _).alloc (Nat.le_refl _) (.cells M1 5))).on ((Below.refl _ _).alloc (Nat.le_refl _) (.cells M2 5)))
        generalize ((wd.alloc (.cells M1 5)).alloc (.cells M2 5)) = wy at HW2 hHeld ⊢
        refine wpAnyH_ready (rs := [7]) (by kernel_rfl) (by simp) ?_
        refine AllReadyH.cons rfl (fun K hK => ?_) AllReadyH.nil
        rw [if_pos (by rfl)]
        go_simp
        have HW2a := Lib.hid (HW2.out.on ((Below.refl _ _).alloc (Nat.le_refl _) (.cells #[.string ⟨#[107]⟩, .string ⟨#[107, 101, 121]⟩, .string ⟨#[]⟩, .string y1, .string y2] 9)))
        refine hK.out _ _ (HW2a.out.2.2.2.1) (fun hHeld => ?_)
        clear hK K
        (try simp only [Act.put, List.setIfInBounds_toArray, List.set_cons_zero, List.set_cons_succ])
        refine wpAnyH_ready (rs := [8]) (by kernel_rfl) (by simp) ?_
        refine AllReadyH.cons rfl (fun K hK => ?_) AllReadyH.nil
        rw [if_pos (by rfl)]
        go_simp
        go_fit (src_pick (w.heap.size + 1) (w.heap.size + 1) wy.heap.size 5 65 _ (by omega) (by omega) HW2a.out.1 (by have := HW2.out.1.lt; omega) (key_row wy y1 y2 hyy.1 hyy.2))
        rintro e wx ⟨_, rfl, ⟨f, rfl, hf⟩, hSz, hgz⟩
        have HW3 := Lib.hid (HW2a.out.src hSz hgz)
        refine hK.out _ _ (HW3.out.2.2.2.1) (fun hHeld => ?_)
        clear hK K hSz hgz
        (try simp only [Act.put, List.setIfInBounds_toArray, List.set_cons_zero, List.set_cons_succ])
        obtain ⟨z0, z1, z2, z3, z4, z5⟩ := arr_three HW3.out.2.2.1
        refine wpAnyH_ready (rs := [9]) (by kernel_rfl) (by simp) ?_
        refine AllReadyH.cons rfl (fun K hK => ?_) AllReadyH.nil
        rw [if_pos (by rfl)]
        go_simp
        refine hK.out _ _ (HW3.out.fin.2.2.2) (fun hHeld => ?_)
        clear hK K
        (try simp only [Act.put, List.setIfInBounds_toArray, List.set_cons_zero, List.set_cons_succ])
        refine takeQ (i := 10) (k := 3) (v := .int .i64 (1 + r)) rfl (by rfl) (by kernel_rfl) (by kernel_rfl) (by kernel_rfl) (fun _ _ _ h => h) (by rfl) ?_ hHeld ?_
        · intro w1 hSw; go_simp
        (try simp only [Act.put, List.setIfInBounds_toArray, List.set_cons_zero, List.set_cons_succ])
        refine takeQ (i := 11) (k := 4) (v := .string f) rfl (by rfl) (by kernel_rfl) (by kernel_rfl) (by kernel_rfl) (fun _ _ _ h => h) (by rfl) ?_ hHeld ?_
        · intro w1 hSw; go_simp
        (try simp only [Act.put, List.setIfInBounds_toArray, List.set_cons_zero, List.set_cons_succ])
        refine wpAnyH_done (by kernel_rfl) ?_ _
        have hF := HW3.out.fin
        obtain ⟨x0, x1, x2, _⟩ := arr_three hF.1
        clear z0 z1 z2 z3 z4 z5
        generalize ((wx.setCell ⟨w.heap.size, 0, none⟩ (.string d)).setCell ⟨w.heap.size, 1, none⟩ (.int .i64 n)).setCell ⟨w.heap.size, 2, none⟩ (.slice p ps.length k) = wf at hF x0 x1 x2 ⊢
        go_wp2
        exact bodyPost_ret (v := .tuple #[.agg #[.string d, .int .i64 n, .slice p ps.length k], .int .i64 (1 + r), .string f]) (by simp [results, Tryd.results6, go_sem, x0, x1, x2]) rfl ⟨⟨d, n, ps, p, k, 1 + r, f, rfl, hf, hd, hl, hw, hF.2.1⟩, hF.2.2.1⟩
  · rw [if_pos (by rfl)]
    go_simp
    refine hK.out _ _ ((HW1.out.on ((Below.refl _ _).alloc (Nat.le_refl _) (.cells M2 5))).2.2.2.1) (fun hHeld => ?_)
    clear hK K
    (try simp only [Act.put, List.setIfInBounds_toArray, List.set_cons_zero, List.set_cons_succ])
    refine wpAnyH_ready (rs := [3, 6]) (by kernel_rfl) (by simp) ?_
    refine AllReadyH.cons rfl (fun K hK => ?_) (AllReadyH.cons rfl (fun K hK => ?_) AllReadyH.nil)
    · rw [if_pos (by rfl)]
      go_simp
      refine hK.out _ _ (((HW1.out.on ((Below.refl _ _).alloc (Nat.le_refl _) (.cells M2 5))).on ((Below.refl _ _).alloc (Nat.le_refl _) (.cells M1 5))).2.2.2.1) (fun hHeld => ?_)
      clear hK K
      (try simp only [Act.put, List.setIfInBounds_toArray, List.set_cons_zero, List.set_cons_succ])
      refine wpAnyH_ready (rs := [4, 6]) (by kernel_rfl) (by simp) ?_
      refine AllReadyH.cons rfl (fun K hK => ?_) (AllReadyH.cons rfl (fun K hK => ?_) AllReadyH.nil)
      · rw [if_pos (by rfl)]
        have hcv := hq1 ((wd.alloc (.cells M2 5)).alloc (.cells M1 5)) (wd.heap.size + 1) ((by have h := ha1 (wd.alloc (.cells M2 5)); rw [World.size_alloc] at h; exact h))
        go_simp
        clear hcv
        refine hK.out _ _ (((HW1.out.on ((Below.refl _ _).alloc (Nat.le_refl _) (.cells M2 5))).on ((Below.refl _ _).alloc (Nat.le_refl _) (.cells M1 5))).2.2.2.1) (fun hHeld => ?_)
        clear hK K
        (try simp only [Act.put, List.setIfInBounds_toArray, List.set_cons_zero, List.set_cons_succ])
        refine wpAnyH_ready (rs := [6]) (by kernel_rfl) (by simp) ?_
        refine AllReadyH.cons rfl (fun K hK => ?_) AllReadyH.nil
        rw [if_pos (by rfl)]
        have hcv := hq2 ((wd.alloc (.cells M2 5)).alloc (.cells M1 5)) (wd.heap.size) ((ha2 wd).alloc _)
        go_simp
        clear hcv
        refine hK.out _ _ (((HW1.out.on ((Below.refl _ _).alloc (Nat.le_refl _) (.cells M2 5))).on ((Below.refl _ _).alloc (Nat.le_refl _) (.cells M1 5))).2.2.2.1) (fun hHeld => ?_)
        clear hK K
        (try simp only [Act.put, List.setIfInBounds_toArray, List.set_cons_zero, List.set_cons_succ])
        have HW2 := Lib.hid ((HW1.out.on ((Below.refl _ _).alloc (Nat.le_refl _) (.cells M2 5))).on ((Below.refl _ _).alloc (Nat.le_refl _) (.cells M1 5)))
        generalize ((wd.alloc (.cells M2 5)).alloc (.cells M1 5)) = wy at HW2 hHeld ⊢
        refine wpAnyH_ready (rs := [7]) (by kernel_rfl) (by simp) ?_
        refine AllReadyH.cons rfl (fun K hK => ?_) AllReadyH.nil
        rw [if_pos (by rfl)]
        go_simp
        have HW2a := Lib.hid (HW2.out.on ((Below.refl _ _).alloc (Nat.le_refl _) (.cells #[.string ⟨#[107]⟩, .string ⟨#[107, 101, 121]⟩, .string ⟨#[]⟩, .string y1, .string y2] 9)))
        refine hK.out _ _ (HW2a.out.2.2.2.1) (fun hHeld => ?_)
        clear hK K
        (try simp only [Act.put, List.setIfInBounds_toArray, List.set_cons_zero, List.set_cons_succ])
        refine wpAnyH_ready (rs := [8]) (by kernel_rfl) (by simp) ?_
        refine AllReadyH.cons rfl (fun K hK => ?_) AllReadyH.nil
        rw [if_pos (by rfl)]
        go_simp
        go_fit (src_pick (w.heap.size + 1) (w.heap.size + 1) wy.heap.size 5 65 _ (by omega) (by omega) HW2a.out.1 (by have := HW2.out.1.lt; omega) (key_row wy y1 y2 hyy.1 hyy.2))
        rintro e wx ⟨_, rfl, ⟨f, rfl, hf⟩, hSz, hgz⟩
        have HW3 := Lib.hid (HW2a.out.src hSz hgz)
        refine hK.out _ _ (HW3.out.2.2.2.1) (fun hHeld => ?_)
        clear hK K hSz hgz
        (try simp only [Act.put, List.setIfInBounds_toArray, List.set_cons_zero, List.set_cons_succ])
        obtain ⟨z0, z1, z2, z3, z4, z5⟩ := arr_three HW3.out.2.2.1
        refine wpAnyH_ready (rs := [9]) (by kernel_rfl) (by simp) ?_
        refine AllReadyH.cons rfl (fun K hK => ?_) AllReadyH.nil
        rw [if_pos (by rfl)]
        go_simp
        refine hK.out _ _ (HW3.out.fin.2.2.2) (fun hHeld => ?_)
        clear hK K
        (try simp only [Act.put, List.setIfInBounds_toArray, List.set_cons_zero, List.set_cons_succ])
        refine takeQ (i := 10) (k := 3) (v := .int .i64 (1 + r)) rfl (by rfl) (by kernel_rfl) (by kernel_rfl) (by kernel_rfl) (fun _ _ _ h => h) (by rfl) ?_ hHeld ?_
        · intro w1 hSw; go_simp
        (try simp only [Act.put, List.setIfInBounds_toArray, List.set_cons_zero, List.set_cons_succ])
        refine takeQ (i := 11) (k := 4) (v := .string f) rfl (by rfl) (by kernel_rfl) (by kernel_rfl) (by kernel_rfl) (fun _ _ _ h => h) (by rfl) ?_ hHeld ?_
        · intro w1 hSw; go_simp
        (try simp only [Act.put, List.setIfInBounds_toArray, List.set_cons_zero, List.set_cons_succ])
        refine wpAnyH_done (by kernel_rfl) ?_ _
        have hF := HW3.out.fin
        obtain ⟨x0, x1, x2, _⟩ := arr_three hF.1
        clear z0 z1 z2 z3 z4 z5
        generalize ((wx.setCell ⟨w.heap.size, 0, none⟩ (.string d)).setCell ⟨w.heap.size, 1, none⟩ (.int .i64 n)).setCell ⟨w.heap.size, 2, none⟩ (.slice p ps.length k) = wf at hF x0 x1 x2 ⊢
        go_wp2
        exact bodyPost_ret (v := .tuple #[.agg #[.string d, .int .i64 n, .slice p ps.length k], .int .i64 (1 + r), .string f]) (by simp [results, Tryd.results6, go_sem, x0, x1, x2]) rfl ⟨⟨d, n, ps, p, k, 1 + r, f, rfl, hf, hd, hl, hw, hF.2.1⟩, hF.2.2.1⟩
      · rw [if_pos (by rfl)]
        have hcv := hq2 ((wd.alloc (.cells M2 5)).alloc (.cells M1 5)) (wd.heap.size) ((ha2 wd).alloc _)
        go_simp
        clear hcv
        refine hK.out _ _ (((HW1.out.on ((Below.refl _ _).alloc (Nat.le_refl _) (.cells M2 5))).on ((Below.refl _ _).alloc (Nat.le_refl _) (.cells M1 5))).2.2.2.1) (fun hHeld => ?_)
        clear hK K
        (try simp only [Act.put, List.setIfInBounds_toArray, List.set_cons_zero, List.set_cons_succ])
        refine wpAnyH_ready (rs := [4]) (by kernel_rfl) (by simp) ?_
        refine AllReadyH.cons rfl (fun K hK => ?_) AllReadyH.nil
        rw [if_pos (by rfl)]
        have hcv := hq1 ((wd.alloc (.cells M2 5)).alloc (.cells M1 5)) (wd.heap.size + 1) ((by have h := ha1 (wd.alloc (.cells M2 5)); rw [World.size_alloc] at h; exact h))
        go_simp
        clear hcv
        refine hK.out _ _ (((HW1.out.on ((Below.refl _ _).alloc (Nat.le_refl _) (.cells M2 5))).on ((Below.refl _ _).alloc (Nat.le_refl _) (.cells M1 5))).2.2.2.1) (fun hHeld => ?_)
        clear hK K
        (try simp only [Act.put, List.setIfInBounds_toArray, List.set_cons_zero, List.set_cons_succ])
        have HW2 := Lib.hid ((HW1.out.on ((Below.refl _ _).alloc (Nat.le_refl _) (.cells M2 5))).on ((Below.refl _ _).alloc (Nat.le_refl _) (.cells M1 5)))
        generalize ((wd.alloc (.cells M2 5)).alloc (.cells M1 5)) = wy at HW2 hHeld ⊢
        refine wpAnyH_ready (rs := [7]) (by kernel_rfl) (by simp) ?_
        refine AllReadyH.cons rfl (fun K hK => ?_) AllReadyH.nil
        rw [if_pos (by rfl)]
        go_simp
        have HW2a := Lib.hid (HW2.out.on ((Below.refl _ _).alloc (Nat.le_refl _) (.cells #[.string ⟨#[107]⟩, .string ⟨#[107, 101, 121]⟩, .string ⟨#[]⟩, .string y1, .string y2] 9)))
        refine hK.out _ _ (HW2a.out.2.2.2.1) (fun hHeld => ?_)
        clear hK K
        (try simp only [Act.put, List.setIfInBounds_toArray, List.set_cons_zero, List.set_cons_succ])
        refine wpAnyH_ready (rs := [8]) (by kernel_rfl) (by simp) ?_
        refine AllReadyH.cons rfl (fun K hK => ?_) AllReadyH.nil
        rw [if_pos (by rfl)]
        go_simp
        go_fit (src_pick (w.heap.size + 1) (w.heap.size + 1) wy.heap.size 5 65 _ (by omega) (by omega) HW2a.out.1 (by have := HW2.out.1.lt; omega) (key_row wy y1 y2 hyy.1 hyy.2))
        rintro e wx ⟨_, rfl, ⟨f, rfl, hf⟩, hSz, hgz⟩
        have HW3 := Lib.hid (HW2a.out.src hSz hgz)
        refine hK.out _ _ (HW3.out.2.2.2.1) (fun hHeld => ?_)
        clear hK K hSz hgz
        (try simp only [Act.put, List.setIfInBounds_toArray, List.set_cons_zero, List.set_cons_succ])
        obtain ⟨z0, z1, z2, z3, z4, z5⟩ := arr_three HW3.out.2.2.1
        refine wpAnyH_ready (rs := [9]) (by kernel_rfl) (by simp) ?_
        refine AllReadyH.cons rfl (fun K hK => ?_) AllReadyH.nil
        rw [if_pos (by rfl)]
        go_simp
        refine hK.out _ _ (HW3.out.fin.2.2.2) (fun hHeld => ?_)
        clear hK K
        (try simp only [Act.put, List.setIfInBounds_toArray, List.set_cons_zero, List.set_cons_succ])
        refine takeQ (i := 10) (k := 3) (v := .int .i64 (1 + r)) rfl (by rfl) (by kernel_rfl) (by kernel_rfl) (by kernel_rfl) (fun _ _ _ h => h) (by rfl) ?_ hHeld ?_
        · intro w1 hSw; go_simp
        (try simp only [Act.put, List.setIfInBounds_toArray, List.set_cons_zero, List.set_cons_succ])
        refine takeQ (i := 11) (k := 4) (v := .string f) rfl (by rfl) (by kernel_rfl) (by kernel_rfl) (by kernel_rfl) (fun _ _ _ h => h) (by rfl) ?_ hHeld ?_
        · intro w1 hSw; go_simp
        (try simp only [Act.put, List.setIfInBounds_toArray, List.set_cons_zero, List.set_cons_succ])
        refine wpAnyH_done (by kernel_rfl) ?_ _
        have hF := HW3.out.fin
        obtain ⟨x0, x1, x2, _⟩ := arr_three hF.1
        clear z0 z1 z2 z3 z4 z5
        generalize ((wx.setCell ⟨w.heap.size, 0, none⟩ (.string d)).setCell ⟨w.heap.size, 1, none⟩ (.int .i64 n)).setCell ⟨w.heap.size, 2, none⟩ (.slice p ps.length k) = wf at hF x0 x1 x2 ⊢
        go_wp2
        exact bodyPost_ret (v := .tuple #[.agg #[.string d, .int .i64 n, .slice p ps.length k], .int .i64 (1 + r), .string f]) (by simp [results, Tryd.results6, go_sem, x0, x1, x2]) rfl ⟨⟨d, n, ps, p, k, 1 + r, f, rfl, hf, hd, hl, hw, hF.2.1⟩, hF.2.2.1⟩
    · rw [if_pos (by rfl)]
      have hcv := hq2 (wd.alloc (.cells M2 5)) (wd.heap.size) (ha2 wd)
      go_simp
      clear hcv
      refine hK.out _ _ ((HW1.out.on ((Below.refl _ _).alloc (Nat.le_refl _) (.cells M2 5))).2.2.2.1) (fun hHeld => ?_)
      clear hK K
      (try simp only [Act.put, List.setIfInBounds_toArray, List.set_cons_zero, List.set_cons_succ])
      refine wpAnyH_ready (rs := [3]) (by kernel_rfl) (by simp) ?_
      refine AllReadyH.cons rfl (fun K hK => ?_) AllReadyH.nil
      rw [if_pos (by rfl)]
      go_simp
      refine hK.out _ _ (((HW1.out.on ((Below.refl _ _).alloc (Nat.le_refl _) (.cells M2 5))).on ((Below.refl _ _).alloc (Nat.le_refl _) (.cells M1 5))).2.2.2.1) (fun hHeld => ?_)
      clear hK K
      (try simp only [Act.put, List.setIfInBounds_toArray, List.set_cons_zero, List.set_cons_succ])
      refine wpAnyH_ready (rs := [4]) (by kernel_rfl) (by simp) ?_
      refine AllReadyH.cons rfl (fun K hK => ?_) AllReadyH.nil
      rw [if_pos (by rfl)]
      have hcv := hq1 ((wd.alloc (.cells M2 5)).alloc (.cells M1 5)) (wd.heap.size + 1) ((by have h := ha1 (wd.alloc (.cells M2 5)); rw [World.size_alloc] at h; exact h))
      go_simp
      clear hcv
      refine hK.out _ _ (((HW1.out.on ((Below.refl _ _).alloc (Nat.le_refl _) (.cells M2 5))).on ((Below.refl _ _).alloc (Nat.le_refl _) (.cells M1 5))).2.2.2.1) (fun hHeld => ?_)
      clear hK K
      (try simp only [Act.put, List.setIfInBounds_toArray, List.set_cons_zero, List.set_cons_succ])
      have HW2 := Lib.hid ((HW1.out.on ((Below.refl _ _).alloc (Nat.le_refl _) (.cells M2 5))).on ((Below.refl _ _).alloc (Nat.le_refl _) (.cells M1 5)))
      generalize ((wd.alloc (.cells M2 5)).alloc (.cells M1 5)) = wy at HW2 hHeld ⊢
      refine wpAnyH_ready (rs := [7]) (by kernel_rfl) (by simp) ?_
      refine AllReadyH.cons rfl (fun K hK => ?_) AllReadyH.nil
      rw [if_pos (by rfl)]
      go_simp
      have HW2a := Lib.hid (HW2.out.on ((Below.refl _ _).alloc (Nat.le_refl _) (.cells #[.string ⟨#[107]⟩, .string ⟨#[107, 101, 121]⟩, .string ⟨#[]⟩, .string y1, .string y2] 9)))
      refine hK.out _ _ (HW2a.out.2.2.2.1) (fun hHeld => ?_)
      clear hK K
      (try simp only [Act.put, List.setIfInBounds_toArray, List.set_cons_zero, List.set_cons_succ])
      refine wpAnyH_ready (rs := [8]) (by kernel_rfl) (by simp) ?_
      refine AllReadyH.cons rfl (fun K hK => ?_) AllReadyH.nil
      rw [if_pos (by rfl)]
      go_simp
      go_fit (src_pick (w.heap.size + 1) (w.heap.size + 1) wy.heap.size 5 65 _ (by omega) (by omega) HW2a.out.1 (by have := HW2.out.1.lt; omega) (key_row wy y1 y2 hyy.1 hyy.2))
      rintro e wx ⟨_, rfl, ⟨f, rfl, hf⟩, hSz, hgz⟩
      have HW3 := Lib.hid (HW2a.out.src hSz hgz)
      refine hK.out _ _ (HW3.out.2.2.2.1) (fun hHeld => ?_)
      clear hK K hSz hgz
      (try simp only [Act.put, List.setIfInBounds_toArray, List.set_cons_zero, List.set_cons_succ])
      obtain ⟨z0, z1, z2, z3, z4, z5⟩ := arr_three HW3.out.2.2.1
      refine wpAnyH_ready (rs := [9]) (by kernel_rfl) (by simp) ?_
      refine AllReadyH.cons rfl (fun K hK => ?_) AllReadyH.nil
      rw [if_pos (by rfl)]
      go_simp
      refine hK.out _ _ (HW3.out.fin.2.2.2) (fun hHeld => ?_)
      clear hK K
      (try simp only [Act.put, List.setIfInBounds_toArray, List.set_cons_zero, List.set_cons_succ])
      refine takeQ (i := 10) (k := 3) (v := .int .i64 (1 + r)) rfl (by rfl) (by kernel_rfl) (by kernel_rfl) (by kernel_rfl) (fun _ _ _ h => h) (by rfl) ?_ hHeld ?_
      · intro w1 hSw; go_simp
      (try simp only [Act.put, List.setIfInBounds_toArray, List.set_cons_zero, List.set_cons_succ])
      refine takeQ (i := 11) (k := 4) (v := .string f) rfl (by rfl) (by kernel_rfl) (by kernel_rfl) (by kernel_rfl) (fun _ _ _ h => h) (by rfl) ?_ hHeld ?_
      · intro w1 hSw; go_simp
      (try simp only [Act.put, List.setIfInBounds_toArray, List.set_cons_zero, List.set_cons_succ])
      refine wpAnyH_done (by kernel_rfl) ?_ _
      have hF := HW3.out.fin
      obtain ⟨x0, x1, x2, _⟩ := arr_three hF.1
      clear z0 z1 z2 z3 z4 z5
      generalize ((wx.setCell ⟨w.heap.size, 0, none⟩ (.string d)).setCell ⟨w.heap.size, 1, none⟩ (.int .i64 n)).setCell ⟨w.heap.size, 2, none⟩ (.slice p ps.length k) = wf at hF x0 x1 x2 ⊢
      go_wp2
      exact bodyPost_ret (v := .tuple #[.agg #[.string d, .int .i64 n, .slice p ps.length k], .int .i64 (1 + r), .string f]) (by simp [results, Tryd.results6, go_sem, x0, x1, x2]) rfl ⟨⟨d, n, ps, p, k, 1 + r, f, rfl, hf, hd, hl, hw, hF.2.1⟩, hF.2.2.1⟩
end Go.Proofs.YtkjkfcljejjpbaaDoor

namespace Go.Proofs.YtkjkfcljejjpbaaDoor
set_option linter.unusedSimpArgs false
set_option linter.unusedVariables false
open Go.RowKit Go.Joins

/-- A dialback that is drawn. -/
def DlX (d : ByteArray) (ps : List PrL) : Prop := d.size ≤ 100 ∧ ps.length ≤ 11 ∧ ∀ x ∈ ps, x.d.size ≤ 100 ∧ x.k.size ≤ 100
theorem dlx_err (c : Int) : DlX (errR c).d (errR c).ps := ⟨Nat.zero_le _, Nat.zero_le _, fun x hx => by cases hx⟩
theorem dlx_set {d : ByteArray} {ps : List PrL} (h : DlX d ps) {K : Nat} {y : PrL} (h1 : y.d.size ≤ 100) (h2 : y.k.size ≤ 100) : DlX d (ps.set K y) :=
  ⟨h.1, by rw [List.length_set]; exact h.2.1, fun x hx => by
    rcases List.mem_or_eq_of_mem_set hx with hx | rfl
    · exact h.2.2 x hx
    · exact ⟨h1, h2⟩⟩
theorem dlx_result {d : ByteArray} {n : Int} {ps : List PrL} {id : Int} {key : ByteArray} (h : DlX d ps) (hf : key.size ≤ 100) : DlX (resultR d n ps id key).d (resultR d n ps id key).ps := by
  unfold resultR
  split
  · exact dlx_err _
  · split
    · exact dlx_err _
    · split
      · exact dlx_err _
      · rename_i K hK
        obtain ⟨hk, _⟩ := atK_lt hK
        rw [getD_at hk]
        split
        · exact dlx_err _
        · split
          · exact dlx_err _
          · exact dlx_set h (h.2.2 _ (List.getElem_mem hk)).1 hf
theorem dlx_verified {d : ByteArray} {n : Int} {ps : List PrL} {id : Int} {good : Bool} (h : DlX d ps) : DlX (verifiedR d n ps id good).d (verifiedR d n ps id good).ps := by
  unfold verifiedR
  split
  · exact dlx_err _
  · split
    · exact dlx_err _
    · rename_i K hK
      obtain ⟨hk, _⟩ := atK_lt hK
      rw [getD_at hk]
      split
      · exact dlx_err _
      · exact dlx_set h (h.2.2 _ (List.getElem_mem hk)).1 (h.2.2 _ (List.getElem_mem hk)).2
theorem below_cellZ {w W : World} (h : Below w.heap.size w W) {z : Nat} (hz : w.heap.size ≤ z) (i : Nat) (u : Value) : Below w.heap.size w (W.setCell ⟨z, i, none⟩ u)  := h.setCell hz u
/-- What lies beside all of this may be written. -/
theorem DwS.other {w W : World} {b : Nat} {d : ByteArray} {n : Int} {ps : List PrL} {p : Option Addr} {k : Nat} (h : DwS w W b d n ps p k) {z : Nat} (hz : w.heap.size + 2 ≤ z) (hzb : b ≠ z) (hne : ∀ j, (Value.slice p ps.length k).ownBlock = some j → z ≠ j) (i : Nat) (u : Value) : DwS w (W.setCell ⟨z, i, none⟩ u) b d n ps p k :=
  ⟨h.1.set z i u (by omega) (by omega), below_cellZ h.2.1 (by omega) i u, arr_beside h.2.2.1 z i u (by omega), arr_beside h.2.2.2.1 z i u hzb, own_other h.2.2.2.2.1 hne, h.2.2.2.2.2⟩
theorem DwS.put5 {w W : World} {b : Nat} {d : ByteArray} {n : Int} {ps : List PrL} {p : Option Addr} {k : Nat} (h : DwS w W b d n ps p k) {z : Nat} (hz : w.heap.size + 2 ≤ z) (hzb : b ≠ z) (hne : ∀ j, (Value.slice p ps.length k).ownBlock = some j → z ≠ j) (x0 x1 x2 x3 x4 : Value) : DwS w (Go.Proofs.YtkjkfcljejjpbaaDoor.put5 W z x0 x1 x2 x3 x4) b d n ps p k :=
  ((((h.other hz hzb hne _ _).other hz hzb hne _ _).other hz hzb hne _ _).other hz hzb hne _ _).other hz hzb hne _ _
/-- Another dialback is stored in its box. -/
theorem DwS.new {w W : World} {b : Nat} {d d2 : ByteArray} {n n2 : Int} {ps qs : List PrL} {p p2 : Option Addr} {k k2 : Nat} (h : DwS w W b d n ps p k) (ho : OwnC prC W (w.heap.size + 2) 43 4 (.slice p2 qs.length k2) qs) :
    DwS w (((W.setCell ⟨b, 0, none⟩ (.string d2)).setCell ⟨b, 1, none⟩ (.int .i64 n2)).setCell ⟨b, 2, none⟩ (.slice p2 qs.length k2)) b d2 n2 qs p2 k2 := by
  have hne := own_ne_box ho h.2.2.2.1 (by decide)
  have hne' : ∀ j, (Value.slice p2 qs.length k2).ownBlock = some j → b ≠ j := fun j hj => (hne j hj).symm
  have hb := h.2.2.2.2.2
  have q1 : b ≠ w.heap.size + 1 := by omega
  have q2 : w.heap.size + 1 ≤ b := by omega
  have q3 : w.heap.size ≠ b := by omega
  exact ⟨((h.1.set _ 0 _ q1 q2).set _ 1 _ q1 q2).set _ 2 _ q1 q2, below_three h.2.1 (by omega) _ _ _, arr_beside (arr_beside (arr_beside h.2.2.1 _ _ _ q3) _ _ _ q3) _ _ _ q3, ((h.2.2.2.1.put 0 _).put 1 _).put 2 _, own_other (own_other (own_other ho hne') hne') hne', hb⟩
theorem arr_put5b {W : World} {g b t : Nat} {cs : List Value} (h : Arr W g t cs) (hne : g ≠ b) (x0 x1 x2 x3 x4 : Value) : Arr (put5 W b x0 x1 x2 x3 x4) g t cs :=
  arr_beside (arr_beside (arr_beside (arr_beside (arr_beside h _ _ _ hne) _ _ _ hne) _ _ _ hne) _ _ _ hne) _ _ _ hne
theorem rowP {W : World} {B : Nat} {p : Option Addr} {k n : Nat} {xs : List PrL} (h : OwnC prC W B 43 4 (.slice p n k) xs) : RowC prC 4 W p xs := by
  obtain ⟨p', k', e, hR⟩ := h.row prC_len
  injection e with e1 e2 e3
  rw [e1]
  exact hR
theorem DwS.row {w W : World} {b : Nat} {d : ByteArray} {n : Int} {ps : List PrL} {p : Option Addr} {k : Nat} (h : DwS w W b d n ps p k) {z : Nat} (hz : w.heap.size + 2 ≤ z) (hzb : b ≠ z) (hne : ∀ j, (Value.slice p ps.length k).ownBlock = some j → z ≠ j) (cs : Array Value) : DwS w (W.setRow z cs) b d n ps p k := by
  refine ⟨h.1.other (r := some z) ⟨rfl, rfl, rfl, by simp, fun k hk hne => setRow_other W z k _ (fun e => hne (by rw [e]))⟩ (fun q e => by injection e; omega) h.1.lt (fun q e => by injection e; omega), below_setRow h.2.1 (by omega) cs, (setRow_other W z _ cs (by omega)).trans h.2.2.1, (setRow_other W z _ cs hzb).trans h.2.2.2.1, ⟨h.2.2.2.2.1.1, ?_⟩, h.2.2.2.2.2⟩
  rcases h.2.2.2.2.1.2 with h0 | ⟨j, c, cur, h1, h2, h3, h4⟩
  · exact .inl h0
  · exact .inr ⟨j, c, cur, h1, h2, (setRow_other W z j cs (fun e => hne j (by rw [h1]; rfl) e.symm)).trans h3, h4⟩
set_option maxRecDepth 100000 in
set_option maxHeartbeats 16000000 in
theorem draw_trusts (a : Option Addr) (len cap : Nat) (w : World) (hlen : len ≤ 1048576) (hrow : SrcRow w w.heap.size a len) :
    Calls Tryd.prog 16 #[.slice a len cap] w fun e w' => (∃ d n ps p k f id, e = .returned (.tuple #[dbV d n p ps.length k, .string f, .int .i64 id]) ∧ f.size ≤ 100 ∧ d.size ≤ 100 ∧ ps.length ≤ 11 ∧ (∀ x ∈ ps, x.d.size ≤ 100 ∧ x.k.size ≤ 100) ∧ OwnC prC w' w.heap.size 43 4 (.slice p ps.length k) ps) ∧ Below w.heap.size w w' := by
  have HR := Lib.hid hrow
  clear hrow
  go_enter Tryd.func16, Tryd.ntmps16
  go_wp2_with fail
  refine (src_source a len cap _ hlen (HR.out.lift ((Below.refl _ _).alloc (Nat.le_refl _) _) (by simp))).mono ?_
  rintro e w1 ⟨rfl, hS1, hb1⟩
  have hA1 : Arr w1 w.heap.size 25 [.string ⟨#[]⟩, .int .i64 0, .slice none 0 0] := (hb1.block w.heap.size (by simp)).trans (Arr.fresh w _ _)
  have hbw : Below w.heap.size w w1 := below_one hb1
  rw [World.size_alloc] at hS1
  have hsz1 := hS1.lt
  clear hb1
  go_wp2_with fail
  refine (draw_db (w.heap.size + 1) (w.heap.size + 1) w1 hS1).mono ?_
  rintro e w2 ⟨⟨d, n, ps, p, k, rfl, hd, hl, hw, ho⟩, hS2, hg2⟩
  unfold dbV
  have hbw2 : Below w.heap.size w w2 := below_grown hbw hbw.size hg2 (by omega)
  have hA2 := arr_grown hA1 hg2 (by omega)
  have hsz2 : w.heap.size + 1 < w2.heap.size := hS2.lt
  have HW0 : Hid (DwS w (w2.alloc (.cells #[.string d, .int .i64 n, .slice p ps.length k] 25)) w2.heap.size d n ps p k) := Lib.hid ⟨hS2.alloc _, hbw2.alloc hbw2.size _, arr_alloc hA2 _, Arr.fresh w2 _ [.string d, .int .i64 n, .slice p ps.length k], (ho.mono (by omega)).alloc _, by omega⟩
  have HX : Hid (DlX d ps) := Lib.hid ⟨hd, hl, hw⟩
  clear hS2 hbw2 hA2 ho hg2 hS1 hA1 hbw hd hw
  go_wp2_with fail
  have HWa := Lib.hid (HW0.out.on ((Below.refl _ _).alloc (Nat.le_refl _) (.cells #[.string ⟨#[98]⟩, .string ⟨#[99, 46, 100]⟩] 9)))
  have hstr := strRow_at (w2.alloc (.cells #[.string d, .int .i64 n, .slice p ps.length k] 25)) 9 3 _ [⟨#[98]⟩, ⟨#[99, 46, 100]⟩] rfl (by intro s hs; simp only [List.mem_cons, List.not_mem_nil, or_false] at hs; rcases hs with rfl | rfl <;> first | (show 1 ≤ 3; omega) | (show 3 ≤ 3; omega))
  rw [World.size_alloc] at hstr
  go_fit (src_pick (w.heap.size + 1) (w.heap.size + 1) (w2.heap.size + 1) 2 3 _ (by omega) (by omega) HWa.out.1 (by omega) hstr)
  rintro e w3 ⟨_, rfl, ⟨f, rfl, hf⟩, hS3, hg3⟩
  have HWb := Lib.hid (HWa.out.src hS3 hg3)
  clear hS3 hg3 HWa HW0 hstr
  obtain ⟨b, hb⟩ : ∃ b, w2.heap.size = b := ⟨_, rfl⟩
  rw [hb] at HWb hsz2 ⊢
  clear hb
  have hb2 := HWb.out.2.2.2.2.2
  go_wp2_with fail
  go_fit (src_n (w.heap.size + 1) (w.heap.size + 1) 6 _ (by omega) HWb.out.1)
  rintro e w4 ⟨_, rfl, ⟨r, rfl, h0, h1⟩, hS4, hg4⟩
  have hr6 : r < 6 := by omega
  have HWc := Lib.hid (HWb.out.src hS4 hg4)
  clear hS4 hg4 HWb h1
  obtain ⟨c0, c1, c2, -⟩ := arr_three HWc.out.2.2.2.1
  by_cases hps : 0 < ps.length
  · obtain ⟨gg, rfl, hgg⟩ : ∃ gg, p = some ⟨gg, 0, none⟩ ∧ gg < w4.heap.size := by
      obtain ⟨gg, e, h, _⟩ := row4 (rowP HWc.out.2.2.2.2.1) hps
      exact ⟨gg, e, h⟩
    have hps1 : 0 < (ps.length : Int) := by omega
    go_wp2_with (go_at_call 28; go_fit (src_one (w.heap.size + 1) (w.heap.size + 1) 3 _ (by omega) HWc.out.1); rintro e w5 ⟨_, rfl, ⟨q, rfl⟩, hS5, hg5⟩; have HW5 := Lib.hid (HWc.out.src hS5 hg5); clear hS5 hg5 c0 c1 c2 HWc; (obtain ⟨c0, c1, c2, -⟩ := arr_three HW5.out.2.2.2.1); (obtain ⟨z0, z1, z2, z3, z4, z5⟩ := arr_three HW5.out.2.2.1); cases q)
    · clear c0 c1 c2 z0 z1 z2 z3 z4 z5
      refine region_join [30, 31, 32, 33, 34, 35, 36, 37, 38, 9] (fun vs W => ∃ (z : Nat) (x : PrL), vs 9 = .pointer (some ⟨z, 0, none⟩) ∧ DwS w W b d n ps (some ⟨gg, 0, none⟩) k ∧ Arr W z 43 (prC x) ∧ x.d.size ≤ 100 ∧ w.heap.size + 2 ≤ z ∧ b < z) ?_ ?_
      rotate_left
      · rintro vs W5 ⟨z, x, hz, hs, hA, hxb, hz2, hbz⟩
        simp only [putAll, Act.put, List.setIfInBounds_toArray, List.set_cons_zero, List.set_cons_succ, hz]
        have HS5 := Lib.hid hs
        have HA5 := Lib.hid hA
        clear hs hA hz HW5
        obtain ⟨c0, c1, c2, -⟩ := arr_three HS5.out.2.2.2.1
        have e0 : W5.cell? ⟨z, 0, none⟩ = some (.string x.d) := HA5.out.cell 0
        have e1 : W5.cell? ⟨z, 1, none⟩ = some (.int .i64 x.i) := HA5.out.cell 1
        go_wp2_with fail
        go_fit (spec_result d n ps (some ⟨gg, 0, none⟩) k (w.heap.size + 2) x.i ⟨#[107]⟩ _ (by have := HX.out.1; omega) (by have := HX.out.2.1; omega) (fun x hx => ⟨by have := (HX.out.2.2 x hx).1; omega, by have := (HX.out.2.2 x hx).2; omega⟩) HS5.out.2.2.2.2.1 (by show 1 ≤ 1048576; omega))
        rintro e w6 ⟨⟨p6, k6, rfl, hv⟩, hb⟩
        have hdR := dlx_result HX.out (show 1 ≤ 100 by omega) (n := n) (id := x.i) (key := ⟨#[107]⟩)
        obtain ⟨Q, hQ⟩ : ∃ Q, resultR d n ps x.i ⟨#[107]⟩ = Q := ⟨_, rfl⟩
        rw [hQ] at hv hdR ⊢
        have HXQ : Hid (DlX Q.d Q.ps) := Lib.hid hdR
        unfold doV
        have hby : b < w6.heap.size := by have := arr_lt HS5.out.2.2.2.1; have := hb.size; omega
        have hzy : z < w6.heap.size := by have := arr_lt HA5.out; have := hb.size; omega
        have hsb : w.heap.size + 2 ≤ W5.heap.size := by have := arr_lt HS5.out.2.2.2.1; omega
        have HS6 := Lib.hid ((HS5.out.on hb).on ((Below.refl _ _).alloc (Nat.le_refl _) (.cells #[.string Q.d, .int .i64 Q.n, .slice p6 Q.ps.length k6, .int .i64 Q.i, .int .i64 Q.c] 29)))
        have HA6 := Lib.hid (arr_alloc (arr_below HA5.out hb) (.cells #[.string Q.d, .int .i64 Q.n, .slice p6 Q.ps.length k6, .int .i64 Q.i, .int .i64 Q.c] 29))
        have HB6 := Lib.hid (Arr.fresh w6 29 [.string Q.d, .int .i64 Q.n, .slice p6 Q.ps.length k6, .int .i64 Q.i, .int .i64 Q.c])
        have HV6 := Lib.hid ((hv.mono (B' := w.heap.size + 2) hsb).alloc (.cells #[.string Q.d, .int .i64 Q.n, .slice p6 Q.ps.length k6, .int .i64 Q.i, .int .i64 Q.c] 29))
        have HSw := Lib.hid (HS5.out.on hb)
        have HAw := Lib.hid (arr_below HA5.out hb)
        have HVw := Lib.hid (hv.mono (B' := w.heap.size + 2) hsb)
        clear hQ hb hv hdR c0 c1 c2 e0 e1 HS5 HA5
        obtain ⟨⟨c0, c1, c2, c3, c4⟩, -⟩ := arr_five HB6.out
        obtain ⟨o0, o1, o2, o3, o4, o5⟩ := arr_three HSw.out.2.2.2.1
        obtain ⟨bq, hbq⟩ : ∃ b, (Q.c == 0) = b := ⟨_, rfl⟩
        have hq1 : ¬ (w6.heap.size = b) := by omega
        have hq2 : ¬ (b = w6.heap.size) := by omega
        cases bq
        · go_wp2_with fail
          clear c0 c1 c2 c3 c4 o0 o1 o2 o3 o4 o5 HSw HAw HVw
          obtain ⟨y, hy⟩ : ∃ y, w6.heap.size = y := ⟨_, rfl⟩
          generalize w6.alloc (.cells #[.string Q.d, .int .i64 Q.n, .slice p6 Q.ps.length k6, .int .i64 Q.i, .int .i64 Q.c] 29) = W6 at HS6 HA6 HB6 HV6 ⊢
          rw [hy] at HB6 hby hzy ⊢
          clear hy hq1 hq2
          have hneD : ∀ j, (Value.slice (some ⟨gg, 0, none⟩) ps.length k).ownBlock = some j → y ≠ j := fun j hj => (own_ne_box HS6.out.2.2.2.2.1 HB6.out (by decide) j hj).symm
          refine wp_region_held_drew (S := fun W => Arr W b 25 [.string d, .int .i64 n, .slice (some ⟨gg, 0, none⟩) ps.length k]) (by kernel_rfl) HS6.out.2.2.2.1 (fun hHeld => ?_)
          have HS7 := Lib.hid (HS6.out.on (Below.refl _ _).drew)
          have HA7 := Lib.hid (arr_below HA6.out (Below.refl _ _).drew)
          have HB7 := Lib.hid (arr_below HB6.out (Below.refl _ _).drew)
          generalize World.drew _ = Wd at HS7 HA7 HB7 hHeld ⊢
          clear HS6 HA6 HB6
          refine takeQ (i := 0) (k := 49) (v := .agg #[.string d, .int .i64 n, .slice (some ⟨gg, 0, none⟩) ps.length k]) rfl (by rfl) (by kernel_rfl) (by kernel_rfl) (by kernel_rfl) (fun _ _ _ h => h) (by rfl) ?_ hHeld ?_
          · intro w1 hSw; obtain ⟨m0, m1, m2, -⟩ := arr_three hSw; go_simp
          (try simp only [Act.put, List.setIfInBounds_toArray, List.set_cons_zero, List.set_cons_succ])
          refine takeQ (i := 1) (k := 50) (v := .int .i64 x.i) rfl (by rfl) (by kernel_rfl) (by kernel_rfl) (by kernel_rfl) (fun _ _ _ h => h) (by rfl) ?_ hHeld ?_
          · intro w1 hSw; go_simp
          (try simp only [Act.put, List.setIfInBounds_toArray, List.set_cons_zero, List.set_cons_succ])
          refine takeQ (i := 2) (k := 51) (v := .pointer (some ⟨w.heap.size + 1, 0, none⟩)) rfl (by rfl) (by kernel_rfl) (by kernel_rfl) (by kernel_rfl) (fun _ _ _ h => h) (by rfl) ?_ hHeld ?_
          · intro w1 hSw; go_simp
          (try simp only [Act.put, List.setIfInBounds_toArray, List.set_cons_zero, List.set_cons_succ])
          refine wpAnyH_ready (rs := [3]) (by kernel_rfl) (by simp) ?_
          refine AllReadyH.cons rfl (fun K hK => ?_) AllReadyH.nil
          rw [if_pos (by rfl)]
          go_simp
          go_fit (src_one (w.heap.size + 1) (w.heap.size + 1) 4 _ (by omega) HS7.out.1)
          rintro e wx ⟨_, rfl, ⟨q2, rfl⟩, hSz, hgz⟩
          have HS8 := Lib.hid (HS7.out.src hSz hgz)
          have HA8 := Lib.hid (arr_grown HA7.out hgz (by omega))
          have HB8 := Lib.hid (arr_grown HB7.out hgz (by omega))
          clear HS7 HA7 HB7
          refine hK.out _ _ (HS8.out.2.2.2.1) (fun hHeld => ?_)
          clear hK K
          (try simp only [Act.put, List.setIfInBounds_toArray, List.set_cons_zero, List.set_cons_succ])
          refine takeQ (i := 4) (k := 53) (v := .bool (!q2)) rfl (by rfl) (by kernel_rfl) (by kernel_rfl) (by kernel_rfl) (fun _ _ _ h => h) (by rfl) ?_ hHeld ?_
          · intro w1 hSw; go_simp
          (try simp only [Act.put, List.setIfInBounds_toArray, List.set_cons_zero, List.set_cons_succ])
          refine wpAnyH_ready (rs := [5]) (by kernel_rfl) (by simp) ?_
          refine AllReadyH.cons rfl (fun K hK => ?_) AllReadyH.nil
          rw [if_pos (by rfl)]
          go_simp
          go_fit (spec_verified d n ps (some ⟨gg, 0, none⟩) k (w.heap.size + 2) x.i (!q2) _ (by have := HX.out.1; omega) (by have := HX.out.2.1; omega) (fun x hx => ⟨by have := (HX.out.2.2 x hx).1; omega, by have := (HX.out.2.2 x hx).2; omega⟩) HS8.out.2.2.2.2.1)
          rintro e wy ⟨⟨p9, k9, rfl, hv⟩, hb⟩
          have hdR2 := dlx_verified HX.out (n := n) (id := x.i) (good := !q2)
          obtain ⟨Q2, hQ2⟩ : ∃ Q9, verifiedR d n ps x.i (!q2) = Q9 := ⟨_, rfl⟩
          rw [hQ2] at hv hdR2 ⊢
          have HX2 : Hid (DlX Q2.d Q2.ps) := Lib.hid hdR2
          unfold doV
          have HS9 := Lib.hid (HS8.out.on hb)
          have HA9 := Lib.hid (arr_below HA8.out hb)
          have HB9 := Lib.hid (arr_below HB8.out hb)
          have HV9 := Lib.hid (hv.mono (B' := w.heap.size + 2) (by have := arr_lt HS8.out.2.2.2.1; omega))
          clear hQ2 hb hv hdR2 HS8 HA8 HB8
          refine hK.out _ _ (HS9.out.2.2.2.1) (fun hHeld => ?_)
          clear hK K
          (try simp only [Act.put, List.setIfInBounds_toArray, List.set_cons_zero, List.set_cons_succ])
          obtain ⟨⟨c0, c1, c2, c3, c4⟩, f0, f1, f2_, f3, f4⟩ := arr_five HB9.out
          refine wpAnyH_ready (rs := [6]) (by kernel_rfl) (by simp) ?_
          refine AllReadyH.cons rfl (fun K hK => ?_) AllReadyH.nil
          rw [if_pos (by rfl)]
          go_simp
          have hne5 := own_ne_box HV9.out HB9.out (by decide)
          have HS10 := Lib.hid (HS9.out.put5 (z := y) (by omega) (by omega) hneD (.string Q2.d) (.int .i64 Q2.n) (.slice p9 Q2.ps.length k9) (.int .i64 Q2.i) (.int .i64 Q2.c))
          have HA10 := Lib.hid (arr_put5b HA9.out (b := y) (by omega) (.string Q2.d) (.int .i64 Q2.n) (.slice p9 Q2.ps.length k9) (.int .i64 Q2.i) (.int .i64 Q2.c))
          have HB10 := Lib.hid (arr_put5 HB9.out (.string Q2.d) (.int .i64 Q2.n) (.slice p9 Q2.ps.length k9) (.int .i64 Q2.i) (.int .i64 Q2.c))
          have HV10 := Lib.hid (own_put5 HV9.out hne5 (.string Q2.d) (.int .i64 Q2.n) (.slice p9 Q2.ps.length k9) (.int .i64 Q2.i) (.int .i64 Q2.c))
          clear HS9 HA9 HB9 HV9
          refine hK.out _ _ (HS10.out.2.2.2.1) (fun hHeld => ?_)
          clear hK K c0 c1 c2 c3 c4 f0 f1 f2_ f3 f4
          (try simp only [Act.put, List.setIfInBounds_toArray, List.set_cons_zero, List.set_cons_succ])
          refine wpAnyH_done (by kernel_rfl) ?_ _
          have hz5 : ((((wy.setCell ⟨y, 0, none⟩ (.string Q2.d)).setCell ⟨y, 1, none⟩ (.int .i64 Q2.n)).setCell ⟨y, 2, none⟩ (.slice p9 Q2.ps.length k9)).setCell ⟨y, 3, none⟩ (.int .i64 Q2.i)).setCell ⟨y, 4, none⟩ (.int .i64 Q2.c) = put5 wy y (.string Q2.d) (.int .i64 Q2.n) (.slice p9 Q2.ps.length k9) (.int .i64 Q2.i) (.int .i64 Q2.c) := rfl
          rw [hz5]
          clear hz5
          generalize put5 wy y (.string Q2.d) (.int .i64 Q2.n) (.slice p9 Q2.ps.length k9) (.int .i64 Q2.i) (.int .i64 Q2.c) = wz at HS10 HA10 HB10 HV10 ⊢
          obtain ⟨⟨c0, c1, c2, c3, c4⟩, -⟩ := arr_five HB10.out
          obtain ⟨o0, o1, o2, o3, o4, o5⟩ := arr_three HS10.out.2.2.2.1
          have hq1 : ¬ (y = b) := by omega
          have hq2 : ¬ (b = y) := by omega
          obtain ⟨bq2, hbq2⟩ : ∃ b, (Q2.c == 0) = b := ⟨_, rfl⟩
          cases bq2
          · go_wp2_with (first
              | (go_at_call 28; go_fit (src_one (w.heap.size + 1) (w.heap.size + 1) 5 _ (by omega) HS10.out.1); rintro e wv ⟨_, rfl, ⟨q5, rfl⟩, hSv, hgv⟩; have HSv := Lib.hid (HS10.out.src hSv hgv); have e0 : wv.cell? ⟨z, 0, none⟩ = some (.string x.d) := (arr_grown HA10.out hgv (by omega)).cell 0; (obtain ⟨v0, v1, v2, -⟩ := arr_three HSv.out.2.2.2.1); (obtain ⟨z0, z1, z2, z3, z4, z5⟩ := arr_three HSv.out.2.2.1); clear hSv hgv; cases q5))
            · have hF := HSv.out.fin
              obtain ⟨y0, y1, y2, -⟩ := arr_three hF.1
              exact bodyPost_ret (v := .tuple #[.agg #[.string d, .int .i64 n, .slice (some ⟨gg, 0, none⟩) ps.length k], .string x.d, .int .i64 (x.i)]) (by simp [results, Tryd.results16, go_sem, y0, y1, y2]) rfl ⟨⟨d, n, ps, (some ⟨gg, 0, none⟩), k, x.d, x.i, rfl, hxb, HX.out.1, HX.out.2.1, HX.out.2.2, hF.2.1⟩, hF.2.2.1⟩
            · have hF := HSv.out.fin
              obtain ⟨y0, y1, y2, -⟩ := arr_three hF.1
              exact bodyPost_ret (v := .tuple #[.agg #[.string d, .int .i64 n, .slice (some ⟨gg, 0, none⟩) ps.length k], .string f, .int .i64 (x.i)]) (by simp [results, Tryd.results16, go_sem, y0, y1, y2]) rfl ⟨⟨d, n, ps, (some ⟨gg, 0, none⟩), k, f, x.i, rfl, (by omega), HX.out.1, HX.out.2.1, HX.out.2.2, hF.2.1⟩, hF.2.2.1⟩
          · have HS11 := Lib.hid (HS10.out.new HV10.out (d2 := Q2.d) (n2 := Q2.n))
            have HA11 := Lib.hid (arr_beside (arr_beside (arr_beside HA10.out b 0 (.string Q2.d) (by omega)) b 1 (.int .i64 Q2.n) (by omega)) b 2 (.slice p9 Q2.ps.length k9) (by omega))
            go_wp2_with (first
              | (go_at_call 28; go_fit (src_one (w.heap.size + 1) (w.heap.size + 1) 5 _ (by omega) HS11.out.1); rintro e wv ⟨_, rfl, ⟨q5, rfl⟩, hSv, hgv⟩; have HSv := Lib.hid (HS11.out.src hSv hgv); have e0 : wv.cell? ⟨z, 0, none⟩ = some (.string x.d) := (arr_grown HA11.out hgv (by omega)).cell 0; (obtain ⟨v0, v1, v2, -⟩ := arr_three HSv.out.2.2.2.1); (obtain ⟨z0, z1, z2, z3, z4, z5⟩ := arr_three HSv.out.2.2.1); clear hSv hgv; cases q5))
            · have hF := HSv.out.fin
              obtain ⟨y0, y1, y2, -⟩ := arr_three hF.1
              exact bodyPost_ret (v := .tuple #[.agg #[.string Q2.d, .int .i64 Q2.n, .slice p9 Q2.ps.length k9], .string x.d, .int .i64 (x.i)]) (by simp [results, Tryd.results16, go_sem, y0, y1, y2]) rfl ⟨⟨Q2.d, Q2.n, Q2.ps, p9, k9, x.d, x.i, rfl, hxb, HX2.out.1, HX2.out.2.1, HX2.out.2.2, hF.2.1⟩, hF.2.2.1⟩
            · have hF := HSv.out.fin
              obtain ⟨y0, y1, y2, -⟩ := arr_three hF.1
              exact bodyPost_ret (v := .tuple #[.agg #[.string Q2.d, .int .i64 Q2.n, .slice p9 Q2.ps.length k9], .string f, .int .i64 (x.i)]) (by simp [results, Tryd.results16, go_sem, y0, y1, y2]) rfl ⟨⟨Q2.d, Q2.n, Q2.ps, p9, k9, f, x.i, rfl, (by omega), HX2.out.1, HX2.out.2.1, HX2.out.2.2, hF.2.1⟩, hF.2.2.1⟩
        · have hszb : (((w6.setCell ⟨b, 0, none⟩ (.string Q.d)).setCell ⟨b, 1, none⟩ (.int .i64 Q.n)).setCell ⟨b, 2, none⟩ (.slice p6 Q.ps.length k6)).heap.size = w6.heap.size := by simp
          have HB6b := Lib.hid (Arr.fresh (((w6.setCell ⟨b, 0, none⟩ (.string Q.d)).setCell ⟨b, 1, none⟩ (.int .i64 Q.n)).setCell ⟨b, 2, none⟩ (.slice p6 Q.ps.length k6)) 29 [.string Q.d, .int .i64 Q.n, .slice p6 Q.ps.length k6, .int .i64 Q.i, .int .i64 Q.c])
          rw [hszb] at HB6b
          have HS6b := Lib.hid ((HSw.out.new HVw.out (d2 := Q.d) (n2 := Q.n)).on ((Below.refl _ _).alloc (Nat.le_refl _) (.cells #[.string Q.d, .int .i64 Q.n, .slice p6 Q.ps.length k6, .int .i64 Q.i, .int .i64 Q.c] 29)))
          have HA6b := Lib.hid (arr_alloc (arr_beside (arr_beside (arr_beside HAw.out b 0 (.string Q.d) (by omega)) b 1 (.int .i64 Q.n) (by omega)) b 2 (.slice p6 Q.ps.length k6) (by omega)) (.cells #[.string Q.d, .int .i64 Q.n, .slice p6 Q.ps.length k6, .int .i64 Q.i, .int .i64 Q.c] 29))
          clear hszb
          go_wp2_with fail
          clear c0 c1 c2 c3 c4 o0 o1 o2 o3 o4 o5 HS6 HA6 HB6 HV6 HSw HAw HVw
          generalize (((w6.setCell ⟨b, 0, none⟩ (.string Q.d)).setCell ⟨b, 1, none⟩ (.int .i64 Q.n)).setCell ⟨b, 2, none⟩ (.slice p6 Q.ps.length k6)).alloc (.cells #[.string Q.d, .int .i64 Q.n, .slice p6 Q.ps.length k6, .int .i64 Q.i, .int .i64 Q.c] 29) = W6 at HS6b HA6b HB6b ⊢
          have HS6 := HS6b
          have HA6 := HA6b
          have HB6 := HB6b
          clear HS6b HA6b HB6b
          obtain ⟨y, hy⟩ : ∃ y, w6.heap.size = y := ⟨_, rfl⟩
          rw [hy] at HB6 hby hzy ⊢
          clear hy hq1 hq2
          have hneD : ∀ j, (Value.slice p6 Q.ps.length k6).ownBlock = some j → y ≠ j := fun j hj => (own_ne_box HS6.out.2.2.2.2.1 HB6.out (by decide) j hj).symm
          refine wp_region_held_drew (S := fun W => Arr W b 25 [.string Q.d, .int .i64 Q.n, .slice p6 Q.ps.length k6]) (by kernel_rfl) HS6.out.2.2.2.1 (fun hHeld => ?_)
          have HS7 := Lib.hid (HS6.out.on (Below.refl _ _).drew)
          have HA7 := Lib.hid (arr_below HA6.out (Below.refl _ _).drew)
          have HB7 := Lib.hid (arr_below HB6.out (Below.refl _ _).drew)
          generalize World.drew _ = Wd at HS7 HA7 HB7 hHeld ⊢
          clear HS6 HA6 HB6
          refine takeQ (i := 0) (k := 49) (v := .agg #[.string Q.d, .int .i64 Q.n, .slice p6 Q.ps.length k6]) rfl (by rfl) (by kernel_rfl) (by kernel_rfl) (by kernel_rfl) (fun _ _ _ h => h) (by rfl) ?_ hHeld ?_
          · intro w1 hSw; obtain ⟨m0, m1, m2, -⟩ := arr_three hSw; go_simp
          (try simp only [Act.put, List.setIfInBounds_toArray, List.set_cons_zero, List.set_cons_succ])
          refine takeQ (i := 1) (k := 50) (v := .int .i64 x.i) rfl (by rfl) (by kernel_rfl) (by kernel_rfl) (by kernel_rfl) (fun _ _ _ h => h) (by rfl) ?_ hHeld ?_
          · intro w1 hSw; go_simp
          (try simp only [Act.put, List.setIfInBounds_toArray, List.set_cons_zero, List.set_cons_succ])
          refine takeQ (i := 2) (k := 51) (v := .pointer (some ⟨w.heap.size + 1, 0, none⟩)) rfl (by rfl) (by kernel_rfl) (by kernel_rfl) (by kernel_rfl) (fun _ _ _ h => h) (by rfl) ?_ hHeld ?_
          · intro w1 hSw; go_simp
          (try simp only [Act.put, List.setIfInBounds_toArray, List.set_cons_zero, List.set_cons_succ])
          refine wpAnyH_ready (rs := [3]) (by kernel_rfl) (by simp) ?_
          refine AllReadyH.cons rfl (fun K hK => ?_) AllReadyH.nil
          rw [if_pos (by rfl)]
          go_simp
          go_fit (src_one (w.heap.size + 1) (w.heap.size + 1) 4 _ (by omega) HS7.out.1)
          rintro e wx ⟨_, rfl, ⟨q2, rfl⟩, hSz, hgz⟩
          have HS8 := Lib.hid (HS7.out.src hSz hgz)
          have HA8 := Lib.hid (arr_grown HA7.out hgz (by omega))
          have HB8 := Lib.hid (arr_grown HB7.out hgz (by omega))
          clear HS7 HA7 HB7
          refine hK.out _ _ (HS8.out.2.2.2.1) (fun hHeld => ?_)
          clear hK K
          (try simp only [Act.put, List.setIfInBounds_toArray, List.set_cons_zero, List.set_cons_succ])
          refine takeQ (i := 4) (k := 53) (v := .bool (!q2)) rfl (by rfl) (by kernel_rfl) (by kernel_rfl) (by kernel_rfl) (fun _ _ _ h => h) (by rfl) ?_ hHeld ?_
          · intro w1 hSw; go_simp
          (try simp only [Act.put, List.setIfInBounds_toArray, List.set_cons_zero, List.set_cons_succ])
          refine wpAnyH_ready (rs := [5]) (by kernel_rfl) (by simp) ?_
          refine AllReadyH.cons rfl (fun K hK => ?_) AllReadyH.nil
          rw [if_pos (by rfl)]
          go_simp
          go_fit (spec_verified Q.d Q.n Q.ps p6 k6 (w.heap.size + 2) x.i (!q2) _ (by have := HXQ.out.1; omega) (by have := HXQ.out.2.1; omega) (fun x hx => ⟨by have := (HXQ.out.2.2 x hx).1; omega, by have := (HXQ.out.2.2 x hx).2; omega⟩) HS8.out.2.2.2.2.1)
          rintro e wy ⟨⟨p9, k9, rfl, hv⟩, hb⟩
          have hdR2 := dlx_verified HXQ.out (n := Q.n) (id := x.i) (good := !q2)
          obtain ⟨Q2, hQ2⟩ : ∃ Q9, verifiedR Q.d Q.n Q.ps x.i (!q2) = Q9 := ⟨_, rfl⟩
          rw [hQ2] at hv hdR2 ⊢
          have HX2 : Hid (DlX Q2.d Q2.ps) := Lib.hid hdR2
          unfold doV
          have HS9 := Lib.hid (HS8.out.on hb)
          have HA9 := Lib.hid (arr_below HA8.out hb)
          have HB9 := Lib.hid (arr_below HB8.out hb)
          have HV9 := Lib.hid (hv.mono (B' := w.heap.size + 2) (by have := arr_lt HS8.out.2.2.2.1; omega))
          clear hQ2 hb hv hdR2 HS8 HA8 HB8
          refine hK.out _ _ (HS9.out.2.2.2.1) (fun hHeld => ?_)
          clear hK K
          (try simp only [Act.put, List.setIfInBounds_toArray, List.set_cons_zero, List.set_cons_succ])
          obtain ⟨⟨c0, c1, c2, c3, c4⟩, f0, f1, f2_, f3, f4⟩ := arr_five HB9.out
          refine wpAnyH_ready (rs := [6]) (by kernel_rfl) (by simp) ?_
          refine AllReadyH.cons rfl (fun K hK => ?_) AllReadyH.nil
          rw [if_pos (by rfl)]
          go_simp
          have hne5 := own_ne_box HV9.out HB9.out (by decide)
          have HS10 := Lib.hid (HS9.out.put5 (z := y) (by omega) (by omega) hneD (.string Q2.d) (.int .i64 Q2.n) (.slice p9 Q2.ps.length k9) (.int .i64 Q2.i) (.int .i64 Q2.c))
          have HA10 := Lib.hid (arr_put5b HA9.out (b := y) (by omega) (.string Q2.d) (.int .i64 Q2.n) (.slice p9 Q2.ps.length k9) (.int .i64 Q2.i) (.int .i64 Q2.c))
          have HB10 := Lib.hid (arr_put5 HB9.out (.string Q2.d) (.int .i64 Q2.n) (.slice p9 Q2.ps.length k9) (.int .i64 Q2.i) (.int .i64 Q2.c))
          have HV10 := Lib.hid (own_put5 HV9.out hne5 (.string Q2.d) (.int .i64 Q2.n) (.slice p9 Q2.ps.length k9) (.int .i64 Q2.i) (.int .i64 Q2.c))
          clear HS9 HA9 HB9 HV9
          refine hK.out _ _ (HS10.out.2.2.2.1) (fun hHeld => ?_)
          clear hK K c0 c1 c2 c3 c4 f0 f1 f2_ f3 f4
          (try simp only [Act.put, List.setIfInBounds_toArray, List.set_cons_zero, List.set_cons_succ])
          refine wpAnyH_done (by kernel_rfl) ?_ _
          have hz5 : ((((wy.setCell ⟨y, 0, none⟩ (.string Q2.d)).setCell ⟨y, 1, none⟩ (.int .i64 Q2.n)).setCell ⟨y, 2, none⟩ (.slice p9 Q2.ps.length k9)).setCell ⟨y, 3, none⟩ (.int .i64 Q2.i)).setCell ⟨y, 4, none⟩ (.int .i64 Q2.c) = put5 wy y (.string Q2.d) (.int .i64 Q2.n) (.slice p9 Q2.ps.length k9) (.int .i64 Q2.i) (.int .i64 Q2.c) := rfl
          rw [hz5]
          clear hz5
          generalize put5 wy y (.string Q2.d) (.int .i64 Q2.n) (.slice p9 Q2.ps.length k9) (.int .i64 Q2.i) (.int .i64 Q2.c) = wz at HS10 HA10 HB10 HV10 ⊢
          obtain ⟨⟨c0, c1, c2, c3, c4⟩, -⟩ := arr_five HB10.out
          obtain ⟨o0, o1, o2, o3, o4, o5⟩ := arr_three HS10.out.2.2.2.1
          have hq1 : ¬ (y = b) := by omega
          have hq2 : ¬ (b = y) := by omega
          obtain ⟨bq2, hbq2⟩ : ∃ b, (Q2.c == 0) = b := ⟨_, rfl⟩
          cases bq2
          · go_wp2_with (first
              | (go_at_call 28; go_fit (src_one (w.heap.size + 1) (w.heap.size + 1) 5 _ (by omega) HS10.out.1); rintro e wv ⟨_, rfl, ⟨q5, rfl⟩, hSv, hgv⟩; have HSv := Lib.hid (HS10.out.src hSv hgv); have e0 : wv.cell? ⟨z, 0, none⟩ = some (.string x.d) := (arr_grown HA10.out hgv (by omega)).cell 0; (obtain ⟨v0, v1, v2, -⟩ := arr_three HSv.out.2.2.2.1); (obtain ⟨z0, z1, z2, z3, z4, z5⟩ := arr_three HSv.out.2.2.1); clear hSv hgv; cases q5))
            · have hF := HSv.out.fin
              obtain ⟨y0, y1, y2, -⟩ := arr_three hF.1
              exact bodyPost_ret (v := .tuple #[.agg #[.string Q.d, .int .i64 Q.n, .slice p6 Q.ps.length k6], .string x.d, .int .i64 (x.i)]) (by simp [results, Tryd.results16, go_sem, y0, y1, y2]) rfl ⟨⟨Q.d, Q.n, Q.ps, p6, k6, x.d, x.i, rfl, hxb, HXQ.out.1, HXQ.out.2.1, HXQ.out.2.2, hF.2.1⟩, hF.2.2.1⟩
            · have hF := HSv.out.fin
              obtain ⟨y0, y1, y2, -⟩ := arr_three hF.1
              exact bodyPost_ret (v := .tuple #[.agg #[.string Q.d, .int .i64 Q.n, .slice p6 Q.ps.length k6], .string f, .int .i64 (x.i)]) (by simp [results, Tryd.results16, go_sem, y0, y1, y2]) rfl ⟨⟨Q.d, Q.n, Q.ps, p6, k6, f, x.i, rfl, (by omega), HXQ.out.1, HXQ.out.2.1, HXQ.out.2.2, hF.2.1⟩, hF.2.2.1⟩
          · have HS11 := Lib.hid (HS10.out.new HV10.out (d2 := Q2.d) (n2 := Q2.n))
            have HA11 := Lib.hid (arr_beside (arr_beside (arr_beside HA10.out b 0 (.string Q2.d) (by omega)) b 1 (.int .i64 Q2.n) (by omega)) b 2 (.slice p9 Q2.ps.length k9) (by omega))
            go_wp2_with (first
              | (go_at_call 28; go_fit (src_one (w.heap.size + 1) (w.heap.size + 1) 5 _ (by omega) HS11.out.1); rintro e wv ⟨_, rfl, ⟨q5, rfl⟩, hSv, hgv⟩; have HSv := Lib.hid (HS11.out.src hSv hgv); have e0 : wv.cell? ⟨z, 0, none⟩ = some (.string x.d) := (arr_grown HA11.out hgv (by omega)).cell 0; (obtain ⟨v0, v1, v2, -⟩ := arr_three HSv.out.2.2.2.1); (obtain ⟨z0, z1, z2, z3, z4, z5⟩ := arr_three HSv.out.2.2.1); clear hSv hgv; cases q5))
            · have hF := HSv.out.fin
              obtain ⟨y0, y1, y2, -⟩ := arr_three hF.1
              exact bodyPost_ret (v := .tuple #[.agg #[.string Q2.d, .int .i64 Q2.n, .slice p9 Q2.ps.length k9], .string x.d, .int .i64 (x.i)]) (by simp [results, Tryd.results16, go_sem, y0, y1, y2]) rfl ⟨⟨Q2.d, Q2.n, Q2.ps, p9, k9, x.d, x.i, rfl, hxb, HX2.out.1, HX2.out.2.1, HX2.out.2.2, hF.2.1⟩, hF.2.2.1⟩
            · have hF := HSv.out.fin
              obtain ⟨y0, y1, y2, -⟩ := arr_three hF.1
              exact bodyPost_ret (v := .tuple #[.agg #[.string Q2.d, .int .i64 Q2.n, .slice p9 Q2.ps.length k9], .string f, .int .i64 (x.i)]) (by simp [results, Tryd.results16, go_sem, y0, y1, y2]) rfl ⟨⟨Q2.d, Q2.n, Q2.ps, p9, k9, f, x.i, rfl, (by omega), HX2.out.1, HX2.out.2.1, HX2.out.2.2, hF.2.1⟩, hF.2.2.1⟩
      refine wp_region_held_drew (S := fun W => Arr W b 25 [.string d, .int .i64 n, .slice (some ⟨gg, 0, none⟩) ps.length k] ∧ OwnC prC W (w.heap.size + 2) 43 4 (.slice (some ⟨gg, 0, none⟩) ps.length k) ps) (by kernel_rfl) ⟨HW5.out.2.2.2.1, HW5.out.2.2.2.2.1⟩ (fun hHeld => ?_)
      have HW6 := Lib.hid (HW5.out.on (Below.refl _ _).drew)
      generalize World.drew _ = Wd at HW6 hHeld ⊢
      clear HW5
      refine takeQ (i := 0) (k := 30) (v := .pointer (some ⟨b, 2, none⟩)) rfl (by rfl) (by kernel_rfl) (by kernel_rfl) (by kernel_rfl) (fun _ _ _ h => h) (by rfl) ?_ hHeld ?_
      · intro w1 hSw; go_simp
      (try simp only [Act.put, List.setIfInBounds_toArray, List.set_cons_zero, List.set_cons_succ])
      refine takeQ (i := 1) (k := 31) (v := .slice (some ⟨gg, 0, none⟩) ps.length k) rfl (by rfl) (by kernel_rfl) (by kernel_rfl) (by kernel_rfl) (fun _ _ _ h => h) (by rfl) ?_ hHeld ?_
      · intro w1 hSw; obtain ⟨m0, m1, m2, -⟩ := arr_three hSw.1; go_simp
      (try simp only [Act.put, List.setIfInBounds_toArray, List.set_cons_zero, List.set_cons_succ])
      refine takeQ (i := 2) (k := 32) (v := .pointer (some ⟨w.heap.size + 1, 0, none⟩)) rfl (by rfl) (by kernel_rfl) (by kernel_rfl) (by kernel_rfl) (fun _ _ _ h => h) (by rfl) ?_ hHeld ?_
      · intro w1 hSw; go_simp
      (try simp only [Act.put, List.setIfInBounds_toArray, List.set_cons_zero, List.set_cons_succ])
      refine takeQ (i := 3) (k := 33) (v := .pointer (some ⟨b, 2, none⟩)) rfl (by rfl) (by kernel_rfl) (by kernel_rfl) (by kernel_rfl) (fun _ _ _ h => h) (by rfl) ?_ hHeld ?_
      · intro w1 hSw; go_simp
      (try simp only [Act.put, List.setIfInBounds_toArray, List.set_cons_zero, List.set_cons_succ])
      refine takeQ (i := 4) (k := 34) (v := .slice (some ⟨gg, 0, none⟩) ps.length k) rfl (by rfl) (by kernel_rfl) (by kernel_rfl) (by kernel_rfl) (fun _ _ _ h => h) (by rfl) ?_ hHeld ?_
      · intro w1 hSw; obtain ⟨m0, m1, m2, -⟩ := arr_three hSw.1; go_simp
      (try simp only [Act.put, List.setIfInBounds_toArray, List.set_cons_zero, List.set_cons_succ])
      refine takeQ (i := 5) (k := 35) (v := .int .i64 (ps.length : Int)) rfl (by rfl) (by kernel_rfl) (by kernel_rfl) (by kernel_rfl) (fun _ _ _ h => h) (by rfl) ?_ hHeld ?_
      · intro w1 hSw; go_simp
      (try simp only [Act.put, List.setIfInBounds_toArray, List.set_cons_zero, List.set_cons_succ])
      refine wpAnyH_ready (rs := [6, 9]) (by kernel_rfl) (by simp) ?_
      refine AllReadyH.cons rfl (fun K hK => ?_) (AllReadyH.cons rfl (fun K hK => ?_) AllReadyH.nil)
      · rw [if_pos (by rfl)]
        go_simp
        go_fit (src_n (w.heap.size + 1) (w.heap.size + 1) (ps.length : Int) _ (by omega) HW6.out.1)
        rintro e W7 ⟨_, rfl, ⟨r2, rfl, h20, h21⟩, hS7, hg7⟩
        replace HW6 := Lib.hid (HW6.out.src hS7 hg7)
        obtain ⟨m, rfl⟩ : ∃ m : Nat, r2 = m := ⟨r2.toNat, by omega⟩
        have hm : m < ps.length := by omega
        refine hK.out _ _ (⟨HW6.out.2.2.2.1, HW6.out.2.2.2.2.1⟩) (fun hHeld => ?_)
        clear hK K
        (try simp only [Act.put, List.setIfInBounds_toArray, List.set_cons_zero, List.set_cons_succ])
        obtain ⟨x, hx⟩ : ∃ x, ps[m] = x := ⟨_, rfl⟩
        have hxb : x.d.size ≤ 100 := by rw [← hx]; exact (HX.out.2.2 _ (List.getElem_mem hm)).1
        refine takeQ (i := 7) (k := 37) (v := .pointer (some ⟨gg, m * 4, none⟩)) rfl (by rfl) (by kernel_rfl) (by kernel_rfl) (by kernel_rfl) (fun _ _ _ h => h) (by rfl) ?_ hHeld ?_
        · intro w1 hSw; go_simp
        (try simp only [Act.put, List.setIfInBounds_toArray, List.set_cons_zero, List.set_cons_succ])
        refine takeQ (i := 8) (k := 38) (v := prV x) rfl (by rfl) (by kernel_rfl) (by kernel_rfl) (by kernel_rfl) (fun _ _ _ h => h) (by rfl) ?_ hHeld ?_
        · intro w1 hSw; obtain ⟨g', e', hg', r0, r1, r2, r3⟩ := row4 (rowP hSw.2) hm
          injection e' with e'
          injection e' with e'
          subst e'
          rw [hx] at r0 r1 r2 r3
          go_simp
          rfl
        (try simp only [Act.put, List.setIfInBounds_toArray, List.set_cons_zero, List.set_cons_succ])
        refine wpAnyH_ready (rs := [9]) (by kernel_rfl) (by simp) ?_
        refine AllReadyH.cons rfl (fun K hK => ?_) AllReadyH.nil
        rw [if_pos (by rfl)]
        go_simp
        have hzb := Arr.fresh W7 43 [.string ⟨#[]⟩, .int .i64 0, .int .i64 0, .string ⟨#[]⟩]
        have hbz := arr_lt HW6.out.2.2.2.1
        have hwz := HW6.out.1.lt
        have hnz : ∀ j, (Value.slice (some ⟨gg, 0, none⟩) ps.length k).ownBlock = some j → W7.heap.size ≠ j := fun j hj => by have := own_lt HW6.out.2.2.2.2.1 j hj; omega
        replace HW6 := Lib.hid (HW6.out.on ((Below.refl _ W7).alloc (Nat.le_refl _) (.cells #[.string ⟨#[]⟩, .int .i64 0, .int .i64 0, .string ⟨#[]⟩] 43)))
        refine hK.out _ _ (⟨HW6.out.2.2.2.1, HW6.out.2.2.2.2.1⟩) (fun hHeld => ?_)
        clear hK K
        (try simp only [Act.put, List.setIfInBounds_toArray, List.set_cons_zero, List.set_cons_succ])
        refine wpAnyH_ready (rs := [10]) (by kernel_rfl) (by simp) ?_
        refine AllReadyH.cons rfl (fun K hK => ?_) AllReadyH.nil
        rw [if_pos (by rfl)]
        refine wp_store_row 43 _ _ rfl W7.heap.size _ rfl rfl 43 _ hzb (by kernel_rfl) (by rfl) (by kernel_rfl) ?_
        have hF := setRow_heap _ _ _ (prC x).toArray _ _ hzb
        have hD := HW6.out.row (z := W7.heap.size) (by omega) (by omega) hnz (prC x).toArray
        refine hK.out _ _ (⟨hD.2.2.2.1, hD.2.2.2.2.1⟩) (fun hHeld => ?_)
        clear hK K
        (try simp only [Act.put, List.setIfInBounds_toArray, List.set_cons_zero, List.set_cons_succ])
        refine wpAnyH_done (by kernel_rfl) ?_ _
        exact ⟨⟨W7.heap.size, x, rfl, hD, hF, hxb, by omega, by omega⟩, by simp only [putAll, Act.put, List.setIfInBounds_toArray, List.set_cons_zero, List.set_cons_succ]; rfl⟩
      · rw [if_pos (by rfl)]
        go_simp
        have hzb := Arr.fresh Wd 43 [.string ⟨#[]⟩, .int .i64 0, .int .i64 0, .string ⟨#[]⟩]
        have hbz := arr_lt HW6.out.2.2.2.1
        have hwz := HW6.out.1.lt
        have hnz : ∀ j, (Value.slice (some ⟨gg, 0, none⟩) ps.length k).ownBlock = some j → Wd.heap.size ≠ j := fun j hj => by have := own_lt HW6.out.2.2.2.2.1 j hj; omega
        replace HW6 := Lib.hid (HW6.out.on ((Below.refl _ Wd).alloc (Nat.le_refl _) (.cells #[.string ⟨#[]⟩, .int .i64 0, .int .i64 0, .string ⟨#[]⟩] 43)))
        refine hK.out _ _ (⟨HW6.out.2.2.2.1, HW6.out.2.2.2.2.1⟩) (fun hHeld => ?_)
        clear hK K
        (try simp only [Act.put, List.setIfInBounds_toArray, List.set_cons_zero, List.set_cons_succ])
        refine wpAnyH_ready (rs := [6]) (by kernel_rfl) (by simp) ?_
        refine AllReadyH.cons rfl (fun K hK => ?_) AllReadyH.nil
        rw [if_pos (by rfl)]
        go_simp
        go_fit (src_n (w.heap.size + 1) (w.heap.size + 1) (ps.length : Int) _ (by omega) HW6.out.1)
        rintro e W7 ⟨_, rfl, ⟨r2, rfl, h20, h21⟩, hS7, hg7⟩
        replace HW6 := Lib.hid (HW6.out.src hS7 hg7)
        obtain ⟨m, rfl⟩ : ∃ m : Nat, r2 = m := ⟨r2.toNat, by omega⟩
        have hm : m < ps.length := by omega
        replace hzb := arr_grown hzb hg7 (by omega)
        refine hK.out _ _ (⟨HW6.out.2.2.2.1, HW6.out.2.2.2.2.1⟩) (fun hHeld => ?_)
        clear hK K
        (try simp only [Act.put, List.setIfInBounds_toArray, List.set_cons_zero, List.set_cons_succ])
        obtain ⟨x, hx⟩ : ∃ x, ps[m] = x := ⟨_, rfl⟩
        have hxb : x.d.size ≤ 100 := by rw [← hx]; exact (HX.out.2.2 _ (List.getElem_mem hm)).1
        refine takeQ (i := 7) (k := 37) (v := .pointer (some ⟨gg, m * 4, none⟩)) rfl (by rfl) (by kernel_rfl) (by kernel_rfl) (by kernel_rfl) (fun _ _ _ h => h) (by rfl) ?_ hHeld ?_
        · intro w1 hSw; go_simp
        (try simp only [Act.put, List.setIfInBounds_toArray, List.set_cons_zero, List.set_cons_succ])
        refine takeQ (i := 8) (k := 38) (v := prV x) rfl (by rfl) (by kernel_rfl) (by kernel_rfl) (by kernel_rfl) (fun _ _ _ h => h) (by rfl) ?_ hHeld ?_
        · intro w1 hSw; obtain ⟨g', e', hg', r0, r1, r2, r3⟩ := row4 (rowP hSw.2) hm
          injection e' with e'
          injection e' with e'
          subst e'
          rw [hx] at r0 r1 r2 r3
          go_simp
          rfl
        (try simp only [Act.put, List.setIfInBounds_toArray, List.set_cons_zero, List.set_cons_succ])
        refine wpAnyH_ready (rs := [10]) (by kernel_rfl) (by simp) ?_
        refine AllReadyH.cons rfl (fun K hK => ?_) AllReadyH.nil
        rw [if_pos (by rfl)]
        refine wp_store_row 43 _ _ rfl Wd.heap.size _ rfl rfl 43 _ hzb (by kernel_rfl) (by rfl) (by kernel_rfl) ?_
        have hF := setRow_heap _ _ _ (prC x).toArray _ _ hzb
        have hD := HW6.out.row (z := Wd.heap.size) (by omega) (by omega) hnz (prC x).toArray
        refine hK.out _ _ (⟨hD.2.2.2.1, hD.2.2.2.2.1⟩) (fun hHeld => ?_)
        clear hK K
        (try simp only [Act.put, List.setIfInBounds_toArray, List.set_cons_zero, List.set_cons_succ])
        refine wpAnyH_done (by kernel_rfl) ?_ _
        exact ⟨⟨Wd.heap.size, x, rfl, hD, hF, hxb, by omega, by omega⟩, by simp only [putAll, Act.put, List.setIfInBounds_toArray, List.set_cons_zero, List.set_cons_succ]; rfl⟩
    · have hF := HW5.out.fin
      obtain ⟨y0, y1, y2, -⟩ := arr_three hF.1
      exact bodyPost_ret (v := .tuple #[.agg #[.string d, .int .i64 n, .slice (some ⟨gg, 0, none⟩) ps.length k], .string f, .int .i64 (1 + r)]) (by simp [results, Tryd.results16, go_sem, y0, y1, y2]) rfl ⟨⟨d, n, ps, (some ⟨gg, 0, none⟩), k, f, 1 + r, rfl, (by omega), HX.out.1, HX.out.2.1, HX.out.2.2, hF.2.1⟩, hF.2.2.1⟩
  · obtain ⟨c0, c1, c2, -⟩ := arr_three HWc.out.2.2.2.1
    obtain ⟨z0, z1, z2, z3, z4, z5⟩ := arr_three HWc.out.2.2.1
    have hF := HWc.out.fin
    obtain ⟨y0, y1, y2, -⟩ := arr_three hF.1
    go_wp2
    exact bodyPost_ret (v := .tuple #[.agg #[.string d, .int .i64 n, .slice p ps.length k], .string f, .int .i64 (1 + r)]) (by simp [results, Tryd.results16, go_sem, y0, y1, y2]) rfl ⟨⟨d, n, ps, p, k, f, 1 + r, rfl, (by omega), HX.out.1, HX.out.2.1, HX.out.2.2, hF.2.1⟩, hF.2.2.1⟩
end Go.Proofs.YtkjkfcljejjpbaaDoor

namespace Go.Proofs.YtkjkfcljejjpbaaDoor
set_option linter.unusedSimpArgs false
set_option linter.unusedVariables false

/-- Numbers of peers increase. -/
theorem prs_low {n : Int} : ∀ {l : Int} {ps : List PrL}, prsB n l ps = true → ∀ (j : Nat) (hj : j < ps.length), l < ps[j].i
  | l, x :: r, h, 0, _ => by
    simp only [prsB, Bool.and_eq_true, decide_eq_true_eq] at h
    exact h.1.1.2
  | l, x :: r, h, j + 1, hj => by
    simp only [prsB, Bool.and_eq_true, decide_eq_true_eq] at h
    have := prs_low h.2 j (by simpa using hj)
    simp only [List.getElem_cons_succ]
    have h2 := h.1.1.2
    omega
theorem prs_one {n : Int} : ∀ {l : Int} {ps : List PrL}, prsB n l ps = true → ∀ (i j : Nat) (hi : i < ps.length) (hj : j < ps.length), ps[i].i = ps[j].i → i = j
  | l, x :: r, h, 0, 0, _, _, _ => rfl
  | l, x :: r, h, 0, j + 1, _, hj, e => by
    simp only [prsB, Bool.and_eq_true, decide_eq_true_eq] at h
    have := prs_low h.2 j (by simpa using hj)
    simp only [List.getElem_cons_succ, List.getElem_cons_zero] at e
    omega
  | l, x :: r, h, i + 1, 0, hi, _, e => by
    simp only [prsB, Bool.and_eq_true, decide_eq_true_eq] at h
    have := prs_low h.2 i (by simpa using hi)
    simp only [List.getElem_cons_succ, List.getElem_cons_zero] at e
    omega
  | l, x :: r, h, i + 1, j + 1, hi, hj, e => by
    simp only [prsB, Bool.and_eq_true, decide_eq_true_eq] at h
    have := prs_one h.2 i j (by simpa using hi) (by simpa using hj) (by simpa using e)
    omega
theorem getD_here {ps : List PrL} {K : Nat} (hK : K < ps.length) (y : PrL) : (ps.set K y).getD K default = y := by
  rw [getD_at (by rw [List.length_set]; exact hK), List.getElem_set_self]
theorem open_fact {d : ByteArray} {n : Int} {ps : List PrL} {f : ByteArray} (h : (openR d n ps f).c = 0) :
    (openR d n ps f).i = n ∧ trB (openR d n ps f).d (openR d n ps f).n (openR d n ps f).ps f (openR d n ps f).i = false ∧ dbB (openR d n ps f).d (openR d n ps f).n (openR d n ps f).ps = true := by
  unfold openR at h ⊢
  split at h
  · exact absurd h (by decide)
  · rename_i h0
    split at h
    · exact absurd h (by decide)
    · rename_i h1
      split at h
      · exact absurd h (by decide)
      · rename_i h2
        rw [if_neg h0, if_neg h1, if_neg h2]
        have h3 : dbB d n ps = true ∧ domB f = true := by
          have : (dbB d n ps && domB f) = true := by simpa using h1
          simpa using this
        have h4 := open_right h3.1 h3.2 (fun e => h2 (.inl e)) (fun e => h2 (.inr e))
        refine ⟨rfl, ?_, h4⟩
        unfold trB
        rw [open_trust (d := d) (f := f) (db_parts h3.1).2.2.2.2]
        simp
theorem result_fact {d : ByteArray} {n : Int} {ps : List PrL} {id : Int} {key : ByteArray} (h : (resultR d n ps id key).c = 0) :
    (resultR (resultR d n ps id key).d (resultR d n ps id key).n (resultR d n ps id key).ps id key).c = 10 ∧ dbB (resultR d n ps id key).d (resultR d n ps id key).n (resultR d n ps id key).ps = true := by
  by_cases h0 : 20000 < key.size
  · unfold resultR at h
    rw [if_pos h0] at h
    exact absurd h (by decide)
  by_cases h1 : dbB d n ps = false
  · unfold resultR at h
    rw [if_neg h0, if_pos h1] at h
    exact absurd h (by decide)
  cases hK : atK id ps with
  | none =>
    unfold resultR at h
    rw [if_neg h0, if_neg h1, hK] at h
    exact absurd (show (errR 6).c = 0 from h) (by decide)
  | some K =>
    obtain ⟨hk, he⟩ := atK_lt hK
    have hh := h
    unfold resultR at hh
    rw [if_neg h0, if_neg h1, hK] at hh
    dsimp only at hh
    by_cases h2 : key.size = 0 ∨ 64 < key.size
    · rw [if_pos h2] at hh
      exact absurd hh (by decide)
    by_cases h3 : (ps.getD K default).s ≠ 0
    · rw [if_neg h2, if_pos h3] at hh
      exact absurd hh (by decide)
    have e : resultR d n ps id key = ⟨d, n, ps.set K (prK (ps.getD K default) 1 key), 0, 0⟩ := by
      unfold resultR
      rw [if_neg h0, if_neg h1, hK]
      dsimp only
      rw [if_neg h2, if_neg h3]
    rw [e]
    dsimp only
    rw [getD_at hk]
    have hr := result_right (key := key) (by simpa using h1) hk (by omega) (by omega)
    refine ⟨?_, hr⟩
    have ha : atK id (ps.set K (prK ps[K] 1 key)) = some K := (at_set (y := prK ps[K] 1 key) hk rfl).trans hK
    unfold resultR
    rw [if_neg h0, if_neg (by rw [hr]; decide), ha]
    dsimp only
    rw [if_neg h2, getD_here hk, if_pos (show (prK ps[K] 1 key).s ≠ 0 from (show (1 : Int) ≠ 0 by decide))]
    rfl
theorem verified_fact {d : ByteArray} {n : Int} {ps : List PrL} {id : Int} {good : Bool} (h : (verifiedR d n ps id good).c = 0) :
    (verifiedR (verifiedR d n ps id good).d (verifiedR d n ps id good).n (verifiedR d n ps id good).ps id good).c = 10 ∧
    ∀ (i : Nat) (hi : i < (verifiedR d n ps id good).ps.length), (verifiedR d n ps id good).ps[i].i = id → trB (verifiedR d n ps id good).d (verifiedR d n ps id good).n (verifiedR d n ps id good).ps (verifiedR d n ps id good).ps[i].d id = good := by
  by_cases h1 : dbB d n ps = false
  · unfold verifiedR at h
    rw [if_pos h1] at h
    exact absurd h (by decide)
  cases hK : atK id ps with
  | none =>
    unfold verifiedR at h
    rw [if_neg h1, hK] at h
    exact absurd (show (errR 6).c = 0 from h) (by decide)
  | some K =>
    obtain ⟨hk, he⟩ := atK_lt hK
    have hh := h
    unfold verifiedR at hh
    rw [if_neg h1, hK] at hh
    dsimp only at hh
    by_cases h3 : (ps.getD K default).s ≠ 1
    · rw [if_pos h3] at hh
      exact absurd hh (by decide)
    have e : verifiedR d n ps id good = ⟨d, n, ps.set K (prS (ps.getD K default) (if good then 2 else 3)), 0, 0⟩ := by
      unfold verifiedR
      rw [if_neg h1, hK]
      dsimp only
      rw [if_neg h3]
    rw [getD_at hk] at h3
    have h3' : ps[K].s = 1 := by omega
    have hr := verified_right good (by simpa using h1) hk h3'
    have ha : atK id (ps.set K (prS ps[K] (if good then 2 else 3))) = some K := (at_set (y := prS ps[K] (if good then 2 else 3)) hk rfl).trans hK
    rw [getD_at hk] at e
    constructor
    · rw [e]
      dsimp only
      unfold verifiedR
      rw [if_neg (by rw [hr]; decide), ha]
      dsimp only
      rw [getD_here hk, if_pos (show (prS ps[K] (if good = true then 2 else 3)).s ≠ 1 from (show (if good = true then (2 : Int) else 3) ≠ 1 by cases good <;> decide))]
      rfl
    · intro i hi hid
      simp only [e] at hi hid ⊢
      have hiK : i = K := by
        refine prs_one (db_parts hr).2.2.2.2 i K hi (by rw [List.length_set]; exact hk) ?_
        rw [hid, List.getElem_set_self]
        exact he.symm
      subst hiK
      unfold trB
      rw [hr, List.getElem_set_self, Bool.true_and]
      exact told_trust good hK hk
end Go.Proofs.YtkjkfcljejjpbaaDoor
