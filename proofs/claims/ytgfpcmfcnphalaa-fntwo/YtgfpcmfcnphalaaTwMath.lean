/- Two halves that hear each other in order agree when nothing is under way. -/
import Derived.Test.YtgfpcmfcnphalaaHfMath
namespace Go.Proofs.Ytgfpcmfcnphalaa
set_option linter.unusedSimpArgs false
set_option linter.unusedVariables false

/-- What is heard by the half that is asked: in, from. -/
def ifS (p : Int × Int) (x : SbL) : Int × Int :=
  if x.k = 1 then (x.n, 0) else if x.k = 3 then (if p.1 = x.n then 0 else p.1, if p.2 = x.n then 0 else p.2) else p
/-- What is heard by the half that asks: out, to. -/
def otS (p : Int × Int) (x : SbL) : Int × Int :=
  if x.k = 2 then (if p.1 = x.n then (0, x.n) else p) else if x.k = 4 then (if p.1 = x.n then 0 else p.1, if p.2 = x.n then 0 else p.2) else p
/-- The numbers asked for rise from m on. -/
def risen : Int → List SbL → Prop
  | _, [] => True
  | m, x :: q => if x.k = 1 then m < x.n ∧ risen x.n q else risen m q
theorem ifS_1 {p : Int × Int} {x : SbL} (h : x.k = 1) : ifS p x = (x.n, 0) := by simp [ifS, h]
theorem ifS_3 {p : Int × Int} {x : SbL} (h : x.k = 3) : ifS p x = (if p.1 = x.n then 0 else p.1, if p.2 = x.n then 0 else p.2) := by simp [ifS, h]
theorem ifS_o {p : Int × Int} {x : SbL} (h1 : x.k ≠ 1) (h3 : x.k ≠ 3) : ifS p x = p := by simp [ifS, h1, h3]
theorem otS_2 {p : Int × Int} {x : SbL} (h : x.k = 2) : otS p x = if p.1 = x.n then (0, x.n) else p := by simp [otS, h]
theorem otS_4 {p : Int × Int} {x : SbL} (h : x.k = 4) : otS p x = (if p.1 = x.n then 0 else p.1, if p.2 = x.n then 0 else p.2) := by simp [otS, h]
theorem otS_o {p : Int × Int} {x : SbL} (h2 : x.k ≠ 2) (h4 : x.k ≠ 4) : otS p x = p := by simp [otS, h2, h4]
theorem risen_1 {m : Int} {x : SbL} {q : List SbL} (h : x.k = 1) : risen m (x :: q) ↔ m < x.n ∧ risen x.n q := by simp [risen, h]
theorem risen_o {m : Int} {x : SbL} {q : List SbL} (h : x.k ≠ 1) : risen m (x :: q) ↔ risen m q := by simp [risen, h]
theorem risen_le {m m' : Int} (hm : m' ≤ m) : ∀ {q : List SbL}, risen m q → risen m' q
  | [], _ => trivial
  | x :: q, h => by
    by_cases hk : x.k = 1
    · rw [risen_1 hk] at h ⊢
      exact ⟨by omega, h.2⟩
    · rw [risen_o hk] at h ⊢
      exact risen_le hm h
theorem risen_end {N : Int} : ∀ {m : Int} {q : List SbL}, risen m q → m < N → (∀ x ∈ q, x.k = 1 → x.n < N) → risen m (q ++ [⟨1, N⟩])
  | m, [], _, hm, _ => by
    rw [List.nil_append, risen_1 rfl]
    exact ⟨hm, trivial⟩
  | m, x :: q, h, hm, hall => by
    rw [List.cons_append]
    by_cases hk : x.k = 1
    · rw [risen_1 hk] at h ⊢
      exact ⟨h.1, risen_end h.2 (hall x (List.mem_cons_self ..) hk) (fun y hy => hall y (List.mem_cons_of_mem _ hy))⟩
    · rw [risen_o hk] at h ⊢
      exact risen_end h hm (fun y hy => hall y (List.mem_cons_of_mem _ hy))
theorem risen_other {y : SbL} (hy : y.k ≠ 1) : ∀ {m : Int} {q : List SbL}, risen m q → risen m (q ++ [y])
  | m, [], _ => by
    rw [List.nil_append, risen_o hy]
    trivial
  | m, x :: q, h => by
    rw [List.cons_append]
    by_cases hk : x.k = 1
    · rw [risen_1 hk] at h ⊢
      exact ⟨h.1, risen_other hy h.2⟩
    · rw [risen_o hk] at h ⊢
      exact risen_other hy h
/-- A number that is not answered yet stays pending. -/
theorem ot_new {n : Int} : ∀ {r : List SbL}, (∀ x ∈ r, x.k = 2 ∨ x.k = 4 → x.n ≠ n) → r.foldl otS (n, 0) = (n, 0)
  | [], _ => rfl
  | x :: r, h => by
    have hx := h x (List.mem_cons_self ..)
    have e : otS (n, 0) x = (n, 0) := by
      by_cases h2 : x.k = 2
      · have := hx (.inl h2)
        rw [otS_2 h2, if_neg (by simpa using fun e => this e.symm)]
      · by_cases h4 : x.k = 4
        · have := hx (.inr h4)
          rw [otS_4 h4]
          simp only
          rw [if_neg (fun e => this e.symm)]
          simp
        · exact otS_o h2 h4
    rw [List.foldl_cons, e]
    exact ot_new (fun y hy => h y (List.mem_cons_of_mem _ hy))
theorem ot_none : ∀ {r : List SbL}, r.foldl otS (0, 0) = (0, 0) ∨ ∃ x ∈ r, x.k = 2 ∧ x.n = 0
  | [] => .inl rfl
  | x :: r => by
    by_cases h2 : x.k = 2 ∧ x.n = 0
    · exact .inr ⟨x, List.mem_cons_self .., h2⟩
    · have e : otS (0, 0) x = (0, 0) := by
        by_cases k2 : x.k = 2
        · rw [otS_2 k2, if_neg (by intro e; exact h2 ⟨k2, e.symm⟩)]
        · by_cases h4 : x.k = 4
          · rw [otS_4 h4]; simp
          · exact otS_o k2 h4
      rw [List.foldl_cons, e]
      rcases ot_none (r := r) with h | ⟨y, hy, hh⟩
      · exact .inl h
      · exact .inr ⟨y, List.mem_cons_of_mem _ hy, hh⟩
/-- What one number can come to. -/
theorem ot_one {n : Int} : ∀ {r : List SbL} {p : Int × Int}, (∀ x ∈ r, x.k = 2 ∨ x.k = 4 → 1 ≤ x.n) → (p = (n, 0) ∨ p = (0, n) ∨ p = (0, 0)) → (r.foldl otS p = (n, 0) ∨ r.foldl otS p = (0, n) ∨ r.foldl otS p = (0, 0))
  | [], _, _, h => h
  | x :: r, p, hr, h => by
    rw [List.foldl_cons]
    refine ot_one (fun y hy => hr y (List.mem_cons_of_mem _ hy)) ?_
    have hx := hr x (List.mem_cons_self ..)
    by_cases h2 : x.k = 2
    · have := hx (.inl h2)
      rw [otS_2 h2]
      rcases h with rfl | rfl | rfl
      · by_cases e : n = x.n
        · simp [e]
        · simp [e]
      · rw [if_neg (by simp; omega)]; simp
      · rw [if_neg (by simp; omega)]; simp
    · by_cases h4 : x.k = 4
      · rw [otS_4 h4]
        rcases h with rfl | rfl | rfl
        · by_cases e : n = x.n <;> simp [e]
        · by_cases e : n = x.n <;> simp [e]
        · simp
      · rw [otS_o h2 h4]; exact h
/-- A number that is not asked for any more does not come back. -/
theorem if_gone {n : Int} (hn : n ≠ 0) : ∀ {q : List SbL} {m : Int} {p : Int × Int}, risen m q → n ≤ m → p.1 ≠ n → p.2 ≠ n → (q.foldl ifS p).1 ≠ n ∧ (q.foldl ifS p).2 ≠ n
  | [], _, _, _, _, h1, h2 => ⟨h1, h2⟩
  | x :: q, m, p, hr, hm, h1, h2 => by
    rw [List.foldl_cons]
    by_cases k1 : x.k = 1
    · rw [risen_1 k1] at hr
      rw [ifS_1 k1]
      exact if_gone hn hr.2 (by omega) (by simp; omega) (by simpa using hn.symm)
    · rw [risen_o k1] at hr
      by_cases k3 : x.k = 3
      · rw [ifS_3 k3]
        refine if_gone hn hr hm ?_ ?_
        · simp only
          split
          · exact hn.symm
          · exact h1
        · simp only
          split
          · exact hn.symm
          · exact h2
      · rw [ifS_o k1 k3]
        exact if_gone hn hr hm h1 h2
theorem otS_grant_no {p : Int × Int} {n : Int} (h : p.1 ≠ n) : otS p ⟨2, n⟩ = p := by rw [otS_2 rfl, if_neg h]
theorem otS_deny_no {p : Int × Int} {n : Int} (h1 : p.1 ≠ n) (h2 : p.2 ≠ n) : otS p ⟨4, n⟩ = p := by
  rw [otS_4 rfl]
  simp only
  rw [if_neg h1, if_neg h2]
theorem if_grant {n : Int} (hn : 1 ≤ n) : ∀ {q : List SbL} {m : Int}, risen m q → n ≤ m → q.foldl ifS (0, n) = otS (q.foldl ifS (n, 0)) ⟨2, n⟩
  | [], _, _, _ => by simp [otS]
  | x :: q, m, hr, hm => by
    rw [List.foldl_cons, List.foldl_cons]
    by_cases k1 : x.k = 1
    · rw [risen_1 k1] at hr
      rw [ifS_1 k1, ifS_1 k1, otS_grant_no (if_gone (by omega) hr.2 (by omega) (by simp; omega) (by simp; omega)).1]
    · rw [risen_o k1] at hr
      by_cases k3 : x.k = 3
      · rw [ifS_3 k3, ifS_3 k3]
        by_cases e : n = x.n
        · have h0 : (if (0 : Int) = x.n then (0 : Int) else 0) = 0 := by split <;> rfl
          simp only [e.symm, if_true, h0]
          have h0' : (if (0 : Int) = n then (0 : Int) else 0) = 0 := by split <;> rfl
          rw [h0', otS_grant_no (if_gone (by omega) hr hm (by simp; omega) (by simp; omega)).1]
        · have h0 : (if (0 : Int) = x.n then (0 : Int) else 0) = 0 := by split <;> rfl
          simp only [h0, if_neg e]
          exact if_grant hn hr hm
      · rw [ifS_o k1 k3, ifS_o k1 k3]
        exact if_grant hn hr hm
theorem if_deny {n : Int} (hn : 1 ≤ n) : ∀ {q : List SbL} {m : Int} {p : Int × Int}, (p = (n, 0) ∨ p = (0, n)) → risen m q → n ≤ m → q.foldl ifS (0, 0) = otS (q.foldl ifS p) ⟨4, n⟩
  | [], _, p, hp, _, _ => by
    rcases hp with rfl | rfl
    · rw [List.foldl_nil, List.foldl_nil, otS_4 rfl]
      simp only [if_true, ite_self]
    · rw [List.foldl_nil, List.foldl_nil, otS_4 rfl]
      simp only [if_true, ite_self]
  | x :: q, m, p, hp, hr, hm => by
    rw [List.foldl_cons, List.foldl_cons]
    by_cases k1 : x.k = 1
    · rw [risen_1 k1] at hr
      have g := if_gone (n := n) (by omega) (p := (x.n, 0)) hr.2 (by omega) (by simp; omega) (by simp; omega)
      rw [ifS_1 k1, ifS_1 k1, otS_deny_no g.1 g.2]
    · rw [risen_o k1] at hr
      by_cases k3 : x.k = 3
      · have h0 : (if (0 : Int) = x.n then (0 : Int) else 0) = 0 := by split <;> rfl
        have e0 : ifS (0, 0) x = (0, 0) := by rw [ifS_3 k3]; simp only [h0]
        rw [e0]
        by_cases e : n = x.n
        · have e1 : ifS p x = (0, 0) := by
            rw [ifS_3 k3]
            rcases hp with rfl | rfl
            · simp only [h0, if_pos e]
            · simp only [h0, if_pos e]
          have g := if_gone (n := n) (by omega) (p := (0, 0)) hr hm (by simp; omega) (by simp; omega)
          rw [e1, otS_deny_no g.1 g.2]
        · have e1 : ifS p x = p := by
            rw [ifS_3 k3]
            rcases hp with rfl | rfl
            · simp only [h0, if_neg e]
            · simp only [h0, if_neg e]
          rw [e1]
          exact if_deny hn hp hr hm
      · rw [ifS_o k1 k3, ifS_o k1 k3]
        exact if_deny hn hp hr hm
/-- One direction: a half that asks (next N, out O, to T), one that is asked (in I, from F), what is under way to it and back. -/
structure Dir (N O T I F : Int) (q r : List SbL) : Prop where
  n1 : N ≤ 1000000000
  o0 : 0 ≤ O
  o1 : O ≤ N
  t0 : 0 ≤ T
  t1 : T ≤ N
  ot : O = 0 ∨ T = 0
  i0 : 0 ≤ I
  i1 : I ≤ N
  f0 : 0 ≤ F
  f1 : F ≤ N
  jf : I = 0 ∨ F = 0
  qk : ∀ x ∈ q, 1 ≤ x.k ∧ x.k ≤ 4
  qn : ∀ x ∈ q, x.k = 1 ∨ x.k = 3 → 1 ≤ x.n ∧ x.n ≤ N
  rn : ∀ x ∈ r, x.k = 2 ∨ x.k = 4 → 1 ≤ x.n ∧ x.n ≤ N
  up : ∃ m, I ≤ m ∧ F ≤ m ∧ m ≤ N ∧ risen m q
  same : r.foldl otS (O, T) = q.foldl ifS (I, F)
theorem fold_end (f : Int × Int → SbL → Int × Int) (p : Int × Int) (q : List SbL) (x : SbL) : (q ++ [x]).foldl f p = f (q.foldl f p) x := by simp
theorem mem_end {P : SbL → Prop} {q : List SbL} {x : SbL} (h : ∀ y ∈ q, P y) (hx : P x) : ∀ y ∈ q ++ [x], P y := by
  intro y hy
  rcases List.mem_append.1 hy with h1 | h1
  · exact h y h1
  · rw [List.mem_singleton.1 h1]; exact hx
theorem Dir.ask {N I F : Int} {q r : List SbL} (h : Dir N 0 0 I F q r) (hN : N < 1000000000) : Dir (N + 1) (N + 1) 0 I F (q ++ [⟨1, N + 1⟩]) r where
  n1 := by omega
  o0 := by have := h.i0; have := h.i1; omega
  o1 := by omega
  t0 := by omega
  t1 := by have := h.i0; have := h.i1; omega
  ot := .inr rfl
  i0 := h.i0
  i1 := by have := h.i1; omega
  f0 := h.f0
  f1 := by have := h.f1; omega
  jf := h.jf
  qk := mem_end h.qk (by simp)
  qn := mem_end (fun x hx k => ⟨(h.qn x hx k).1, by have := (h.qn x hx k).2; omega⟩) (fun _ => ⟨by have := h.i0; have := h.i1; simp; omega, by simp⟩)
  rn := fun x hx k => ⟨(h.rn x hx k).1, by have := (h.rn x hx k).2; omega⟩
  up := by
    obtain ⟨m, h1, h2, h3, h4⟩ := h.up
    exact ⟨m, h1, h2, by omega, risen_end h4 (by omega) (fun x hx k => by have := (h.qn x hx (.inl k)).2; omega)⟩
  same := by
    rw [fold_end, ifS_1 rfl]
    exact ot_new (fun x hx k => by have := (h.rn x hx k).2; omega)
theorem Dir.leave {N O T I F : Int} {q r : List SbL} (h : Dir N O T I F q r) (hn : O + T ≠ 0) : Dir N 0 0 I F (q ++ [⟨3, O + T⟩]) r where
  n1 := h.n1
  o0 := by omega
  o1 := by have := h.i0; have := h.i1; omega
  t0 := by omega
  t1 := by have := h.i0; have := h.i1; omega
  ot := .inr rfl
  i0 := h.i0
  i1 := h.i1
  f0 := h.f0
  f1 := h.f1
  jf := h.jf
  qk := mem_end h.qk (by simp)
  qn := mem_end h.qn (fun _ => by have := h.o0; have := h.o1; have := h.t0; have := h.t1; have := h.ot; simp; omega)
  rn := h.rn
  up := by
    obtain ⟨m, h1, h2, h3, h4⟩ := h.up
    exact ⟨m, h1, h2, h3, risen_other (by simp) h4⟩
  same := by
    rw [fold_end, ifS_3 rfl, ← h.same]
    have h0 : r.foldl otS (0, 0) = (0, 0) := by
      rcases ot_none (r := r) with e | ⟨x, hx, k2, e⟩
      · exact e
      · have := (h.rn x hx (.inl k2)).1
        omega
    have h1 : (O, T) = (O + T, 0) ∨ (O, T) = (0, O + T) ∨ (O, T) = (0, 0) := by
      rcases h.ot with e | e
      · right; left; simp [e]
      · left; simp [e]
    rw [h0]
    rcases ot_one (fun x hx k => (h.rn x hx k).1) h1 with e | e | e <;> rw [e] <;> simp
theorem Dir.grant {N O T I F : Int} {q r : List SbL} (h : Dir N O T I F q r) (hn : I ≠ 0) : Dir N O T 0 I q (r ++ [⟨2, I⟩]) where
  n1 := h.n1
  o0 := h.o0
  o1 := h.o1
  t0 := h.t0
  t1 := h.t1
  ot := h.ot
  i0 := by omega
  i1 := by have := h.i0; have := h.i1; omega
  f0 := h.i0
  f1 := h.i1
  jf := .inl rfl
  qk := h.qk
  qn := h.qn
  rn := mem_end h.rn (fun _ => ⟨by have := h.i0; simp; omega, h.i1⟩)
  up := by
    obtain ⟨m, h1, h2, h3, h4⟩ := h.up
    exact ⟨m, by have := h.i0; omega, h1, h3, h4⟩
  same := by
    obtain ⟨m, h1, h2, h3, h4⟩ := h.up
    have hF : F = 0 := by rcases h.jf with e | e; exact absurd e hn; exact e
    have := h.i0
    rw [fold_end, h.same, hF, if_grant (by omega) h4 h1]
theorem Dir.deny {N O T I F : Int} {q r : List SbL} (h : Dir N O T I F q r) (hn : I + F ≠ 0) : Dir N O T 0 0 q (r ++ [⟨4, I + F⟩]) where
  n1 := h.n1
  o0 := h.o0
  o1 := h.o1
  t0 := h.t0
  t1 := h.t1
  ot := h.ot
  i0 := by omega
  i1 := by have := h.i0; have := h.i1; omega
  f0 := by omega
  f1 := by have := h.i0; have := h.i1; omega
  jf := .inl rfl
  qk := h.qk
  qn := h.qn
  rn := mem_end h.rn (fun _ => by have := h.i0; have := h.i1; have := h.f0; have := h.f1; have := h.jf; simp; omega)
  up := by
    obtain ⟨m, h1, h2, h3, h4⟩ := h.up
    exact ⟨m, by have := h.i0; omega, by have := h.i0; omega, h3, h4⟩
  same := by
    obtain ⟨m, h1, h2, h3, h4⟩ := h.up
    have := h.i0
    have := h.f0
    have hp : (I, F) = (I + F, 0) ∨ (I, F) = (0, I + F) := by
      rcases h.jf with e | e
      · right; simp [e]
      · left; simp [e]
    rw [fold_end, h.same, if_deny (n := I + F) (by omega) hp h4 (by rcases h.jf with e | e <;> omega)]
/-- Something of the other direction is sent. -/
theorem Dir.sentq {N O T I F : Int} {q r : List SbL} (h : Dir N O T I F q r) {x : SbL} (hx : x.k = 2 ∨ x.k = 4) : Dir N O T I F (q ++ [x]) r :=
  { h with
    qk := mem_end h.qk (by omega)
    qn := mem_end h.qn (fun k => by omega)
    up := by
      obtain ⟨m, h1, h2, h3, h4⟩ := h.up
      exact ⟨m, h1, h2, h3, risen_other (by omega) h4⟩
    same := by rw [fold_end, ifS_o (by omega) (by omega)]; exact h.same }
theorem Dir.sentr {N O T I F : Int} {q r : List SbL} (h : Dir N O T I F q r) {x : SbL} (hx : x.k = 1 ∨ x.k = 3) : Dir N O T I F q (r ++ [x]) :=
  { h with
    rn := mem_end h.rn (fun k => by omega)
    same := by rw [fold_end, otS_o (by omega) (by omega)]; exact h.same }
/-- The half that is asked hears. -/
theorem Dir.hearq {N O T I F : Int} {x : SbL} {q r : List SbL} (h : Dir N O T I F (x :: q) r) : Dir N O T (ifS (I, F) x).1 (ifS (I, F) x).2 q r := by
  have hx := h.qn x (List.mem_cons_self ..)
  have hi0 := h.i0; have hi1 := h.i1; have hf0 := h.f0; have hf1 := h.f1; have hjf := h.jf
  have g : 0 ≤ (ifS (I, F) x).1 ∧ (ifS (I, F) x).1 ≤ N ∧ 0 ≤ (ifS (I, F) x).2 ∧ (ifS (I, F) x).2 ≤ N ∧ ((ifS (I, F) x).1 = 0 ∨ (ifS (I, F) x).2 = 0) ∧ ∃ m, (ifS (I, F) x).1 ≤ m ∧ (ifS (I, F) x).2 ≤ m ∧ m ≤ N ∧ risen m q := by
    obtain ⟨m, h1, h2, h3, h4⟩ := h.up
    by_cases k1 : x.k = 1
    · have := hx (.inl k1)
      rw [risen_1 k1] at h4
      rw [ifS_1 k1]
      exact ⟨by simp; omega, by simp; omega, by simp, by simp; omega, .inr rfl, x.n, by simp, by simp; omega, by omega, h4.2⟩
    · rw [risen_o k1] at h4
      by_cases k3 : x.k = 3
      · rw [ifS_3 k3]
        refine ⟨?_, ?_, ?_, ?_, ?_, m, ?_, ?_, h3, h4⟩ <;> simp only <;> split <;> (try split) <;> omega
      · rw [ifS_o k1 k3]
        exact ⟨hi0, hi1, hf0, hf1, hjf, m, h1, h2, h3, h4⟩
  obtain ⟨g0, g1, g2, g3, g4, g5⟩ := g
  exact { h with
    i0 := g0, i1 := g1, f0 := g2, f1 := g3, jf := g4
    qk := fun y hy => h.qk y (List.mem_cons_of_mem _ hy)
    qn := fun y hy => h.qn y (List.mem_cons_of_mem _ hy)
    up := g5
    same := h.same }
/-- The half that asks hears. -/
theorem Dir.hearr {N O T I F : Int} {x : SbL} {q r : List SbL} (h : Dir N O T I F q (x :: r)) : Dir N (otS (O, T) x).1 (otS (O, T) x).2 I F q r := by
  have hx := h.rn x (List.mem_cons_self ..)
  have ho0 := h.o0; have ho1 := h.o1; have ht0 := h.t0; have ht1 := h.t1; have hot := h.ot
  have g : 0 ≤ (otS (O, T) x).1 ∧ (otS (O, T) x).1 ≤ N ∧ 0 ≤ (otS (O, T) x).2 ∧ (otS (O, T) x).2 ≤ N ∧ ((otS (O, T) x).1 = 0 ∨ (otS (O, T) x).2 = 0) := by
    by_cases k2 : x.k = 2
    · have := hx (.inl k2)
      rw [otS_2 k2]
      simp only
      split
      · exact ⟨by simp, by simp; omega, by simp; omega, by simp; omega, .inl rfl⟩
      · exact ⟨ho0, ho1, ht0, ht1, hot⟩
    · by_cases k4 : x.k = 4
      · rw [otS_4 k4]
        refine ⟨?_, ?_, ?_, ?_, ?_⟩ <;> simp only <;> split <;> (try split) <;> omega
      · rw [otS_o k2 k4]
        exact ⟨ho0, ho1, ht0, ht1, hot⟩
  obtain ⟨g0, g1, g2, g3, g4⟩ := g
  exact { h with
    o0 := g0, o1 := g1, t0 := g2, t1 := g3, ot := g4
    rn := fun y hy => h.rn y (List.mem_cons_of_mem _ hy)
    same := h.same }
theorem hear_n (h : HfL) (x : SbL) : (hearH h x).n = h.n := by
  unfold hearH
  repeat' split
  all_goals rfl
theorem hear_if (h : HfL) (x : SbL) (hk : 1 ≤ x.k ∧ x.k ≤ 4) : ((hearH h x).i, (hearH h x).f) = ifS (h.i, h.f) x := by
  unfold hearH ifS
  by_cases k1 : x.k = 1
  · simp [k1]
  · by_cases k2 : x.k = 2
    · simp [k2]; split <;> exact ⟨rfl, rfl⟩
    · by_cases k3 : x.k = 3
      · simp [k3]
      · simp [k1, k2, k3]
theorem hear_ot (h : HfL) (x : SbL) (hk : 1 ≤ x.k ∧ x.k ≤ 4) : ((hearH h x).o, (hearH h x).t) = otS (h.o, h.t) x := by
  unfold hearH otS
  by_cases k1 : x.k = 1
  · simp [k1]
  · by_cases k2 : x.k = 2
    · simp [k2]; split <;> rfl
    · by_cases k3 : x.k = 3
      · simp [k3]
      · have k4 : x.k = 4 := by omega
        simp [k4]
/-- Two halves and what is under way between them. -/
def Two (a b : HfL) (ab ba : List SbL) : Prop := Dir a.n a.o a.t b.i b.f ab ba ∧ Dir b.n b.o b.t a.i a.f ba ab
theorem Two.swap {a b : HfL} {ab ba : List SbL} (h : Two a b ab ba) : Two b a ba ab := ⟨h.2, h.1⟩
theorem two_new : Two hf0 hf0 [] [] := by
  have d : Dir 0 0 0 0 0 [] [] := ⟨by omega, by omega, by omega, by omega, by omega, .inl rfl, by omega, by omega, by omega, by omega, .inl rfl, fun x hx => (by cases hx), fun x hx => (by cases hx), fun x hx => (by cases hx), ⟨0, by omega, by omega, by omega, trivial⟩, rfl⟩
  exact ⟨d, d⟩
theorem Two.oka {a b : HfL} {ab ba : List SbL} (h : Two a b ab ba) : a.ok := by
  obtain ⟨h1, h2⟩ := h
  have := h1.n1; have := h1.o0; have := h1.o1; have := h1.t0; have := h1.t1; have := h1.ot
  have := h2.n1; have := h2.i0; have := h2.i1; have := h2.f0; have := h2.f1; have := h2.jf
  unfold HfL.ok
  omega
theorem Two.okx {a b : HfL} {x : SbL} {ab ba : List SbL} (h : Two a b (x :: ab) ba) : 1 ≤ x.k ∧ x.k ≤ 4 ∧ 1 ≤ x.n ∧ x.n ≤ 1000000000 := by
  have h0 := h.1.qk x (List.mem_cons_self ..)
  by_cases k : x.k = 1 ∨ x.k = 3
  · have h1 := h.1.qn x (List.mem_cons_self ..) k
    have := h.1.n1
    omega
  · have h1 := h.2.rn x (List.mem_cons_self ..) (by omega)
    have := h.2.n1
    omega
theorem Two.hear {a b : HfL} {x : SbL} {ab ba : List SbL} (h : Two a b (x :: ab) ba) : hearR b x = ⟨hearH b x, [], 0⟩ ∧ Two a (hearH b x) ab ba := by
  have hx := h.okx
  have hk : 1 ≤ x.k ∧ x.k ≤ 4 := ⟨hx.1, hx.2.1⟩
  refine ⟨by unfold hearR; rw [if_pos ⟨h.swap.oka, hx⟩], ?_, ?_⟩
  · have e := hear_if b x hk
    have d := h.1.hearq
    rw [← e] at d
    exact d
  · have e := hear_ot b x hk
    have d := h.2.hearr
    rw [← e] at d
    rw [hear_n]
    exact d
theorem Two.say {a b : HfL} {ab ba : List SbL} (h : Two a b ab ba) (k : Int) (hk : 1 ≤ k ∧ k ≤ 4) (hc : (sayR a k).c = 0) : ∃ x, (sayR a k).s = [x] ∧ Two (sayR a k).h b (ab ++ [x]) ba := by
  have ha := h.oka
  have e : sayR a k = sayH a k := by unfold sayR; rw [if_pos ⟨ha, hk⟩]
  rw [e] at hc ⊢
  obtain ⟨d1, d2⟩ := h
  unfold sayH at hc ⊢
  by_cases k1 : k = 1
  · simp only [if_pos k1] at hc ⊢
    by_cases h1 : a.o ≠ 0 ∨ a.t ≠ 0
    · rw [if_pos h1] at hc; simp [illH] at hc
    · rw [if_neg h1] at hc ⊢
      by_cases h2 : 1000000000 ≤ a.n
      · rw [if_pos h2] at hc; simp [illH] at hc
      · rw [if_neg h2]
        have o0 : a.o = 0 := by omega
        have t0 : a.t = 0 := by omega
        refine ⟨⟨1, a.n + 1⟩, rfl, ?_, ?_⟩
        · rw [o0, t0] at d1
          show Dir (a.n + 1) (a.n + 1) a.t b.i b.f _ _
          rw [t0]
          exact d1.ask (by omega)
        · exact d2.sentr (.inl rfl)
  · simp only [if_neg k1] at hc ⊢
    by_cases k2 : k = 2
    · simp only [if_pos k2] at hc ⊢
      by_cases h1 : a.i = 0
      · rw [if_pos h1] at hc; simp [illH] at hc
      · rw [if_neg h1]
        exact ⟨⟨2, a.i⟩, rfl, d1.sentq (.inl rfl), d2.grant h1⟩
    · simp only [if_neg k2] at hc ⊢
      by_cases k3 : k = 3
      · simp only [if_pos k3] at hc ⊢
        by_cases h1 : a.o + a.t = 0
        · rw [if_pos h1] at hc; simp [illH] at hc
        · rw [if_neg h1]
          exact ⟨⟨3, a.o + a.t⟩, rfl, d1.leave h1, d2.sentr (.inr rfl)⟩
      · simp only [if_neg k3] at hc ⊢
        by_cases h1 : a.i + a.f = 0
        · rw [if_pos h1] at hc; simp [illH] at hc
        · rw [if_neg h1]
          exact ⟨⟨4, a.i + a.f⟩, rfl, d1.sentq (.inr rfl), d2.deny h1⟩
theorem Two.done {a b : HfL} (h : Two a b [] []) : a.t = b.f ∧ a.o = b.i ∧ b.t = a.f ∧ b.o = a.i := by
  have h1 := h.1.same
  have h2 := h.2.same
  simp at h1 h2
  omega
end Go.Proofs.Ytgfpcmfcnphalaa
