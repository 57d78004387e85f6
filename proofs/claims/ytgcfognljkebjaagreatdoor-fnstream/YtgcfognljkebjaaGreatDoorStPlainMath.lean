/- The mathematics of taking escapes back: lists of bytes. -/
import Derived.Test.YtgcfognljkebjaaGreatDoorStEscMath
namespace Go.Proofs.YtgcfognljkebjaaGreatDoor
set_option linter.unusedSimpArgs false
set_option linter.unusedVariables false

/-- The byte of which this is the form. -/
def charOf (X : List UInt8) : Option UInt8 :=
  if X = [38, 97, 109, 112, 59] then some 38 else if X = [38, 108, 116, 59] then some 60 else if X = [38, 103, 116, 59] then some 62 else if X = [38, 97, 112, 111, 115, 59] then some 39 else if X = [38, 113, 117, 111, 116, 59] then some 34 else none
theorem charOf_none {X : List UInt8} (h : X.head? ≠ some 38) : charOf X = none := by
  unfold charOf
  repeat' split
  all_goals first | rfl | (subst_vars; simp at h)
/-- What is done so far: what is told, what lies between it and the place where a form may begin, what lies behind that place. -/
structure Un where
  out : List UInt8
  raw : List UInt8
  cur : List UInt8
def unStep (u : Un) (c : UInt8) : Un :=
  if c = 38 then ⟨u.out, u.raw ++ u.cur, [38]⟩
  else if c = 59 then
    match charOf (u.cur ++ [59]) with
    | some r => ⟨u.out ++ u.raw ++ [r], [], []⟩
    | none => ⟨u.out, u.raw ++ (u.cur ++ [59]), []⟩
  else ⟨u.out, u.raw, u.cur ++ [c]⟩
def Un.all (u : Un) : List UInt8 := u.out ++ u.raw ++ u.cur
def unAll (T : List UInt8) : Un := T.foldl unStep ⟨[], [], []⟩
theorem unStep_else {u : Un} {c : UInt8} (h1 : c ≠ 38) (h2 : c ≠ 59) : unStep u c = ⟨u.out, u.raw, u.cur ++ [c]⟩ := by unfold unStep; rw [if_neg h1, if_neg h2]
theorem unStep_amp (u : Un) : unStep u 38 = ⟨u.out, u.raw ++ u.cur, [38]⟩ := rfl
theorem unStep_semi_some {u : Un} {r : UInt8} (h : charOf (u.cur ++ [59]) = some r) : unStep u 59 = ⟨u.out ++ u.raw ++ [r], [], []⟩ := by
  unfold unStep
  rw [if_neg (by decide), if_pos rfl, h]
theorem unStep_semi_none {u : Un} (h : charOf (u.cur ++ [59]) = none) : unStep u 59 = ⟨u.out, u.raw ++ (u.cur ++ [59]), []⟩ := by
  unfold unStep
  rw [if_neg (by decide), if_pos rfl, h]
theorem unFold_else {u : Un} : ∀ l : List UInt8, (∀ c ∈ l, c ≠ 38 ∧ c ≠ 59) → l.foldl unStep u = ⟨u.out, u.raw, u.cur ++ l⟩ := by
  intro l
  induction l generalizing u with
  | nil => intro _; simp
  | cons c l ih =>
    intro h
    rw [List.foldl_cons, unStep_else (h c (by simp)).1 (h c (by simp)).2, ih (fun x hx => h x (by simp [hx]))]
    simp
theorem un_append (S T : List UInt8) : unAll (S ++ T) = T.foldl unStep (unAll S) := by unfold unAll; rw [List.foldl_append]
/-- One byte's escape. -/
theorem un_esc (u : Un) (hu : ∀ c ∈ u.cur, c ≠ 38) (c : UInt8) : (∀ x ∈ ((escC c).foldl unStep u).cur, x ≠ 38) ∧ ((escC c).foldl unStep u).all = u.all ++ [c] := by
  cases hm : markB c.toNat
  · rw [escC_not hm]
    have h38 : c ≠ 38 := fun e => by subst e; exact absurd hm (by decide)
    by_cases h59 : c = 59
    · subst h59
      have hn : charOf (u.cur ++ [59]) = none := charOf_none (by
        cases hc : u.cur with
        | nil => simp
        | cons x l => have := hu x (by rw [hc]; simp); simp [this])
      rw [List.foldl_cons, List.foldl_nil, unStep_semi_none hn]
      exact ⟨fun x hx => (by cases hx), by simp [Un.all]⟩
    · rw [List.foldl_cons, List.foldl_nil, unStep_else h38 h59]
      refine ⟨fun x hx => ?_, by simp [Un.all]⟩
      rcases List.mem_append.1 hx with h | h
      · exact hu x h
      · simp at h
        subst h
        exact h38
  · rw [escC_mark hm]
    have hc : c = 38 ∨ c = 60 ∨ c = 62 ∨ c = 39 ∨ c = 34 := by
      unfold markB at hm
      simp at hm
      have e : ∀ k : UInt8, (c.toNat : Int) = (k.toNat : Int) → c = k := fun k hk => UInt8.toNat_inj.1 (by omega)
      rcases hm with h | h | h | h | h
      · exact .inl (e 38 h)
      · exact .inr (.inl (e 60 h))
      · exact .inr (.inr (.inl (e 62 h)))
      · exact .inr (.inr (.inr (.inl (e 39 h))))
      · exact .inr (.inr (.inr (.inr (e 34 h))))
    have go : ∀ (m : List UInt8) (r : UInt8), (∀ x ∈ m, x ≠ 38 ∧ x ≠ 59) → charOf (38 :: m ++ [59]) = some r → (∀ x ∈ ((38 :: m ++ [59]).foldl unStep u).cur, x ≠ 38) ∧ ((38 :: m ++ [59]).foldl unStep u).all = u.all ++ [r] := by
      intro m r hm hr
      have e : (38 :: m ++ [59]).foldl unStep u = ⟨u.out ++ (u.raw ++ u.cur) ++ [r], [], []⟩ := by
        rw [List.cons_append, List.foldl_cons, unStep_amp, List.foldl_append, unFold_else m hm, List.foldl_cons, List.foldl_nil]
        exact unStep_semi_some (u := ⟨u.out, u.raw ++ u.cur, [38] ++ m⟩) (by simpa using hr)
      rw [e]
      exact ⟨fun x hx => (by cases hx), by simp [Un.all]⟩
    rcases hc with rfl | rfl | rfl | rfl | rfl
    · exact go [97, 109, 112] 38 (by decide) (by decide)
    · exact go [108, 116] 60 (by decide) (by decide)
    · exact go [103, 116] 62 (by decide) (by decide)
    · exact go [97, 112, 111, 115] 39 (by decide) (by decide)
    · exact go [113, 117, 111, 116] 34 (by decide) (by decide)
theorem un_escL (u : Un) (hu : ∀ c ∈ u.cur, c ≠ 38) (l : List UInt8) : ((escL l).foldl unStep u).all = u.all ++ l := by
  induction l generalizing u with
  | nil => simp [escL_nil]
  | cons c l ih =>
    obtain ⟨h1, h2⟩ := un_esc u hu c
    rw [escL_cons, List.foldl_append, ih _ h1, h2]
    simp
/-- The escape taken back. -/
theorem unAll_esc (l : List UInt8) : (unAll (escL l)).all = l := by
  unfold unAll
  rw [un_escL _ (fun c hc => by cases hc)]
  rfl
theorem escL_inj {l m : List UInt8} (h : escL l = escL m) : l = m := by rw [← unAll_esc l, h, unAll_esc]
theorem un_len (T : List UInt8) (u : Un) : (T.foldl unStep u).all.length ≤ u.all.length + T.length := by
  induction T generalizing u with
  | nil => simp
  | cons c T ih =>
    have h1 : (unStep u c).all.length ≤ u.all.length + 1 := by
      unfold unStep
      split
      · simp [Un.all]; omega
      · split
        · split
          · simp [Un.all]; omega
          · simp [Un.all]; omega
        · simp [Un.all]; omega
    have := ih (unStep u c)
    rw [List.foldl_cons, List.length_cons]
    omega
theorem unAll_len (T : List UInt8) : (unAll T).all.length ≤ T.length := by have := un_len T ⟨[], [], []⟩; simpa [unAll, Un.all] using this
end Go.Proofs.YtgcfognljkebjaaGreatDoor
