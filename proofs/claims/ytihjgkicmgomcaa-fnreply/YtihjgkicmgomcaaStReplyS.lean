/- What spec.l04Reply, spec.Reply, impl.Fault and spec.Fault answer. -/
import Derived.Test.YtihjgkicmgomcaaStReplyI
import Derived.Test.YtihjgkicmgomcaaStRightS
namespace Go.Proofs.Ytihjgkicmgomcaa
set_option linter.unusedSimpArgs false
set_option linter.unusedVariables false
open Go.RowKit

theorem st_le {k t f o : ByteArray} {n : Int} {b : ByteArray} (h : stB k t f o n b = true) : t.size ≤ 20 ∧ b.size ≤ 400 := by
  unfold stB at h
  simp only [Bool.and_eq_true, Bool.or_eq_true, decide_eq_true_iff] at h
  obtain ⟨⟨⟨⟨⟨_, ht⟩, _⟩, _⟩, _⟩, _, hb⟩ := h
  refine ⟨?_, hb⟩
  rcases ht with ht | ht
  · omega
  · unfold nameB at ht
    simp at ht
    exact ht.2.1
/-- The two boxes that a function on a stanza lays: its argument's, its answer's. -/
theorem two_boxes {w w1 : World} {k t f o : ByteArray} {n : Int} {b : ByteArray} (h : Below ((w.alloc (.cells #[.string k, .string t, .string f, .string o, .int .i64 n, .string b] 30)).alloc (.cells #[.string ⟨#[]⟩, .string ⟨#[]⟩, .string ⟨#[]⟩, .string ⟨#[]⟩, .int .i64 0, .string ⟨#[]⟩] 30)).heap.size ((w.alloc (.cells #[.string k, .string t, .string f, .string o, .int .i64 n, .string b] 30)).alloc (.cells #[.string ⟨#[]⟩, .string ⟨#[]⟩, .string ⟨#[]⟩, .string ⟨#[]⟩, .int .i64 0, .string ⟨#[]⟩] 30)) w1) : RepS w k t f o n b w1 := by
  have h0 : RepS w k t f o n b ((w.alloc (.cells #[.string k, .string t, .string f, .string o, .int .i64 n, .string b] 30)).alloc (.cells #[.string ⟨#[]⟩, .string ⟨#[]⟩, .string ⟨#[]⟩, .string ⟨#[]⟩, .int .i64 0, .string ⟨#[]⟩] 30)) :=
    repS (((Below.refl w.heap.size w).alloc (Nat.le_refl _) _).alloc (by simp) _) (arr_alloc (Arr.fresh w _ _) _) (by have := Arr.fresh (w.alloc (.cells #[.string k, .string t, .string f, .string o, .int .i64 n, .string b] 30)) 30 [.string ⟨#[]⟩, .string ⟨#[]⟩, .string ⟨#[]⟩, .string ⟨#[]⟩, .int .i64 0, .string ⟨#[]⟩]; rw [World.size_alloc] at this; exact this) (by simp)
  exact repS_on h0 h
theorem third_box {w w1 : World} {o1 o2 : Obj} {cs : List Value} {t : Nat} (h : Below (((w.alloc o1).alloc o2).alloc (.cells cs.toArray t)).heap.size (((w.alloc o1).alloc o2).alloc (.cells cs.toArray t)) w1) : Arr w1 (w.heap.size + 2) t cs := by
  have := arr_below (Arr.fresh ((w.alloc o1).alloc o2) t cs) h
  rw [World.size_alloc, World.size_alloc] at this
  exact this
/-- What l04Reply answers. -/
noncomputable def l4V (k f o : ByteArray) (n : Int) (kd bd : ByteArray) : Value := if stB k kd o f n bd = true then stV k kd o f n bd else stV ⟨#[]⟩ ⟨#[]⟩ ⟨#[]⟩ ⟨#[]⟩ 0 ⟨#[]⟩
theorem cells_of_s {w : World} {k t f o : ByteArray} {n : Int} {b : ByteArray} {W : World} (h : RepS w k t f o n b W) :
    ((W.cell? ⟨w.heap.size, 0, none⟩ = some (.string k) ∧ W.cell? ⟨w.heap.size, 1, none⟩ = some (.string t) ∧ W.cell? ⟨w.heap.size, 2, none⟩ = some (.string f) ∧ W.cell? ⟨w.heap.size, 3, none⟩ = some (.string o) ∧ W.cell? ⟨w.heap.size, 4, none⟩ = some (.int .i64 n) ∧ W.cell? ⟨w.heap.size, 5, none⟩ = some (.string b)) ∧
     (W.cell? ⟨w.heap.size + 1, 0, none⟩ = some (.string ⟨#[]⟩) ∧ W.cell? ⟨w.heap.size + 1, 1, none⟩ = some (.string ⟨#[]⟩) ∧ W.cell? ⟨w.heap.size + 1, 2, none⟩ = some (.string ⟨#[]⟩) ∧ W.cell? ⟨w.heap.size + 1, 3, none⟩ = some (.string ⟨#[]⟩) ∧ W.cell? ⟨w.heap.size + 1, 4, none⟩ = some (.int .i64 0) ∧ W.cell? ⟨w.heap.size + 1, 5, none⟩ = some (.string ⟨#[]⟩))) ∧
    (W.frozen? ⟨w.heap.size + 1, 0, none⟩ = false ∧ W.frozen? ⟨w.heap.size + 1, 1, none⟩ = false ∧ W.frozen? ⟨w.heap.size + 1, 2, none⟩ = false ∧ W.frozen? ⟨w.heap.size + 1, 3, none⟩ = false ∧ W.frozen? ⟨w.heap.size + 1, 4, none⟩ = false ∧ W.frozen? ⟨w.heap.size + 1, 5, none⟩ = false) ∧ w.heap.size + 1 < W.heap.size :=
  ⟨⟨h.1, (arr_six h.2.2.2.1).1⟩, (arr_six h.2.2.2.1).2, by have := h.2.2.2.2; omega⟩
theorem repS_ans {w : World} {k t f o : ByteArray} {n : Int} {b : ByteArray} {W : World} (h : RepS w k t f o n b W) (x0 x1 x2 x3 x4 x5 : Value) : Below w.heap.size w (put6 W (w.heap.size + 1) x0 x1 x2 x3 x4 x5) :=
  below_put6 h.2.1 (by omega) _ _ _ _ _ _

set_option maxRecDepth 100000 in
set_option maxHeartbeats 2000000 in
theorem spec_l04reply (k t f o : ByteArray) (n : Int) (b kd bd : ByteArray) (w : World) (hkd : kd.size ≤ maxLen) (hf : f.size ≤ 2000000) (ho : o.size ≤ 2000000) (hbd : bd.size ≤ maxLen) :
    Calls Try.prog 40 #[.agg #[.string k, .string t, .string f, .string o, .int .i64 n, .string b], .string kd, .string bd] w fun e w' => e = .returned (l4V k f o n kd bd) ∧ Below w.heap.size w w' := by
  have i1 := fun w => spec_stright k kd o f n bd w hkd ho hf hbd
  unfold l4V
  obtain ⟨x, hx⟩ : ∃ v, stB k kd o f n bd = v := ⟨_, rfl⟩
  rw [hx] at i1 ⊢
  clear hx
  cases x
  · rw [if_neg Bool.false_ne_true]
    go_enter Try.func40, Try.ntmps40
    go_wp2_with (go_at_call 23; go_fit (i1 _); rintro e w1 ⟨rfl, hb⟩; have hS := two_boxes (below_one hb); obtain ⟨⟨⟨p0, p1, p2, p3, p4, p5⟩, s0, s1, s2, s3, s4, s5⟩, ⟨f0, f1, f2, f3, f4, f5⟩, hz⟩ := cells_of_s hS; have HS := Lib.hid hS; clear hS)
    exact bodyPost_ret (v := stV ⟨#[]⟩ ⟨#[]⟩ ⟨#[]⟩ ⟨#[]⟩ 0 ⟨#[]⟩) (by simp [results, Try.results40, go_sem, s0, s1, s2, s3, s4, s5, hz, stV]; try omega) rfl ⟨rfl, repS_ans HS.out _ _ _ _ _ _⟩
  · rw [if_pos rfl]
    go_enter Try.func40, Try.ntmps40
    go_wp2_with (go_at_call 23; go_fit (i1 _); rintro e w1 ⟨rfl, hb⟩; have hA : Arr w1 (w.heap.size + 2) 30 [.string k, .string kd, .string o, .string f, .int .i64 n, .string bd] := third_box hb; have hS := two_boxes (below_one hb); obtain ⟨⟨⟨p0, p1, p2, p3, p4, p5⟩, s0, s1, s2, s3, s4, s5⟩, ⟨f0, f1, f2, f3, f4, f5⟩, hz⟩ := cells_of_s hS; have HS := Lib.hid hS; clear hS; obtain ⟨⟨a0, a1, a2, a3, a4, a5⟩, _⟩ := arr_six hA; clear hA)
    exact bodyPost_ret (v := stV k kd o f n bd) (by simp [results, Try.results40, go_sem, s0, s1, s2, s3, s4, s5, hz, stV]; try omega) rfl ⟨rfl, repS_ans HS.out _ _ _ _ _ _⟩

theorem repV_no {k t f o : ByteArray} {n : Int} {b kd bd : ByteArray} (h : stB k t f o n b = false) : repV k t f o n b kd bd = stV ⟨#[]⟩ ⟨#[]⟩ ⟨#[]⟩ ⟨#[]⟩ 0 ⟨#[]⟩ := by unfold repV; rw [h]; rfl
theorem repV_big {k t f o : ByteArray} {n : Int} {b kd bd : ByteArray} (h : 20 < kd.size ∨ 400 < bd.size) : repV k t f o n b kd bd = stV ⟨#[]⟩ ⟨#[]⟩ ⟨#[]⟩ ⟨#[]⟩ 0 ⟨#[]⟩ := by
  unfold repV
  cases h2 : stB k kd o f n bd
  · rw [Bool.and_false]; rfl
  · have := st_le h2
    omega
theorem repV_l4 {k t f o : ByteArray} {n : Int} {b kd bd : ByteArray} (h : stB k t f o n b = true) : repV k t f o n b kd bd = l4V k f o n kd bd := by unfold repV l4V; rw [h, Bool.true_and]
theorem l4_form (k f o : ByteArray) (n : Int) (kd bd : ByteArray) : ∃ a b c d m e, l4V k f o n kd bd = stV a b c d m e := by
  unfold l4V
  split
  · exact ⟨_, _, _, _, _, _, rfl⟩
  · exact ⟨_, _, _, _, _, _, rfl⟩
set_option maxRecDepth 100000 in
set_option maxHeartbeats 2000000 in
theorem spec_reply (k t f o : ByteArray) (n : Int) (b kd bd : ByteArray) (w : World) (ht : t.size ≤ maxLen) (hf : f.size ≤ 2000000) (ho : o.size ≤ 2000000) (hbz : b.size ≤ maxLen) (hkd : kd.size ≤ maxLen) (hbd : bd.size ≤ maxLen) :
    Calls Try.prog 18 #[.agg #[.string k, .string t, .string f, .string o, .int .i64 n, .string b], .string kd, .string bd] w fun e w' => e = .returned (repV k t f o n b kd bd) ∧ Below w.heap.size w w' := by
  have i1 := fun w => spec_stright k t f o n b w ht hf ho hbz
  have i2 := fun w => spec_l04reply k t f o n b kd bd w hkd hf ho hbd
  unfold maxLen at hkd hbd
  by_cases g1 : 20000 < kd.size
  · rw [repV_big (.inl (by omega))]
    clear i1 i2
    go_enter Try.func18, Try.ntmps18
    go_wp2
    exact bodyPost_ret (v := stV ⟨#[]⟩ ⟨#[]⟩ ⟨#[]⟩ ⟨#[]⟩ 0 ⟨#[]⟩) (by simp [results, Try.results18, go_sem, stV]) rfl ⟨rfl, ((Below.refl _ _).alloc (Nat.le_refl _) _).alloc (by simp) _⟩
  by_cases g2 : 20000 < bd.size
  · rw [repV_big (.inr (by omega))]
    clear i1 i2
    go_enter Try.func18, Try.ntmps18
    go_wp2
    exact bodyPost_ret (v := stV ⟨#[]⟩ ⟨#[]⟩ ⟨#[]⟩ ⟨#[]⟩ 0 ⟨#[]⟩) (by simp [results, Try.results18, go_sem, stV]) rfl ⟨rfl, ((Below.refl _ _).alloc (Nat.le_refl _) _).alloc (by simp) _⟩
  cases hx : stB k t f o n b
  · rw [repV_no hx]
    rw [hx] at i1
    clear hx i2
    go_enter Try.func18, Try.ntmps18
    go_wp2_with (go_at_call 23; go_fit (i1 _); rintro e w1 ⟨rfl, hb⟩; have hS := two_boxes hb; obtain ⟨⟨⟨p0, p1, p2, p3, p4, p5⟩, s0, s1, s2, s3, s4, s5⟩, ⟨f0, f1, f2, f3, f4, f5⟩, hz⟩ := cells_of_s hS; have HS := Lib.hid hS; clear hS)
    exact bodyPost_ret (v := stV ⟨#[]⟩ ⟨#[]⟩ ⟨#[]⟩ ⟨#[]⟩ 0 ⟨#[]⟩) (by simp [results, Try.results18, go_sem, s0, s1, s2, s3, s4, s5, hz, stV]; try omega) rfl ⟨rfl, repS_ans HS.out _ _ _ _ _ _⟩
  · rw [repV_l4 hx]
    rw [hx] at i1
    clear hx
    obtain ⟨a, b', c, d, m, e', hv⟩ := l4_form k f o n kd bd
    rw [hv] at i2 ⊢
    unfold stV at i2
    clear hv
    go_enter Try.func18, Try.ntmps18
    go_wp2_with (first
      | (go_at_call 23; go_fit (i1 _); rintro e w1 ⟨rfl, hb⟩; have hS := two_boxes hb; obtain ⟨⟨⟨p0, p1, p2, p3, p4, p5⟩, s0, s1, s2, s3, s4, s5⟩, ⟨f0, f1, f2, f3, f4, f5⟩, hz⟩ := cells_of_s hS; have HS := Lib.hid hS; clear hS)
      | (go_at_call 40; go_fit (i2 _); rintro e w2 ⟨rfl, hb2⟩; have hS := repS_on HS.out hb2; obtain ⟨⟨⟨p0, p1, p2, p3, p4, p5⟩, s0, s1, s2, s3, s4, s5⟩, ⟨f0, f1, f2, f3, f4, f5⟩, hz⟩ := cells_of_s hS; have HS := Lib.hid hS; clear hS))
    exact bodyPost_ret (v := stV a b' c d m e') (by simp [results, Try.results18, go_sem, s0, s1, s2, s3, s4, s5, hz, stV]; try omega) rfl ⟨rfl, repS_ans HS.out _ _ _ _ _ _⟩
end Go.Proofs.Ytihjgkicmgomcaa
