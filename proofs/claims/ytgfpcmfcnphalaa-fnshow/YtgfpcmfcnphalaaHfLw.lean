/- laws.lwHalf on two equal answers; what a half that says or hears comes to. -/
import Derived.Test.YtgfpcmfcnphalaaHfOutL
import Derived.Test.YtgfpcmfcnphalaaHfHearI
namespace Go.Proofs.Ytgfpcmfcnphalaa
set_option linter.unusedSimpArgs false
set_option linter.unusedVariables false
open Go.RowKit

theorem say_fin (h : HfL) (k : Int) : (sayR h k).c ≠ 0 ∨ ∃ h' m, sayR h k = sentH h' k m ∧ h'.ok ∧ 1 ≤ m ∧ h.n ≤ h'.n := by
  by_cases q : h.ok
  · cases g : isN 1 4 k
    · rw [sayR_out g]
      exact .inl (by decide)
    · rw [sayR_in q g]
      obtain ⟨k1, k4⟩ := isN_iff.1 g
      obtain ⟨n, o, t, i, f⟩ := h
      have q' := q
      obtain ⟨q0, q1, q2, q3, q4, q5, q6, q7, q8, q9, q10, q11⟩ := q'
      dsimp only at q0 q1 q2 q3 q4 q5 q6 q7 q8 q9 q10 q11
      have hk : k = 1 ∨ k = 2 ∨ k = 3 ∨ k = 4 := by omega
      rcases hk with rfl | rfl | rfl | rfl
      · rw [say_eq1]
        dsimp only
        by_cases c1 : o ≠ 0 ∨ t ≠ 0
        · rw [if_pos c1]
          exact .inl (by decide)
        · rw [if_neg c1]
          by_cases c2 : 1000000000 ≤ n
          · rw [if_pos c2]
            exact .inl (by decide)
          · rw [if_neg c2]
            refine .inr ⟨_, _, rfl, ?_, by omega, by show n ≤ n + 1; omega⟩
            unfold HfL.ok
            dsimp only
            omega
      · rw [say_eq2]
        dsimp only
        by_cases c1 : i = 0
        · rw [if_pos c1]
          exact .inl (by decide)
        · rw [if_neg c1]
          refine .inr ⟨_, _, rfl, ?_, by omega, Int.le_refl _⟩
          unfold HfL.ok
          dsimp only
          omega
      · rw [say_eq3]
        dsimp only
        by_cases c1 : o + t = 0
        · rw [if_pos c1]
          exact .inl (by decide)
        · rw [if_neg c1]
          refine .inr ⟨_, _, rfl, ?_, by omega, Int.le_refl _⟩
          unfold HfL.ok
          dsimp only
          omega
      · rw [say_eq4]
        dsimp only
        by_cases c1 : i + f = 0
        · rw [if_pos c1]
          exact .inl (by decide)
        · rw [if_neg c1]
          refine .inr ⟨_, _, rfl, ?_, by omega, Int.le_refl _⟩
          unfold HfL.ok
          dsimp only
          omega
  · rw [sayR_bad q]
    exact .inl (by decide)
theorem hear_fin (h : HfL) (x : SbL) : (hearR h x).c ≠ 0 ∨ ∃ h', hearR h x = ⟨h', [], 0⟩ ∧ h'.ok ∧ h'.n = h.n := by
  obtain ⟨k, m⟩ := x
  by_cases q : h.ok
  · cases g : (isN 1 4 k && isN 1 1000000000 m)
    · rw [hearR_sub g]
      exact .inl (by decide)
    · rw [hearR_in q g]
      refine .inr ⟨_, rfl, ?_, ?_⟩
      · rw [Bool.and_eq_true] at g
        obtain ⟨k1, k4⟩ := isN_iff.1 g.1
        obtain ⟨m1, m2⟩ := isN_iff.1 g.2
        have hk : k = 1 ∨ k = 2 ∨ k = 3 ∨ k = 4 := by omega
        rcases hk with rfl | rfl | rfl | rfl
        · obtain ⟨q0, q1, q2, q3, q4, q5, q6, q7, q8, q9, q10, q11⟩ := q
          exact ⟨q0, q1, q2, q3, q4, q5, q6, by show 0 ≤ m; omega, m2, Int.le_refl _, by show (0 : Int) ≤ 1000000000; decide, .inr rfl⟩
        · have e : hearH h ⟨2, m⟩ = if h.o = m then ⟨h.n, 0, m, h.i, h.f⟩ else h := rfl
          rw [e]
          obtain ⟨q0, q1, q2, q3, q4, q5, q6, q7, q8, q9, q10, q11⟩ := q
          split
          · rename_i e
            exact ⟨q0, q1, Int.le_refl _, q0, by show 0 ≤ m; omega, by show m ≤ h.n; omega, .inl rfl, q7, q8, q9, q10, q11⟩
          · exact ⟨q0, q1, q2, q3, q4, q5, q6, q7, q8, q9, q10, q11⟩
        · rw [hear3 q m1]
          split
          · obtain ⟨q0, q1, q2, q3, q4, q5, q6, q7, q8, q9, q10, q11⟩ := q
            exact ⟨q0, q1, q2, q3, q4, q5, q6, Int.le_refl _, by show (0 : Int) ≤ 1000000000; decide, Int.le_refl _, by show (0 : Int) ≤ 1000000000; decide, .inl rfl⟩
          · exact q
        · rw [hear4 q m1]
          split
          · obtain ⟨q0, q1, q2, q3, q4, q5, q6, q7, q8, q9, q10, q11⟩ := q
            exact ⟨q0, q1, Int.le_refl _, q0, Int.le_refl _, q0, .inl rfl, q7, q8, q9, q10, q11⟩
          · exact q
      · show (hearH h ⟨k, m⟩).n = h.n
        unfold hearH
        repeat' split
        all_goals rfl
  · rw [hearR_bad q]
    exact .inl (by decide)
theorem row2H {w : World} {p : Option Addr} {xs : List SbL} (h : RowC sbC 2 w p xs) {i : Nat} (hi : i < xs.length) : ∃ g, p = some ⟨g, 0, none⟩ ∧ g < w.heap.size ∧ w.cell? ⟨g, i * 2, none⟩ = some (.int .i64 xs[i].k) ∧ w.cell? ⟨g, i * 2 + 1, none⟩ = some (.int .i64 xs[i].n) := by
  obtain ⟨g, h1, h2, h3⟩ := h (List.ne_nil_of_length_pos (by omega))
  exact ⟨g, h1, h2, h3 i hi 0 (by decide), h3 i hi 1 (by decide)⟩
set_option maxRecDepth 100000 in
set_option maxHeartbeats 1000000 in
theorem lw_half (R : HoL) (p q : Option Addr) (k l : Nat) (w : World) (hn : R.s.length ≤ 2000000) (hp : RowC sbC 2 w p R.s) (hq : RowC sbC 2 w q R.s) :
    Calls Try.prog 16 #[hoV R.h p R.s.length k R.c, hoV R.h q R.s.length l R.c] w fun e w' => e = .returned (.bool true) ∧ Below w.heap.size w w' := by
  have HP := Lib.hid (fun W (h : Below w.heap.size w W) => hp.on h)
  have HQ := Lib.hid (fun W (h : Below w.heap.size w W) => hq.on h)
  obtain ⟨N, hN⟩ : ∃ N, R.s.length = N := ⟨_, rfl⟩
  have HN := Lib.hid hN
  rw [hN] at hn ⊢
  clear hp hq hN
  have HX := Lib.hid (bx2 w 29 29 (hoC R.h p N k R.c) (hoC R.h q N l R.c))
  go_enter Try.func16, Try.ntmps16
  go_wp2
  go_loopw [5] (fun iq wr => ∃ i : Nat, i ≤ N ∧ iq = .int .i64 i ∧ Bx w wr [(29, hoC R.h p N k R.c), (29, hoC R.h q N l R.c)]) (fun i _ => N - (intOf i).toNat)
  case atStart => exact ⟨0, Nat.zero_le _, rfl, HX.out⟩
  case round =>
    clear HX
    obtain ⟨i, hi, rfl, hx⟩ := hrel
    have HB := Lib.hid hx
    obtain ⟨a0, a1, a2, a3, a4, a5, a6⟩ := ho_cells (b := w.heap.size) (hx.2 0 (show 0 < 2 by decide))
    obtain ⟨b0, b1, b2, b3, b4, b5, b6⟩ := ho_cells (b := w.heap.size + 1) (hx.2 1 (show 1 < 2 by decide))
    have hb := hx.1
    clear hx
    by_cases hlt : i < N
    · have hlt' : i < R.s.length := by rw [HN.out]; exact hlt
      obtain ⟨g, rfl, hg, c0, c1⟩ := row2H (HP.out _ hb) hlt'
      obtain ⟨g2, rfl, hg2, d0, d1⟩ := row2H (HQ.out _ hb) hlt'
      obtain ⟨x, hx⟩ : ∃ x, R.s[i] = x := ⟨_, rfl⟩
      rw [hx] at c0 c1 d0 d1
      clear hx hb
      go_wp2
      go_region
      all_goals (try go_wp2)
      exact ⟨⟨i + 1, by omega, by go_num, HB.out.on (Below.refl _ _).drew⟩, by simp [intOf]; omega⟩
    · obtain rfl : i = N := by omega
      clear hb
      go_wp2
      go_ret
      exact ⟨rfl, HB.out.1⟩
end Go.Proofs.Ytgfpcmfcnphalaa
