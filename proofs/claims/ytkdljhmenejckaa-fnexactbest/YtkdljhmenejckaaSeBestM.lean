/- The best sessions: mathematics, impl.bestTest and its closure. -/
import Derived.Test.YtkdljhmenejckaaSeStrs
import Derived.Test.YtkdljhmenejckaaSeAny
import Derived.Test.YtkdljhmenejckaaHandQ
import Derived.Test.YtkdljhmenejckaaSmJoin
import Derived.Test.YtkdljhmenejckaaRwStr
namespace Go.Proofs.Ytkdljhmenejckaa
set_option linter.unusedSimpArgs false
set_option linter.unusedVariables false
open Go.RowKit Go.Joins

/-- The greatest priority, or m. -/
def mxA (m : Int) : List SeL → Int
  | [] => m
  | x :: l => mxA (if m < x.p then x.p else m) l
theorem mx_eq (a b : Int) : max a b = if a < b then b else a := by split <;> omega
theorem mx_ge : ∀ (l : List SeL) (m : Int), m ≤ mxA m l
  | [], m => Int.le_refl _
  | x :: l, m => by
    have := mx_ge l (if m < x.p then x.p else m)
    show m ≤ mxA (if m < x.p then x.p else m) l
    split at this <;> rename_i h
    · rw [if_pos h]; omega
    · rw [if_neg h]; exact this
theorem mx_all : ∀ (l : List SeL) (m : Int), ∀ x ∈ l, x.p ≤ mxA m l
  | x :: l, m, y, hy => by
    show y.p ≤ mxA (if m < x.p then x.p else m) l
    rcases List.mem_cons.1 hy with rfl | hy
    · have := mx_ge l (if m < y.p then y.p else m)
      by_cases h : m < y.p
      · rw [if_pos h] at this ⊢; exact this
      · rw [if_neg h] at this ⊢; omega
    · exact mx_all l _ y hy
theorem mx_is : ∀ (l : List SeL) (m : Int), mxA m l = m ∨ ∃ x ∈ l, x.p = mxA m l
  | [], m => .inl rfl
  | x :: l, m => by
    show mxA (if m < x.p then x.p else m) l = m ∨ ∃ y ∈ x :: l, y.p = mxA (if m < x.p then x.p else m) l
    rcases mx_is l (if m < x.p then x.p else m) with h | ⟨y, hy, h⟩
    · by_cases hm : m < x.p
      · rw [if_pos hm] at h ⊢
        exact .inr ⟨x, List.mem_cons_self .., h.symm⟩
      · rw [if_neg hm] at h ⊢
        exact .inl h
    · exact .inr ⟨y, List.mem_cons_of_mem _ hy, h⟩
/-- The resources of the sessions that are on and have this priority. -/
def bestL (M : Int) (xs : List SeL) : List ByteArray := (xs.filter (fun x => x.o && x.p == M)).map (fun x => x.r)
noncomputable def bestR (xs : List SeL) : List ByteArray := if okB xs = true then bestL (mxA 0 xs) xs else []
theorem best_succ (M : Int) {xs : List SeL} {k : Nat} (hk : k < xs.length) : bestL M (xs.take (k + 1)) = if (xs[k].o && xs[k].p == M) = true then bestL M (xs.take k) ++ [xs[k].r] else bestL M (xs.take k) := by
  rw [List.take_succ_eq_append_getElem hk]
  unfold bestL
  rw [List.filter_append, List.map_append]
  cases h : (xs[k].o && xs[k].p == M)
  · simp [List.filter_cons, h]
  · simp [List.filter_cons, h]
theorem best_len (M : Int) (xs : List SeL) : (bestL M xs).length ≤ xs.length := by unfold bestL; rw [List.length_map]; exact List.length_filter_le _ _
theorem best_none {M : Int} {xs : List SeL} (h : ∀ x ∈ xs, x.o = true → x.p < M) : bestL M xs = [] := by
  unfold bestL
  rw [List.map_eq_nil_iff, List.filter_eq_nil_iff]
  intro x hx
  simp only [Bool.and_eq_true, beq_iff_eq, not_and]
  intro ho he
  have := h x hx ho
  omega
/-- A greatest priority of those that are on is that of all. -/
theorem mx_same {xs : List SeL} {m : Int} (hz : ∀ x ∈ xs, x.o = false → x.p = 0) (h0 : 0 ≤ m) (h1 : ∀ x ∈ xs, x.o = true → x.p ≤ m) (h2 : m = 0 ∨ ∃ x ∈ xs, x.p = m) : m = mxA 0 xs := by
  have g0 := mx_ge xs 0
  have g1 := mx_all xs 0
  have a : m ≤ mxA 0 xs := by
    rcases h2 with h | ⟨x, hx, h⟩
    · omega
    · have := g1 x hx; omega
  have b : mxA 0 xs ≤ m := by
    rcases mx_is xs 0 with h | ⟨x, hx, h⟩
    · omega
    · cases ho : x.o
      · have := hz x hx ho; omega
      · have := h1 x hx ho; omega
  omega
theorem off_zero {xs : List SeL} (h : okB xs = true) : ∀ x ∈ xs, x.o = false → x.p = 0 := by
  intro x hx ho
  obtain ⟨i, hi, rfl⟩ := List.mem_iff_getElem.1 hx
  have h2 := (okB_iff.1 h).2.2 i hi hi
  unfold seB at h2
  rw [ho] at h2
  simp only [Bool.false_or, Bool.and_eq_true, decide_eq_true_eq] at h2
  exact h2.1.1.1.1
theorem clo_best (x : SeL) (b : Nat) (M : Int) (w : World) (hc : w.cell? ⟨b, 0, none⟩ = some (.int .i64 M)) :
    Calls Try.prog 107 #[seV x, .pointer (some ⟨b, 0, none⟩)] w fun e w' => e = .returned (.bool (x.o && x.p == M)) ∧ Below w.heap.size w w' := by
  obtain ⟨r, o, p, s⟩ := x
  unfold seV
  have hlt : b < w.heap.size := block_lt_of_cell hc
  have hc2 : (w.alloc (.cells #[.string r, .bool o, .int .i64 p, .string s] 42)).cell? ⟨b, 0, none⟩ = some (.int .i64 M) := (((Below.refl w.heap.size w).alloc (Nat.le_refl _) _).cell (p := ⟨b, 0, none⟩) hlt).trans hc
  obtain ⟨bb, hbb⟩ : ∃ bb, (p == M) = bb := ⟨_, rfl⟩
  dsimp only
  rw [hbb]
  cases o
  · go_enter Try.func107, Try.ntmps107
    go_wp2
    go_ret
    exact ⟨rfl, (Below.refl _ _).alloc (Nat.le_refl _) _⟩
  · go_enter Try.func107, Try.ntmps107
    go_wp2
    go_ret
    exact ⟨rfl, (Below.refl _ _).alloc (Nat.le_refl _) _⟩
set_option maxRecDepth 100000 in
set_option maxHeartbeats 2000000 in
theorem impl_besttest (xs : List SeL) (p0 : Option Addr) (c : Nat) (w : World) (hn : xs.length ≤ 1048576) (hR : RowC seC 4 w p0 xs) :
    Calls Try.prog 78 #[.slice p0 xs.length c] w fun e w' => e = .returned (.func (.func 107) #[] #[.pointer (some ⟨w.heap.size, 0, none⟩)]) ∧ w'.cell? ⟨w.heap.size, 0, none⟩ = some (.int .i64 (mxA 0 xs)) ∧ Below w.heap.size w w' := by
  obtain ⟨n, hxn⟩ : ∃ n, xs.length = n := ⟨_, rfl⟩
  have HP := Lib.hid (fun W (h : Below w.heap.size w W) => hR.on h)
  have HN := Lib.hid hxn
  obtain ⟨Z, hZ⟩ : ∃ Z, mxA 0 xs = Z := ⟨_, rfl⟩
  have HZ0 : Hid (mxA 0 (xs.drop 0) = Z) := Lib.hid hZ
  rw [hxn] at hn ⊢
  rw [hZ]
  clear hR hxn hZ
  have HA0 : Hid (Arr (w.alloc (.cells #[.int .i64 0] 2)) w.heap.size 2 [.int .i64 0] ∧ Below w.heap.size w (w.alloc (.cells #[.int .i64 0] 2))) := Lib.hid ⟨Arr.fresh w _ [.int .i64 0], (Below.refl _ _).alloc (Nat.le_refl _) _⟩
  go_enter Try.func78, Try.ntmps78
  go_wp2
  go_loopw [7] (fun iq wr => ∃ (k : Nat) (m : Int), k ≤ n ∧ iq = .int .i64 k ∧ mxA m (xs.drop k) = Z ∧ Arr wr w.heap.size 2 [.int .i64 m] ∧ Below w.heap.size w wr) (fun i _ => n - (intOf i).toNat)
  case atStart => exact ⟨0, 0, Nat.zero_le _, rfl, HZ0.out, HA0.out.1, HA0.out.2⟩
  case round =>
    obtain ⟨k, m, hk, rfl, hz, hA, hb⟩ := hrel
    have HZ := Lib.hid hz
    have HA := Lib.hid hA
    have HB := Lib.hid hb
    clear hz hA
    by_cases hlt : k < n
    · have hlt1 : k < xs.length := by rw [HN.out]; exact hlt
      have hdr : xs.drop k = xs[k] :: xs.drop (k + 1) := List.drop_eq_getElem_cons hlt1
      obtain ⟨g, rfl, hg, a0, a1, a2, a3⟩ := row_se4 (HP.out _ hb) hlt1
      obtain ⟨x, hx⟩ : ∃ x, xs[k] = x := ⟨_, rfl⟩
      rw [hx] at a0 a1 a2 a3 hdr
      obtain ⟨m2, hm2⟩ : ∃ m2, (if m < x.p then x.p else m) = m2 := ⟨_, rfl⟩
      have HZ2 : Hid (mxA m2 (xs.drop (k + 1)) = Z) := Lib.hid (by have := HZ.out; rw [hdr] at this; rw [← hm2]; exact this)
      have HMX := Lib.hid hm2
      have q1 : (0 : Int) ≤ (k : Int) := by omega
      have q2 : (k : Int) < (n : Int) := by omega
      clear hb hx hdr
      go_wp2
      refine wp_region_held_drew (S := fun _ => True) (by kernel_rfl) trivial (fun hHeld => ?_)
      have HAd : Hid (Arr wr.drew w.heap.size 2 [.int .i64 m]) := Lib.hid HA.out
      have HBd : Hid (Below w.heap.size w wr.drew) := Lib.hid HB.out.drew
      replace a2 : wr.drew.cell? ⟨g, k * 4 + 2, none⟩ = some (.int .i64 x.p) := a2
      generalize wr.drew = Wd at hHeld HAd HBd a2 ⊢
      clear a0 a1 a3 HA HB
      have c0 : Wd.cell? ⟨w.heap.size, 0, none⟩ = some (.int .i64 m) := HAd.out.cell 0
      have f0 : Wd.frozen? ⟨w.heap.size, 0, none⟩ = false := HAd.out.free 0
      refine takeQ (i := 1) (k := 11) (v := .slice (some ⟨g, 0, none⟩) n c) rfl (by rfl) (by kernel_rfl) (by kernel_rfl) (by kernel_rfl) (fun _ _ _ h => h) (by rfl) ?_ hHeld ?_
      · intro w1 hSw; go_simp
      (try simp only [Act.put, List.setIfInBounds_toArray, List.set_cons_zero, List.set_cons_succ])
      refine takeQ (i := 2) (k := 12) (v := .int .i64 (k : Int)) rfl (by rfl) (by kernel_rfl) (by kernel_rfl) (by kernel_rfl) (fun _ _ _ h => h) (by rfl) ?_ hHeld ?_
      · intro w1 hSw; go_simp
      (try simp only [Act.put, List.setIfInBounds_toArray, List.set_cons_zero, List.set_cons_succ])
      refine takeQ (i := 3) (k := 13) (v := .pointer (some ⟨g, k * 4, none⟩)) rfl (by rfl) (by kernel_rfl) (by kernel_rfl) (by kernel_rfl) (fun _ _ _ h => h) (by rfl) ?_ hHeld ?_
      · intro w1 hSw; go_simp
      (try simp only [Act.put, List.setIfInBounds_toArray, List.set_cons_zero, List.set_cons_succ])
      refine takeQ (i := 4) (k := 14) (v := .pointer (some ⟨g, k * 4 + 2, none⟩)) rfl (by rfl) (by kernel_rfl) (by kernel_rfl) (by kernel_rfl) (fun _ _ _ h => h) (by rfl) ?_ hHeld ?_
      · intro w1 hSw; go_simp
      (try simp only [Act.put, List.setIfInBounds_toArray, List.set_cons_zero, List.set_cons_succ])
      refine wpAnyH_ready (rs := [0, 5]) (by kernel_rfl) (by simp) ?_
      refine AllReadyH.cons rfl (fun K hK => ?_) (AllReadyH.cons rfl (fun K hK => ?_) AllReadyH.nil)
      · rw [if_pos (by rfl)]
        go_simp
        refine hK.out _ _ trivial (fun hHeld => ?_)
        clear hK K
        (try simp only [Act.put, List.setIfInBounds_toArray, List.set_cons_zero, List.set_cons_succ])
        refine wpAnyH_ready (rs := [5]) (by kernel_rfl) (by simp) ?_
        refine AllReadyH.cons rfl (fun K hK => ?_) AllReadyH.nil
        rw [if_pos (by rfl)]
        go_simp
        refine hK.out _ _ trivial (fun hHeld => ?_)
        clear hK K
        (try simp only [Act.put, List.setIfInBounds_toArray, List.set_cons_zero, List.set_cons_succ])
        refine takeQ (i := 6) (k := 16) (v := .int .i64 m2) rfl (by rfl) (by kernel_rfl) (by kernel_rfl) (by kernel_rfl) (fun _ _ _ h => h) (by rfl) ?_ hHeld ?_
        · intro w1 hSw; go_simp; exact (mx_eq m x.p).trans HMX.out
        (try simp only [Act.put, List.setIfInBounds_toArray, List.set_cons_zero, List.set_cons_succ])
        refine wpAnyH_ready (rs := [7]) (by kernel_rfl) (by simp) ?_
        refine AllReadyH.cons rfl (fun K hK => ?_) AllReadyH.nil
        rw [if_pos (by rfl)]
        go_simp
        refine hK.out _ _ trivial (fun hHeld => ?_)
        clear hK K
        (try simp only [Act.put, List.setIfInBounds_toArray, List.set_cons_zero, List.set_cons_succ])
        refine wpAnyH_done (by kernel_rfl) ?_ _
        go_wp2
        go_roundw
        case rel => exact ⟨k + 1, m2, by omega, by go_num, HZ2.out, HAd.out.put 0 (.int .i64 m2), HBd.out.setCell (p := ⟨w.heap.size, 0, none⟩) (Nat.le_refl _) _⟩
        case measure => simp [intOf]; omega
      · rw [if_pos (by rfl)]
        go_simp
        refine hK.out _ _ trivial (fun hHeld => ?_)
        clear hK K
        (try simp only [Act.put, List.setIfInBounds_toArray, List.set_cons_zero, List.set_cons_succ])
        refine wpAnyH_ready (rs := [0]) (by kernel_rfl) (by simp) ?_
        refine AllReadyH.cons rfl (fun K hK => ?_) AllReadyH.nil
        rw [if_pos (by rfl)]
        go_simp
        refine hK.out _ _ trivial (fun hHeld => ?_)
        clear hK K
        (try simp only [Act.put, List.setIfInBounds_toArray, List.set_cons_zero, List.set_cons_succ])
        refine takeQ (i := 6) (k := 16) (v := .int .i64 m2) rfl (by rfl) (by kernel_rfl) (by kernel_rfl) (by kernel_rfl) (fun _ _ _ h => h) (by rfl) ?_ hHeld ?_
        · intro w1 hSw; go_simp; exact (mx_eq m x.p).trans HMX.out
        (try simp only [Act.put, List.setIfInBounds_toArray, List.set_cons_zero, List.set_cons_succ])
        refine wpAnyH_ready (rs := [7]) (by kernel_rfl) (by simp) ?_
        refine AllReadyH.cons rfl (fun K hK => ?_) AllReadyH.nil
        rw [if_pos (by rfl)]
        go_simp
        refine hK.out _ _ trivial (fun hHeld => ?_)
        clear hK K
        (try simp only [Act.put, List.setIfInBounds_toArray, List.set_cons_zero, List.set_cons_succ])
        refine wpAnyH_done (by kernel_rfl) ?_ _
        go_wp2
        go_roundw
        case rel => exact ⟨k + 1, m2, by omega, by go_num, HZ2.out, HAd.out.put 0 (.int .i64 m2), HBd.out.setCell (p := ⟨w.heap.size, 0, none⟩) (Nat.le_refl _) _⟩
        case measure => simp [intOf]; omega
    · have HF : Hid (m = Z) := Lib.hid (by have := HZ.out; rw [List.drop_eq_nil_of_le (by rw [HN.out]; omega)] at this; exact this)
      clear hb
      go_wp2
      go_ret
      exact ⟨rfl, (HA.out.cell 0).trans (by rw [HF.out]; rfl), HB.out⟩
end Go.Proofs.Ytkdljhmenejckaa
