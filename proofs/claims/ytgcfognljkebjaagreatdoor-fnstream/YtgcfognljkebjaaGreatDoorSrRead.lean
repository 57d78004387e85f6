/- What StanzaRead answers, the program's and the specification's: the same. -/
import Derived.Test.YtgcfognljkebjaaGreatDoorSrImp2
import Derived.Test.YtgcfognljkebjaaGreatDoorSrSpec3
namespace Go.Proofs.YtgcfognljkebjaaGreatDoor
set_option linter.unusedSimpArgs false
set_option linter.unusedVariables false
open Go.RowKit Go.Joins

/-- The answer of StanzaRead. -/
def outV (x : StL) (c : Int) : Value := .agg #[.string (strOf x.k), .string (strOf x.t), .string (strOf x.f), .string (strOf x.o), .int .i64 x.n, .string (strOf x.b), .int .i64 c]
/-- This text is the one of this valid stanza. -/
def okX (x : StL) (T : List UInt8) : Prop := stB (strOf x.k) (strOf x.t) (strOf x.f) (strOf x.o) x.n (strOf x.b) = true ∧ markL x.k x.t x.f x.o x.n x.b = T
theorem ok_rdS {x : StL} {T : List UInt8} (h : okX x T) : rdS T = x := by
  have := rdS_text h.1
  rw [strOf_data, strOf_data, strOf_data, strOf_data, strOf_data, h.2] at this
  exact this
theorem ok_rdI {x : StL} {T : List UInt8} (h : okX x T) : rdI numI plI T = x := by
  obtain ⟨h1, h2⟩ := h
  obtain ⟨h0, hn, hb⟩ := stB_id h1
  rw [strOf_size] at hb
  unfold stB at h1
  simp only [Bool.and_eq_true] at h1
  obtain ⟨⟨⟨⟨⟨hk, ht⟩, hf⟩, ho⟩, _⟩, _⟩ := h1
  have q1 := quiet_name ht
  have q2 := quiet_addr hf
  have q3 := quiet_addr ho
  rw [strOf_data] at q1 q2 q3
  have hk2 : x.k ∈ kindsL := by
    have e : x.k = (strOf x.k).data.toList := (strOf_data _).symm
    rcases kind_cases hk with h | h | h | h <;> (rw [e, h]; simp [kindsL])
  rw [← h2]
  exact rdI_mark hk2 q1 q2 q3 h0 hn (numI_id h0 hn) (plI_esc hb)
theorem ok_same (T : List UInt8) : okX (rdI numI plI T) T ↔ okX (rdS T) T := by
  constructor
  · intro h
    rw [ok_rdS h]
    exact h
  · intro h
    rw [ok_rdI h]
    exact h
open Classical in
noncomputable def srV (T : List UInt8) : Value := if 20000 < T.length then outV zeroL 2 else if okX (rdS T) T then outV (rdS T) 0 else outV zeroL 3
theorem mark_cons (k t f o : List UInt8) (n : Int) (b : List UInt8) : markL k t f o n b ≠ [] := by simp [markL, headL]
theorem stT_ok {x : StL} {T : List UInt8} (h : okX x T) : stT (strOf x.k) (strOf x.t) (strOf x.f) (strOf x.o) x.n (strOf x.b) = strOf T := by
  unfold stT
  rw [if_pos h.1, strOf_data, strOf_data, strOf_data, strOf_data, strOf_data, h.2]
theorem stT_no {x : StL} {T : List UInt8} (hT : T ≠ []) (h : ¬ okX x T) : stT (strOf x.k) (strOf x.t) (strOf x.f) (strOf x.o) x.n (strOf x.b) ≠ strOf T := by
  unfold stT
  intro e
  split at e
  · rename_i hb
    refine h ⟨hb, ?_⟩
    have := congrArg (fun s : ByteArray => s.data.toList) e
    simp only [strOf_data] at this
    exact this
  · have := congrArg (fun s : ByteArray => s.data.toList) e
    simp only [strOf_data] at this
    exact hT this.symm
theorem arr_seven {w : World} {g t : Nat} {a b c d e f h : Value} (hA : Arr w g t [a, b, c, d, e, f, h]) : w.cell? ⟨g, 0, none⟩ = some a ∧ w.cell? ⟨g, 1, none⟩ = some b ∧ w.cell? ⟨g, 2, none⟩ = some c ∧ w.cell? ⟨g, 3, none⟩ = some d ∧ w.cell? ⟨g, 4, none⟩ = some e ∧ w.cell? ⟨g, 5, none⟩ = some f ∧ w.cell? ⟨g, 6, none⟩ = some h ∧ w.frozen? ⟨g, 0, none⟩ = false ∧ w.frozen? ⟨g, 1, none⟩ = false ∧ w.frozen? ⟨g, 2, none⟩ = false ∧ w.frozen? ⟨g, 3, none⟩ = false ∧ w.frozen? ⟨g, 4, none⟩ = false ∧ w.frozen? ⟨g, 5, none⟩ = false ∧ w.frozen? ⟨g, 6, none⟩ = false :=
  ⟨hA.cell 0, hA.cell 1, hA.cell 2, hA.cell 3, hA.cell 4, hA.cell 5, hA.cell 6, hA.free 0, hA.free 1, hA.free 2, hA.free 3, hA.free 4, hA.free 5, hA.free 6⟩
theorem below_set7 {B g : Nat} {w w1 : World} (hb : Below B w w1) (hg : B ≤ g) (a b c d e f h : Value) : Below B w (((((((w1.setCell ⟨g, 0, none⟩ a).setCell ⟨g, 1, none⟩ b).setCell ⟨g, 2, none⟩ c).setCell ⟨g, 3, none⟩ d).setCell ⟨g, 4, none⟩ e).setCell ⟨g, 5, none⟩ f).setCell ⟨g, 6, none⟩ h) :=
  (below_set6 hb hg a b c d e f).setCell (p := ⟨g, 6, none⟩) hg h
def zero7 : List Value := [.string ⟨#[]⟩, .string ⟨#[]⟩, .string ⟨#[]⟩, .string ⟨#[]⟩, .int .i64 0, .string ⟨#[]⟩, .int .i64 0]
/-- The answer's box and the stanza's box. -/
theorem read_boxes {w w1 W : World} {x : StL} (h1 : Below (w.alloc (.cells zero7.toArray 81)).heap.size (w.alloc (.cells zero7.toArray 81)) w1)
    (h2 : Below (w1.alloc (.cells (stC x).toArray 70)).heap.size (w1.alloc (.cells (stC x).toArray 70)) W) :
    Arr W w.heap.size 81 zero7 ∧ Arr W w1.heap.size 70 (stC x) ∧ Below w.heap.size w W ∧ w.heap.size < w1.heap.size := by
  have hA : Arr w1 w.heap.size 81 zero7 := (h1.block _ (by simp)).trans (Arr.fresh w 81 zero7)
  exact ⟨arr_below hA (below_one h2), (h2.block _ (by simp)).trans (Arr.fresh w1 70 (stC x)), (below_one h1).trans ((below_one h2).mono (below_one h1).size), arr_lt hA⟩
theorem withI_le {x : StL} {m : Nat} (h : LeL x m) (N V : List UInt8) (hV : V.length ≤ m) : LeL (withI numI x N V) m := by
  obtain ⟨h1, h2, h3, h4, h5⟩ := h
  unfold withI
  repeat' split
  all_goals exact ⟨by assumption, by assumption, by assumption, by assumption, by assumption⟩
theorem foldI_le {m : Nat} : ∀ (l : List (List UInt8)) (x : StL), (∀ f ∈ l, f.length ≤ m) → LeL x m → LeL (l.foldl (fieldI numI) x) m
  | [], x, _, hx => hx
  | F :: l, x, hl, hx => by
    rw [List.foldl_cons]
    refine foldI_le l _ (fun f hf => hl f (List.mem_cons_of_mem _ hf)) ?_
    unfold fieldI
    have h1 := hl F (List.mem_cons_self ..)
    have h2 := cut_le F 61
    have h3 := trimB_le (Lib.cut F [61]).2.1 39
    exact withI_le hx _ _ (by omega)
theorem startI_le (T : List UInt8) : (startI T).length ≤ T.length := by
  unfold startI
  exact Nat.le_trans (trimSuf_le _ _) (Nat.le_trans (trimPre_le _ _) (cut_le T 62).1)
theorem wordsI_le (T : List UInt8) : ∀ f ∈ wordsI T, f.length ≤ T.length := fun f hf => Nat.le_trans (splitK_le [32] (Lib.count (startI T) [32]) (startI T) f hf) (startI_le T)
theorem headD_le {l : List (List UInt8)} {m : Nat} (h : ∀ f ∈ l, f.length ≤ m) : (l.headD []).length ≤ m := by
  cases l with
  | nil => exact Nat.zero_le _
  | cons a l => exact h a (List.mem_cons_self ..)
theorem bodyI_le (k r : List UInt8) : (bodyI plI k r).length ≤ r.length := Nat.le_trans (plI_le _) (trimSuf_le _ _)
theorem withB_le {x : StL} {m : Nat} (h : LeL x m) {b : List UInt8} (hb : b.length ≤ m) : LeL { x with b := b } m := ⟨h.1, h.2.1, h.2.2.1, h.2.2.2.1, hb⟩
theorem withK_le {m : Nat} {k : List UInt8} (hk : k.length ≤ m) : LeL { zeroL with k := k } m := ⟨hk, Nat.zero_le _, Nat.zero_le _, Nat.zero_le _, Nat.zero_le _⟩
theorem rdI_le (T : List UInt8) {m : Nat} (h : T.length ≤ m) : LeL (rdI numI plI T) m := by
  unfold rdI
  refine withB_le (foldI_le _ _ (fun f hf => Nat.le_trans (wordsI_le T f (List.mem_of_mem_tail hf)) h) (withK_le (headD_le (fun f hf => Nat.le_trans (wordsI_le T f hf) h)))) ?_
  exact Nat.le_trans (bodyI_le _ _) (Nat.le_trans (cut_le T 62).2 h)
set_option maxRecDepth 100000 in
set_option maxHeartbeats 2000000 in
theorem spec_sread (s : ByteArray) (w : World) (hs : s.size ≤ 2000000) :
    Calls Tryz.prog 48 #[.string s] w fun e w' => e = .returned (srV s.data.toList) ∧ Below w.heap.size w w' := by
  have hlen := size_data s
  unfold srV
  by_cases hbig : 20000 < s.data.toList.length
  · rw [if_pos hbig]
    have hbig2 : 20000 < s.size := by omega
    clear hbig hlen
    go_enter Tryz.func48, Tryz.ntmps48
    go_wp2
    exact bodyPost_ret (v := outV zeroL 2) (by simp [results, Tryz.results48, go_sem, outV, zeroL, strOf]) rfl ⟨rfl, (Below.refl _ _).alloc (Nat.le_refl _) _⟩
  · rw [if_neg hbig]
    have hs2 : s.size ≤ 20000 := by omega
    clear hbig
    have i1 := fun W => spec_stread s W hs2
    have hle : LeL (rdS s.data.toList) 2000000 := rdS_le s.data.toList (by omega) (by omega)
    have HR : Hid (∀ x, rdS s.data.toList = x → (okX x s.data.toList ↔ okX (rdS s.data.toList) s.data.toList) ∧ (okX x s.data.toList → rdS s.data.toList = x)) := Lib.hid (fun x hx => by
      subst hx
      exact ⟨Iff.rfl, fun h => ok_rdS h⟩)
    obtain ⟨x, hx⟩ : ∃ x, rdS s.data.toList = x := ⟨_, rfl⟩
    rw [hx] at i1 hle
    obtain ⟨HO, HO2⟩ := HR.out x hx
    clear hx HR
    unfold stLV at i1
    obtain ⟨l1, l2, l3, l4, l5⟩ := hle
    rw [← strOf_size] at l1 l2 l3 l4 l5
    have i3 := fun W => spec_sttext (strOf x.k) (strOf x.t) (strOf x.f) (strOf x.o) x.n (strOf x.b) W l1 l2 l3 l4 l5
    clear l1 l2 l3 l4 l5 hlen
    by_cases hok : okX x s.data.toList
    · have hT := stT_ok hok
      rw [strOf_toList] at hT
      rw [if_pos (HO.1 hok), HO2 hok]
      have hne : s.toList ≠ [] := by rw [ByteArray.toList_eq, ← hok.2]; exact mark_cons _ _ _ _ _ _
      have he2 : s.toList.isEmpty = false := by cases h : s.toList with | nil => exact absurd h hne | cons a l => rfl
      rw [hT] at i3
      clear hok hT HO HO2
      go_enter Tryz.func48, Tryz.ntmps48
      go_wp2_with (first | (go_at_call 64; go_fit (i1 _); rintro e w1 ⟨rfl, hb1⟩) | (go_at_call 54; go_fit (i3 _); rintro e w3 ⟨rfl, hb⟩; obtain ⟨hA1, hA2, hB, hz⟩ := read_boxes hb1 hb; obtain ⟨b0, b1, b2, b3, b4, b5, b6, g0, g1, g2, g3, g4, g5, g6⟩ := arr_seven hA1; obtain ⟨a0, a1, a2, a3, a4, a5, f0, f1, f2, f3, f4, f5⟩ := arr_six hA2; have hz2 := arr_lt hA2; have hzW := arr_lt hA1))
      exact bodyPost_ret (v := outV x 0) (by simp [results, Tryz.results48, go_sem, b0, b1, b2, b3, b4, b5, b6, hz, outV, zeroL]; try omega) rfl ⟨rfl, below_set7 hB (Nat.le_refl _) _ _ _ _ _ _ _⟩
    · rw [if_neg (fun h => hok (HO.2 h))]
      by_cases hemp : s.data.toList = []
      · have he1 : s.toList = [] := by rw [ByteArray.toList_eq]; exact hemp
        clear hok HO HO2 i3 hemp
        have i3 : True := trivial
        go_enter Tryz.func48, Tryz.ntmps48
        go_wp2_with (first | (go_at_call 64; go_fit (i1 _); rintro e w1 ⟨rfl, hb1⟩; have hbx := (Below.refl (w1.alloc (.cells (stC x).toArray 70)).heap.size (w1.alloc (.cells (stC x).toArray 70)));  obtain ⟨hA1, hA2, hB, hz⟩ := read_boxes hb1 hbx; have hA0 : Arr w1 w.heap.size 81 zero7 := (hb1.block _ (by simp)).trans (Arr.fresh w 81 zero7); have hB0 := below_one hb1; obtain ⟨b0, b1, b2, b3, b4, b5, b6, g0, g1, g2, g3, g4, g5, g6⟩ := arr_seven hA0))
        exact bodyPost_ret (v := outV zeroL 3) (by simp [results, Tryz.results48, go_sem, b0, b1, b2, b3, b4, b5, b6, hz, outV, zeroL, strOf]; try omega) rfl ⟨rfl, (below_set7 hB0 (Nat.le_refl _) _ _ _ _ _ _ _).alloc (below_set7 hB0 (Nat.le_refl _) _ _ _ _ _ _ _).size _⟩
      · have hT := stT_no hemp hok
        rw [strOf_toList] at hT
        obtain ⟨Z, hZ⟩ : ∃ Z, stT (strOf x.k) (strOf x.t) (strOf x.f) (strOf x.o) x.n (strOf x.b) = Z := ⟨_, rfl⟩
        rw [hZ] at i3 hT
        have hn1 : Z.toList ≠ s.toList := fun e => hT (WideShapes.bytes_inj (by rw [← ByteArray.toList_eq, ← ByteArray.toList_eq]; exact e))
        have hn2 : (Z.toList == s.toList) = false := by rw [beq_eq_false_iff_ne]; exact hn1
        have hn3 : (Z.toList != s.toList) = true := by rw [bne_iff_ne]; exact hn1
        have he1 : s.toList ≠ [] := by rw [ByteArray.toList_eq]; exact hemp
        have he2 : s.toList.isEmpty = false := by cases h : s.toList with | nil => exact absurd h he1 | cons a l => rfl
        clear hok HO HO2 hZ hT hemp
        go_enter Tryz.func48, Tryz.ntmps48
        go_wp2_with (first | (go_at_call 64; go_fit (i1 _); rintro e w1 ⟨rfl, hb1⟩) | (go_at_call 54; go_fit (i3 _); rintro e w3 ⟨rfl, hb⟩; obtain ⟨hA1, hA2, hB, hz⟩ := read_boxes hb1 hb; obtain ⟨b0, b1, b2, b3, b4, b5, b6, g0, g1, g2, g3, g4, g5, g6⟩ := arr_seven hA1; obtain ⟨a0, a1, a2, a3, a4, a5, f0, f1, f2, f3, f4, f5⟩ := arr_six hA2; have hz2 := arr_lt hA2; have hzW := arr_lt hA1))
        exact bodyPost_ret (v := outV zeroL 3) (by simp [results, Tryz.results48, go_sem, b0, b1, b2, b3, b4, b5, b6, hz, outV, zeroL, strOf]; try omega) rfl ⟨rfl, below_set7 hB (Nat.le_refl _) _ _ _ _ _ _ _⟩
end Go.Proofs.YtgcfognljkebjaaGreatDoor
