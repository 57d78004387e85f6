/- impl.blockAt, impl.textsCopy; slices.Insert and slices.Delete on texts. -/
import Derived.Test.YtpjmcpfmnlfmdaaBkMath
import Derived.Test.YtpjmcpfmnlfmdaaShelfB
import Derived.Test.YtpjmcpfmnlfmdaaSeCopy
namespace Go.Proofs.Ytpjmcpfmnlfmdaa
set_option linter.unusedSimpArgs false
set_option linter.unusedVariables false
open Go.RowKit Go.Joins

def atX (xs : List ByteArray) (j : ByteArray) (t : Nat) : ByteArray := (xs[t]?).getD j
theorem atX_lt {xs : List ByteArray} {j : ByteArray} {t : Nat} (h : t < xs.length) : atX xs j t = xs[t] := by unfold atX; rw [List.getElem?_eq_getElem h]; rfl
theorem atX_ge {xs : List ByteArray} {j : ByteArray} {t : Nat} (h : xs.length ≤ t) : atX xs j t = j := by unfold atX; rw [List.getElem?_eq_none h]; rfl
theorem search_tx (xs : List ByteArray) (p : Option Addr) (c : Nat) (j : ByteArray) (w : World) (hI : IncT xs xs.length) (hn : xs.length ≤ 1048576) (hR : RowC strC 1 w p xs) :
    Calls Try.prog 74 #[.slice p xs.length c, .string j] w fun e w' => e = .returned (.tuple #[.int .i64 (posT j xs : Int), .bool (hereT j xs)]) ∧ Below w.heap.size w w' := by
  rcases Nat.eq_zero_or_pos xs.length with h0 | h0
  · have hx : xs = [] := List.eq_nil_of_length_eq_zero h0
    subst hx
    refine (Any2.slices_BinarySearch_string_empty Try.laysNm226 p c j w).mono ?_
    rintro e w' ⟨rfl, rfl⟩
    exact ⟨rfl, Below.refl _ _⟩
  · obtain ⟨g, rfl, hg, hc⟩ := hR (List.ne_nil_of_length_pos h0)
    refine (Any2.slices_BinarySearch_string Try.laysNm226 g 0 xs.length c (atX xs j) j w (by omega) (fun i hi => ?_)).mono ?_
    · have := hc i hi 0 (by decide)
      rw [Nat.mul_one, Nat.add_zero] at this
      rw [Nat.zero_add, atX_lt hi]
      exact this
    · have hk : Go.Lib.bsGo (fun t => Op.bytesLess (atX xs j t).toList j.toList) xs.length 0 xs.length = posT j xs := by
        refine Go.Lib.bsGo_spec _ (posT j xs) (fun t ht => ?_) (fun t ht => ?_) _ _ _ (by omega) (Nat.zero_le _) (posT_le j xs)
        · have hp := posT_le j xs
          show Op.bytesLess (atX xs j t).toList j.toList = true
          rw [atX_lt (by omega)]
          exact posT_lo (by omega) ht
        · show Op.bytesLess (atX xs j t).toList j.toList = false
          rcases Nat.lt_or_ge t xs.length with h | h
          · rw [atX_lt h]; exact posT_hi hI h ht
          · rw [atX_ge h]; exact sl_self _
      rintro e w' ⟨rfl, q, rfl⟩
      refine ⟨?_, below_drewN (Below.refl _ _) _⟩
      have hd : decide (posT j xs < xs.length ∧ atX xs j (posT j xs) = j) = hereT j xs := by
       cases hh : hereT j xs
       · rw [decide_eq_false_iff_not]
         rintro ⟨h1, h2⟩
         rw [atX_lt h1] at h2
         have := (hereT_only hI h1 (by rw [h2])).2
         rw [hh] at this
         cases this
       · rw [decide_eq_true_eq]
         exact ⟨hereT_lt hh, by rw [atX_lt (hereT_lt hh)]; exact hereT_eq hh⟩
      rw [hk, hd]
set_option maxRecDepth 100000 in
set_option maxHeartbeats 2000000 in
theorem impl_blockAt (xs : List ByteArray) (j : ByteArray) (p : Option Addr) (c : Nat) (w : World) (hn : xs.length ≤ 1048576) (hj : j.size ≤ 1048576) (hw : ∀ x ∈ xs, x.size ≤ maxLen) (hR : RowC strC 1 w p xs) (hm : MaxL w) :
    Calls Try.prog 44 #[.slice p xs.length c, .string j] w fun e w' => e = .returned (.tuple #[.int .i64 ((atT xs j).1 : Int), .int .i64 (atT xs j).2]) ∧ Below w.heap.size w w' := by
  have i1 := fun W h hm => impl_bkright xs p c W hn hw h hm
  have i2 := fun W (hk : bkB xs = true) h => search_tx xs p c j W (bkB_iff.1 hk).2.1 hn h
  obtain ⟨n, hxn⟩ : ∃ n, xs.length = n := ⟨_, rfl⟩
  by_cases hsz : 400 < n ∨ 20000 < j.size
  · rw [show atT xs j = (0, 2) by unfold atT; rw [hxn, if_pos hsz]]
    rw [hxn]
    by_cases h1 : 400 < n
    · clear i1 i2 hsz hR hw
      go_enter Try.func44, Try.ntmps44
      go_wp2
      exact bodyPost_ret (v := .tuple #[.int .i64 0, .int .i64 2]) (by simp [results, Try.results44, go_sem]) rfl ⟨rfl, Below.refl _ _⟩
    · have h2 : 20000 < j.size := by omega
      clear i1 i2 hsz hR hw
      go_enter Try.func44, Try.ntmps44
      go_wp2
      exact bodyPost_ret (v := .tuple #[.int .i64 0, .int .i64 2]) (by simp [results, Try.results44, go_sem]) rfl ⟨rfl, Below.refl _ _⟩
  have g1 : ¬ 400 < n := by omega
  have g2 : ¬ 20000 < j.size := by omega
  cases hk : bkB xs
  · rw [show atT xs j = (0, 1) by unfold atT; rw [hxn, if_neg hsz, if_pos hk]]
    rw [hk] at i1
    rw [hxn] at i1 ⊢
    clear i2 hsz hw hk
    go_enter Try.func44, Try.ntmps44
    go_wp2_with (go_at_call 19; go_fit (i1 _ hR hm); rintro e w1 ⟨rfl, hb⟩; have HB := Lib.hid hb; clear hb)
    exact bodyPost_ret (v := .tuple #[.int .i64 0, .int .i64 1]) (by simp [results, Try.results44, go_sem]) rfl ⟨rfl, HB.out⟩
  replace i2 := fun W h => i2 W hk h
  have HR := Lib.hid (fun W (h : Below w.heap.size w W) => hR.on h)
  rw [hk] at i1
  cases hh : hereT j xs
  · rw [show atT xs j = (posT j xs, 6) by unfold atT; rw [hxn, if_neg hsz, if_neg (by rw [hk]; decide), if_pos hh]]
    rw [hh] at i2
    rw [hxn] at i1 i2 ⊢
    clear hsz hw hk hh
    go_enter Try.func44, Try.ntmps44
    go_wp2_with (first
      | (go_at_call 74; go_fit (i2 _ (HR.out _ HB.out)); rintro e w2 ⟨rfl, hb⟩; have HB2 := Lib.hid (HB.out.trans (hb.mono HB.out.size)); clear hb)
      | (go_at_call 19; go_fit (i1 _ hR hm); rintro e w1 ⟨rfl, hb⟩; have HB := Lib.hid hb; clear hb))
    exact bodyPost_ret (v := .tuple #[.int .i64 (posT j xs : Int), .int .i64 6]) (by simp [results, Try.results44, go_sem]) rfl ⟨rfl, HB2.out⟩
  · rw [show atT xs j = (posT j xs, 0) by unfold atT; rw [hxn, if_neg hsz, if_neg (by rw [hk]; decide), if_neg (by rw [hh]; decide)]]
    rw [hh] at i2
    rw [hxn] at i1 i2 ⊢
    clear hsz hw hk hh
    go_enter Try.func44, Try.ntmps44
    go_wp2_with (first
      | (go_at_call 74; go_fit (i2 _ (HR.out _ HB.out)); rintro e w2 ⟨rfl, hb⟩; have HB2 := Lib.hid (HB.out.trans (hb.mono HB.out.size)); clear hb)
      | (go_at_call 19; go_fit (i1 _ hR hm); rintro e w1 ⟨rfl, hb⟩; have HB := Lib.hid hb; clear hb))
    exact bodyPost_ret (v := .tuple #[.int .i64 (posT j xs : Int), .int .i64 0]) (by simp [results, Try.results44, go_sem]) rfl ⟨rfl, HB2.out⟩
/-- append(v, y) within the capacity. -/
theorem app_fitX (w : World) {ops : Array Oper} {rest : List Oper} {o : Oper} {a : Act} {Q : Exit → Act → World → Prop} (hgd : o.guard = none) (s x : Operand)
    (ho : o.op = Op.call { callee := Callee.builtin Builtin.append, args := #[s, x], argTypes := #[23, 23] })
    (B g k cap : Nat) (xs : List ByteArray) (hs : a.eval s = .slice (some ⟨g, 0, none⟩) k cap) (hown : OwnC strC w B 9 1 (.slice (some ⟨g, 0, none⟩) k cap) xs) (hk : xs.length = k) (b : Nat) (y : ByteArray) (hx : a.eval x = .slice (some ⟨b, 0, none⟩) 1 1) (hA : Arr w b 9 (strC y)) (hfit : k + 1 ≤ cap)
    (h : ∀ w', OwnC strC w' B 9 1 (.slice (some ⟨g, 0, none⟩) (k + 1) cap) (xs ++ [y]) → w.grownBy w' (some g) → wpList Try.prog ops Q rest (a.put o.dst (.slice (some ⟨g, 0, none⟩) (k + 1) cap)) w') : wpList Try.prog ops Q (o :: rest) a w := by
  obtain ⟨i0, hi, hz0, hz1, hz2⟩ := info_parts info_tx
  subst hk
  refine wpList_append_fits w hgd s x 23 ho B 9 i0 1 Try.underlying23 hi hz1 g xs.length cap (xs.flatMap strC) hs hown ⟨b, 0, none⟩ 1 1 (strC y) hx (by rw [strC_len]) (fun j u hj => ?_) (by intro u hu; unfold strC at hu; simp at hu; subst hu; rfl) hfit (fun w' h1 h2 => h w' ?_ h2)
  · rw [show (⟨b, 0, none⟩ : Addr).add j = ⟨b, j, none⟩ by unfold Addr.add; split <;> simp_all, hA.cell]
    exact hj
  · unfold OwnC
    rw [List.length_append, List.flatMap_append]
    simpa using h1
set_option maxRecDepth 100000 in
set_option maxHeartbeats 1000000 in
theorem impl_txcopy (xs : List ByteArray) (p : Option Addr) (c : Nat) (w : World) (hn : xs.length ≤ 1048576) (hw : ∀ x ∈ xs, x.size ≤ 1048576) (hR : RowC strC 1 w p xs) :
    Calls Try.prog 47 #[.slice p xs.length c] w fun e w' => (e = .returned (.slice (some ⟨w.heap.size, 0, none⟩) xs.length xs.length) ∧ OwnC strC w' w.heap.size 9 1 (.slice (some ⟨w.heap.size, 0, none⟩) xs.length xs.length) xs) ∧ Below w.heap.size w w' := by
  obtain ⟨n, hxn⟩ : ∃ n, xs.length = n := ⟨_, rfl⟩
  have HP := Lib.hid (fun W (h : Below w.heap.size w W) => hR.on h)
  have HW := Lib.hid hw
  have HN := Lib.hid hxn
  rw [hxn] at hn ⊢
  clear hR hw hxn
  obtain ⟨i0, hi, hz0, hz1, hz2⟩ := info_parts info_tx
  go_enter Try.func47, Try.ntmps47
  go_wp2_with (refine wpList_make_own _ rfl _ _ 23 rfl w.heap.size 9 i0 _ 1 Try.underlying23 hi hz0 hz1 .i64 .i64 _ n rfl rfl rfl (by rw [hz2]; omega) (by unfold maxLen; omega) (Nat.le_refl _) ?_; intro w1 ho1 hg1)
  have HV1 : Hid (OwnC strC w1 w.heap.size 9 1 (.slice (some ⟨w.heap.size, 0, none⟩) 0 n) []) := Lib.hid ho1
  have HB1 : Hid (Below w.heap.size w w1) := Lib.hid ((Below.refl _ _).grown hg1 (Nat.le_refl _) (fun k hk => by cases hk))
  clear ho1 hg1
  go_loopw [3, 11] (fun sq iq wr => ∃ k : Nat, k ≤ n ∧ iq = .int .i64 k ∧ sq = .slice (some ⟨w.heap.size, 0, none⟩) k n ∧ OwnC strC wr w.heap.size 9 1 (.slice (some ⟨w.heap.size, 0, none⟩) k n) (xs.take k) ∧ Below w.heap.size w wr) (fun _ i _ => n - (intOf i).toNat)
  case atStart => exact ⟨0, Nat.zero_le _, rfl, rfl, HV1.out, HB1.out⟩
  case round =>
    obtain ⟨k, hk, rfl, rfl, hv, hb⟩ := hrel
    have HV := Lib.hid hv
    have HB := Lib.hid hb
    clear hv
    by_cases hlt : k < n
    · have hlt1 : k < xs.length := by rw [HN.out]; exact hlt
      obtain ⟨g, rfl, hg, a0⟩ := row_tx (HP.out _ hb) hlt1
      have hxw := HW.out _ (List.getElem_mem hlt1)
      obtain ⟨x, hx⟩ : ∃ x, xs[k] = x := ⟨_, rfl⟩
      rw [hx] at a0 hxw
      have i3 := fun W => joined_at9 x W (by omega)
      have HT : Hid (xs.take (k + 1) = xs.take k ++ [x]) := Lib.hid (by rw [List.take_succ_eq_append_getElem hlt1, hx])
      have HL : Hid ((xs.take k).length = k) := Lib.hid (by rw [List.length_take]; omega)
      clear hb hx hxw
      go_wp2_with (first
        | (at_builtin; have _ := HV2; refine app_fitX _ rfl _ _ rfl w.heap.size w.heap.size k n _ rfl (HV2.out.alloc _) HL.out w2.heap.size x rfl (Arr.fresh w2 9 (strC x)) (by omega) ?_; intro w3 hv3 hg3; have HV3 := Lib.hid hv3; have HG3 := Lib.hid hg3; clear hv3 hg3)
        | (go_at_call 48; go_fit (i3 _ _ (by simp)); rintro e w2 ⟨rfl, hb2⟩; have HV2 := Lib.hid (HV.out.on hb2); have HB2 := Lib.hid (HB.out.trans (hb2.mono HB.out.size)); clear hb2))
      go_roundw
      case rel => exact ⟨k + 1, by omega, by go_num, rfl, by rw [HT.out]; exact HV3.out, (HB2.out.alloc HB2.out.size _).grown HG3.out (HB2.out.alloc HB2.out.size _).size (fun k hk => by injection hk with hk; omega)⟩
      case measure => simp [intOf]; omega
    · obtain rfl : k = n := by omega
      have HT : Hid (xs.take k = xs) := Lib.hid (List.take_of_length_le (by rw [HN.out]; exact Nat.le_refl _))
      clear hb
      go_wp2
      go_ret
      exact ⟨⟨rfl, by have := HV.out; rw [HT.out] at this; exact this⟩, HB.out⟩
theorem flat_tx (xs : List ByteArray) : xs.flatMap strC = xs.map Value.string := by
  induction xs with
  | nil => rfl
  | cons x xs ih => rw [List.flatMap_cons, ih]; rfl
/-- Cells written one after another. -/
def putX : List Value → Nat → List Value → List Value
  | L, _, [] => L
  | L, o, v :: r => putX (L.set o v) (o + 1) r
theorem arr_drewX {w : World} {g t : Nat} {L : List Value} (h : Arr w g t L) : Arr w.drew g t L := h
theorem arr_newA {w : World} {A : Array Value} {t : Nat} {L : List Value} (h : A.toList = L) : Arr (w.alloc (.cells A t)) w.heap.size t L := by
  have := Arr.fresh w t A.toList
  rw [Array.toArray_toList] at this
  rw [← h]
  exact this
theorem arr_setCells {g t : Nat} : ∀ (vs : List Value) (o : Nat) (L : List Value) (W : World), Arr W g t L → Arr (W.setCells g o vs) g t (putX L o vs)
  | [], _, _, _, h => h
  | v :: r, o, L, W, h => arr_setCells r (o + 1) _ _ (h.put o v)
theorem below_cells {B b : Nat} (hb : B ≤ b) {a : World} : ∀ (vs : List Value) (o : Nat) {w : World}, Below B a w → Below B a (w.setCells b o vs)
  | [], _, _, h => h
  | v :: r, o, w, h => below_cells hb r (o + 1) (h.setCell (p := ⟨b, o, none⟩) hb v)
theorem putX_eq : ∀ (vs : List Value) (A M D : List Value), M.length = vs.length → putX (A ++ M ++ D) A.length vs = A ++ vs ++ D
  | [], A, M, D, h => by
    have : M = [] := List.eq_nil_of_length_eq_zero h
    subst this
    rfl
  | v :: r, A, [], D, h => by simp at h
  | v :: r, A, m :: M, D, h => by
    show putX ((A ++ m :: M ++ D).set A.length v) (A.length + 1) r = _
    have e : (A ++ m :: M ++ D).set A.length v = (A ++ [v]) ++ M ++ D := by
      rw [List.append_assoc, List.append_assoc, List.append_assoc, List.set_append_right _ _ (Nat.le_refl _), Nat.sub_self]
      rfl
    rw [e, show A.length + 1 = (A ++ [v]).length by simp, putX_eq r (A ++ [v]) M D (by simpa using h)]
    simp
theorem own_of_arr {W : World} {g n cap B : Nat} {L R : List Value} {xs : List ByteArray} (h : Arr W g 9 L) (hL : L = xs.map Value.string ++ R) (hn : xs.length = n) (hc : L.length = cap) (hB : B ≤ g) (hm : cap ≤ maxLen) : OwnC strC W B 9 1 (.slice (some ⟨g, 0, none⟩) n cap) xs := by
  refine ⟨by rw [flat_tx, List.length_map, Nat.mul_one], .inr ⟨g, cap, L.toArray, by rw [hn], hB, h, ?_, hm, by simp [hc], ?_⟩⟩
  · rw [← hc, hL, List.length_append, List.length_map]; omega
  · rw [flat_tx, hL, Nat.mul_one]
    show (xs.map Value.string ++ R).take _ = _
    rw [List.take_append_of_le_length (by simp), List.take_of_length_le (by simp)]
theorem own_arrX {W : World} {B g n : Nat} {xs : List ByteArray} (h : OwnC strC W B 9 1 (.slice (some ⟨g, 0, none⟩) n n) xs) (hn : xs.length = n) : Arr W g 9 (xs.map Value.string) ∧ B ≤ g := by
  rcases h.2 with ⟨h0, _⟩ | ⟨g', cap, cur, q1, q2, q3, q4, q5, q6, q7⟩
  · cases h0
  · injection q1 with e1 e2 e3
    injection e1 with e1
    injection e1 with e1
    subst e1 e3
    have e : cur.toList = xs.map Value.string := by
      rw [← flat_tx, ← q7, List.take_of_length_le]
      rw [Array.length_toList, q6, hn]
      omega
    refine ⟨?_, q2⟩
    unfold Arr
    rw [← e]
    exact q3
theorem zero_len (k : Nat) : (Builtin.zeroCells (Value.string ⟨#[]⟩).cells k).toList.length = k := by
  simp [Builtin.zeroCells, Value.cells]
theorem one_str {xs : List ByteArray} : ∀ v ∈ xs.map Value.string, v.oneCell' = true := by
  intro v hv
  obtain ⟨x, _, rfl⟩ := List.mem_map.1 hv
  rfl
set_option maxHeartbeats 2000000 in
theorem impl_insX (xs : List ByteArray) (j : ByteArray) (n P g vb B : Nat) (w : World) (hx : xs.length = n) (hn : n ≤ 8) (hP : P ≤ n) (hO : OwnC strC w B 9 1 (.slice (some ⟨g, 0, none⟩) n n) xs) (hY : w.cell? ⟨vb, 0, none⟩ = some (.string j)) :
    Calls Try.prog 46 #[.slice (some ⟨g, 0, none⟩) n n, .int .i64 (P : Int), .slice (some ⟨vb, 0, none⟩) 1 1] w fun e w' =>
      (∃ p k, e = .returned (.slice p (n + 1) k) ∧ OwnC strC w' w.heap.size 9 1 (.slice p (n + 1) k) (xs.take P ++ [j] ++ xs.drop P)) ∧ Below w.heap.size w w' := by
  obtain ⟨hA, -⟩ := own_arrX hO hx
  obtain ⟨G, hG⟩ : ∃ G, grownCap w (n + 1) n (Try.laysNm222_ren.t 9) = G := ⟨_, rfl⟩
  have hGn : n + 1 ≤ G := by rw [← hG]; exact grownCap_ge w _ _ _
  have hGm : G ≤ maxLen := by rw [← hG]; exact grownCap_le_maxLen w (n + 1) n _ (by unfold maxLen; omega)
  have hvs : ∀ i v, [Value.string j][i]? = some v → w.cell? ⟨vb, 0 + i, none⟩ = some v := by
    intro i v h
    cases i with
    | zero => simp at h; subst h; exact hY
    | succ i => simp at h
  rcases Nat.lt_or_ge P n with h | h
  · refine (Any2.slices_Insert_string_grow Try.laysNm222 g 0 n n P vb 0 1 1 (xs.map Value.string) [.string j] w h (by decide) (Nat.le_refl _) (by omega) (by omega) (by rw [List.length_map, hx]) rfl (fun i v hv => ?_) hvs one_str (by intro v hv; simp at hv; subst hv; rfl)).mono ?_
    · rw [Nat.zero_add, hA.cell]; exact hv
    · rintro e w' ⟨he, hw⟩
      rw [hG] at he hw
      subst he hw
      refine ⟨⟨_, G, rfl, ?_⟩, ?_⟩
      · have h1 : Arr (w.alloc (.cells ((((xs.map Value.string).take P).toArray ++ Builtin.zeroCells (Value.string ⟨#[]⟩).cells (n + 1 - P) ++ Builtin.zeroCells (Value.string ⟨#[]⟩).cells (G - (n + 1)))) 9)) w.heap.size 9 ((xs.take P).map Value.string ++ (Builtin.zeroCells (Value.string ⟨#[]⟩).cells (n + 1 - P)).toList ++ (Builtin.zeroCells (Value.string ⟨#[]⟩).cells (G - (n + 1))).toList) := by
          refine arr_newA (by simp [List.map_take])
        obtain ⟨Z1, hZ1⟩ : ∃ Z1, (Builtin.zeroCells (Value.string ⟨#[]⟩).cells (n + 1 - P)).toList = Z1 := ⟨_, rfl⟩
        obtain ⟨Z2, hZ2⟩ : ∃ Z2, (Builtin.zeroCells (Value.string ⟨#[]⟩).cells (G - (n + 1))).toList = Z2 := ⟨_, rfl⟩
        have hl1 : Z1.length = n + 1 - P := by rw [← hZ1]; exact zero_len _
        have hl2 : Z2.length = G - (n + 1) := by rw [← hZ2]; exact zero_len _
        rw [hZ1, hZ2] at h1
        obtain ⟨z, Z3, rfl⟩ : ∃ z Z3, Z1 = z :: Z3 := by
          cases Z1 with
          | nil => simp at hl1; omega
          | cons z Z3 => exact ⟨z, Z3, rfl⟩
        have hAl : ((xs.take P).map Value.string).length = P := by rw [List.length_map, List.length_take]; omega
        have h2 := arr_setCells [Value.string j] P _ _ (arr_drewX h1)
        have e1 := putX_eq [Value.string j] ((xs.take P).map Value.string) [z] (Z3 ++ Z2) rfl
        rw [hAl] at e1
        rw [show (xs.take P).map Value.string ++ (z :: Z3) ++ Z2 = (xs.take P).map Value.string ++ [z] ++ (Z3 ++ Z2) by simp, e1] at h2
        have h3 := arr_setCells ((xs.drop P).map Value.string) (P + 1) _ _ (arr_drewX h2)
        have e2 := putX_eq ((xs.drop P).map Value.string) ((xs.take P).map Value.string ++ [Value.string j]) Z3 Z2 (by rw [List.length_map, List.length_drop, hx]; simp at hl1; omega)
        rw [show ((xs.take P).map Value.string ++ [Value.string j]).length = P + 1 by rw [List.length_append, hAl]; rfl] at e2
        rw [show (xs.take P).map Value.string ++ [Value.string j] ++ (Z3 ++ Z2) = (xs.take P).map Value.string ++ [Value.string j] ++ Z3 ++ Z2 by simp, e2] at h3
        rw [← List.map_drop]
        refine own_of_arr (R := Z2) h3 (by simp) (by simp; omega) ?_ (Nat.le_refl _) hGm
        simp only [List.length_append, List.length_map, List.length_take, List.length_drop, List.length_cons, List.length_nil]
        simp at hl1
        omega
      · exact below_cells (Nat.le_refl _) _ _ (below_cells (Nat.le_refl _) _ _ ((Below.refl _ _).alloc (Nat.le_refl _) _).drew).drew
  · obtain rfl : P = n := by omega
    refine (Any2.slices_Insert_string_end_grow Try.laysNm222 (some ⟨g, 0, none⟩) P P vb 0 1 1 (xs.map Value.string) [.string j] w (by decide) (Nat.le_refl _) (by omega) (by omega) (by rw [List.length_map, hx]) rfl (fun e => by cases e) (fun a ha i v hv => ?_) hvs (by intro v hv; simp at hv; subst hv; rfl)).mono ?_
    · injection ha with ha
      subst ha
      rw [show (⟨g, 0, none⟩ : Addr).add i = ⟨g, i, none⟩ by unfold Addr.add; split <;> simp_all, hA.cell]
      exact hv
    · rintro e w' ⟨he, hw⟩
      rw [hG] at he hw
      subst he hw
      refine ⟨⟨_, G, rfl, ?_⟩, ((Below.refl _ _).drew).alloc (Nat.le_refl _) _⟩
      have h1 : Arr (w.drew.alloc (.cells (((xs.map Value.string) ++ [Value.string j]).toArray ++ Builtin.zeroCells (Value.string ⟨#[]⟩).cells (G - (P + 1))) 9)) w.heap.size 9 (((xs.map Value.string) ++ [Value.string j]) ++ (Builtin.zeroCells (Value.string ⟨#[]⟩).cells (G - (P + 1))).toList) := by
        refine arr_newA (w := w.drew) (by simp)
      rw [List.take_of_length_le (by omega), List.drop_eq_nil_of_le (by omega), List.append_nil]
      refine own_of_arr (R := (Builtin.zeroCells (Value.string ⟨#[]⟩).cells (G - (P + 1))).toList) h1 (by simp) (by simp; omega) ?_ (Nat.le_refl _) hGm
      rw [List.length_append, List.length_append, List.length_map, zero_len]
      simp
      omega
set_option maxHeartbeats 2000000 in
theorem impl_delX (xs : List ByteArray) (M P g B : Nat) (w : World) (hx : xs.length = M + 1) (hM : M ≤ 8) (hP : P ≤ M) (hO : OwnC strC w B 9 1 (.slice (some ⟨g, 0, none⟩) (M + 1) (M + 1)) xs) :
    Calls Try.prog 52 #[.slice (some ⟨g, 0, none⟩) (M + 1) (M + 1), .int .i64 (P : Int), .int .i64 ((P : Int) + 1)] w fun e w' => e = .returned (.slice (some ⟨g, 0, none⟩) M (M + 1)) ∧ OwnC strC w' B 9 1 (.slice (some ⟨g, 0, none⟩) M (M + 1)) (xs.take P ++ xs.drop (P + 1)) ∧ Below g w w' := by
  obtain ⟨hA, hB⟩ := own_arrX hO hx
  have h := Try.slices_Delete_string_cells g 0 (M + 1) (M + 1) P (P + 1) (atX xs ⟨#[]⟩) w (Nat.le_refl _) (by omega) (by omega) (by omega) (fun i hi => by
    rw [Nat.zero_add, hA.cell, List.getElem?_map, atX_lt (by omega), List.getElem?_eq_getElem (by omega)]
    rfl) (fun i hi => by rw [Nat.zero_add]; exact hA.free i)
  refine h.mono ?_
  rintro e w' ⟨rfl, q, rfl⟩
  have e0 : M + 1 - (P + 1 - P) = M := by omega
  have hS : (Go.Lib.strsOf (atX xs ⟨#[]⟩) (M + 1)).map Go.Proofs.encStr = xs.map Value.string := by
    unfold Go.Lib.strsOf
    rw [List.map_map]
    apply List.ext_getElem
    · simp [hx]
    · intro i h1 h2
      simp only [List.length_map] at h2
      simp only [List.getElem_map, List.getElem_range, Function.comp]
      rw [atX_lt h2]
  refine ⟨by rw [e0], ?_, below_cells (Nat.le_refl _) _ _ (below_drewN (Below.refl _ _) _)⟩
  have h2 := arr_setCells (((Go.Lib.strsOf (atX xs ⟨#[]⟩) (M + 1)).take P ++ (Go.Lib.strsOf (atX xs ⟨#[]⟩) (M + 1)).drop (P + 1) ++ List.replicate (P + 1 - P) []).map Go.Proofs.encStr) 0 _ _ (show Arr (w.drewN q) g 9 _ from hA)
  have e1 : ((Go.Lib.strsOf (atX xs ⟨#[]⟩) (M + 1)).take P ++ (Go.Lib.strsOf (atX xs ⟨#[]⟩) (M + 1)).drop (P + 1) ++ List.replicate (P + 1 - P) []).map Go.Proofs.encStr = (xs.take P ++ xs.drop (P + 1)).map Value.string ++ (List.replicate (P + 1 - P) []).map Go.Proofs.encStr := by
    rw [List.map_append, List.map_append, List.map_take, List.map_drop, hS, List.map_append, List.map_take, List.map_drop]
  rw [e1] at h2 ⊢
  have hl : ((xs.take P ++ xs.drop (P + 1)).map Value.string ++ (List.replicate (P + 1 - P) []).map Go.Proofs.encStr).length = M + 1 := by
    simp only [List.length_append, List.length_map, List.length_take, List.length_drop, List.length_replicate]
    omega
  have e2 := putX_eq ((xs.take P ++ xs.drop (P + 1)).map Value.string ++ (List.replicate (P + 1 - P) []).map Go.Proofs.encStr) [] (xs.map Value.string) [] (by rw [hl, List.length_map, hx])
  simp only [List.nil_append, List.append_nil, List.length_nil] at e2
  rw [e2] at h2
  exact own_of_arr h2 rfl (by rw [List.length_append, List.length_take, List.length_drop]; omega) hl hB (by unfold maxLen; omega)
end Go.Proofs.Ytpjmcpfmnlfmdaa
