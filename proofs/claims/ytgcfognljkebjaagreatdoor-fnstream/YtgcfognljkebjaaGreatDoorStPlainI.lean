/- What impl.unescaped answers. -/
import Derived.Test.YtgcfognljkebjaaGreatDoorStEscI
import Derived.Test.YtgcfognljkebjaaGreatDoorStPlainMath
namespace Go.Proofs.YtgcfognljkebjaaGreatDoor
set_option linter.unusedSimpArgs false
set_option linter.unusedVariables false
open Go.RowKit Go.Maps

theorem charOf_form {r : Int} (h : markB r = true) : charOf (formL r) = some (UInt8.ofNat r.toNat) := by
  unfold markB at h
  simp at h
  rcases h with rfl | rfl | rfl | rfl | rfl <;> decide
theorem charOf_some {X : List UInt8} {r : UInt8} (h : charOf X = some r) : X = formL r.toNat ∧ markB r.toNat = true := by
  unfold charOf at h
  split at h
  · rename_i e; simp at h; subst h; exact ⟨e, by decide⟩
  split at h
  · rename_i e; simp at h; subst h; exact ⟨e, by decide⟩
  split at h
  · rename_i e; simp at h; subst h; exact ⟨e, by decide⟩
  split at h
  · rename_i e; simp at h; subst h; exact ⟨e, by decide⟩
  split at h
  · rename_i e; simp at h; subst h; exact ⟨e, by decide⟩
  · cases h
/-- What the map of characters reads as while the forms that 'left' tells are still to come. -/
def CharsD (D : DataW Unit) (left : Lit → Bool) : Prop := ∀ (X : List UInt8) (z : DataW Unit), D.atKey (.string X) z = match charOf X with
  | some r => if left (.int .i32 r.toNat) then z else .lit (.int .i32 r.toNat)
  | none => z
theorem charsD_start : CharsD (.map []) (Maps.has formsD) := by
  intro X z
  cases h : charOf X with
  | none => rfl
  | some r =>
    simp only
    rw [forms_has, (charOf_some h).2]
    rfl
theorem charsD_step {D : DataW Unit} {left : Lit → Bool} (h : CharsD D left) (hD : IsMap D) {x : Int} (hx : markB x = true) : CharsD (D.put (.string (formL x)) (.lit (.int .i32 x))) (fun z => left z && !z.sameKey (.int .i32 x)) := by
  intro X z
  have hxn : ((UInt8.ofNat x.toNat).toNat : Int) = x := by
    unfold markB at hx
    simp at hx
    rcases hx with rfl | rfl | rfl | rfl | rfl <;> decide
  by_cases e : X = formL x
  · subst e
    rw [atKey_put_same hD (by exact True.intro), charOf_form hx]
    simp only
    rw [hxn]
    simp [same_i32]
  · rw [atKey_put_other (by intro h; injection h with h; exact e h), h X z]
    cases hc : charOf X with
    | none => rfl
    | some r =>
      have hne : (r.toNat : Int) ≠ x := fun hr => e (by rw [(charOf_some hc).1, hr])
      simp only [same_i32]
      simp [hne]
theorem law_str : Keyed Tryz.prog 9 := string_keyed Tryz.underlying9
theorem zero_i32 (w : World) : (zeroValue 21).run Tryz.prog w = .ok (.int .i32 0) w := by kernel_rfl
def charN (X : List UInt8) : Int := match charOf X with | some r => r.toNat | none => 0
/-- 'character, found := characters[X]'. -/
theorem wpList_lookup_char (w : World) {ops : Array Oper} {rest : List Oper} {o : Oper} {a : Act} {Q : Exit → Act → World → Prop}
    (hg : o.guard = none) (m x : Operand) (hop : o.op = Op.lookup 190 m x true) (b n : Nat) (D : DataW Unit) (hm : a.eval m = .map (some b)) (hown : w.ownsMap Tryz.prog 9 (plainElem Tryz.prog 21) b n D)
    (hD : CharsD D (fun _ => false)) (X : ByteArray) (hx : a.eval x = .string X) (hX : X.size ≤ maxLen)
    (hK : wpList Tryz.prog ops Q rest (a.put o.dst (.tuple #[.int .i32 (charN X.data.toList), .bool (charOf X.data.toList).isSome])) w) : wpList Tryz.prog ops Q (o :: rest) a w := by
  refine wpList_lookup_own_ok_int w hg m x _ hop 9 21 .i32 law_str Tryz.underlying190 Tryz.underlying21 (zero_i32 w) b n D hm hown _ (.string X.data.toList) hx (Go.WideMaps.keyOf_string_mk Tryz.underlying9 hX) ?_
  intro c hat hwc
  have h := hD X.data.toList
  have e1 : c = charN X.data.toList := by
    rw [h] at hat
    unfold charN
    cases hc : charOf X.data.toList with
    | none => rw [hc] at hat; simp at hat; exact hat.symm
    | some r => rw [hc] at hat; simp at hat; exact hat.symm
  have e2 : Maps.has D (.string X.data.toList) = (charOf X.data.toList).isSome := by
    cases hc : charOf X.data.toList with
    | none => exact Maps.has_false_of_atKey fun z => by rw [h, hc]
    | some r => exact Maps.has_true_of_atKey (y := .lit (.int .i32 r.toNat)) fun z => by rw [h, hc]; simp
  rw [e2, e1]
  exact hK
/-- What stands at each round: the map at M, the iterator at it, the parts from it + 1 on. -/
def UnW (w : World) (s : ByteArray) (D : DataW Unit) (M it pos : Nat) (v : Value) (ps : List ByteArray) (W : World) : Prop :=
  W.ownsMap Tryz.prog 9 (plainElem Tryz.prog 21) M 5 D ∧ W.heap[it]? = some (.stringIter s pos) ∧ OwnS W (it + 1) v ps ∧ Below w.heap.size w W
theorem UnW.grow {w : World} {s : ByteArray} {D : DataW Unit} {M it pos : Nat} {v v' : Value} {ps ps' : List ByteArray} {W W' : World} {row : Option Nat} (h : UnW w s D M it pos v ps W) (hM : M < it) (hw : w.heap.size ≤ it) (hg : W.grownBy W' row) (hr : ∀ k, row = some k → it < k) (ho : OwnS W' (it + 1) v' ps') : UnW w s D M it pos v' ps' W' := by
  have hne : ∀ b, b ≤ it → some b ≠ row := fun b hb e => by have := hr b e.symm; omega
  have hlt : it < W.heap.size := (Array.getElem?_eq_some_iff.1 h.2.1).1
  exact ⟨h.1.kept hg (hne M (by omega)), (hg.block it hlt (hne it (Nat.le_refl _))).trans h.2.1, ho, h.2.2.2.grown hg h.2.2.2.size (fun k hk => by have := hr k hk; omega)⟩
theorem UnW.alloc {w : World} {s : ByteArray} {D : DataW Unit} {M it pos : Nat} {v : Value} {ps : List ByteArray} {W : World} (h : UnW w s D M it pos v ps W) (hM : M < it) (hw : w.heap.size ≤ it) (o : Obj) : UnW w s D M it pos v ps (W.alloc o) :=
  h.grow hM hw (World.grownBy_alloc W o none) (fun k hk => by cases hk) (h.2.2.1.alloc o)
theorem UnW.step {w : World} {s : ByteArray} {D : DataW Unit} {M it pos : Nat} {v : Value} {ps : List ByteArray} {W : World} (h : UnW w s D M it pos v ps W) (hM : M < it) (hw : w.heap.size ≤ it) (p : Nat) : UnW w s D M it p v ps (W.iterAt it s p) :=
  ⟨ownsMap_iterAt h.1 (by omega) s p, Lib.iterAt_heap W it s pos p h.2.1, h.2.2.1.iterAt (Nat.lt_succ_self _) s p, Lib.below_iterAt h.2.2.2 hw s p⟩
theorem un_pos {w : World} {s : ByteArray} {D : DataW Unit} {M it pos : Nat} {v : Value} {ps : List ByteArray} {W : World} (h : UnW w s D M it pos v ps W) : W.iterPos it = pos := by simp only [World.iterPos, h.2.1]
/-- What is told so far, and where its parts lie. -/
def UnAt (s : ByteArray) (pos frm op : Nat) (ps : List ByteArray) : Prop :=
  unAll (s.data.toList.take pos) = ⟨flat ps, (s.extract frm op).data.toList, (s.extract op pos).data.toList⟩
theorem unAt_start (s : ByteArray) : UnAt s 0 0 0 [] := by
  unfold UnAt
  simp [unAll, flat]
theorem take_ext (s : ByteArray) (i j : Nat) (hij : i ≤ j) (hj : j ≤ s.size) : s.data.toList.take j = s.data.toList.take i ++ (s.extract i j).data.toList := by
  rw [ext_toList s i j hij hj]
  have := List.take_append_drop i (s.data.toList.take j)
  rw [List.take_take, Nat.min_eq_left hij] at this
  exact this.symm
theorem ext_app (s : ByteArray) (i j k : Nat) (hij : i ≤ j) (hjk : j ≤ k) (hk : k ≤ s.size) : (s.extract i k).data.toList = (s.extract i j).data.toList ++ (s.extract j k).data.toList := by
  have h1 := take_ext s i k (by omega) hk
  have h2 := take_ext s i j hij (by omega)
  have h3 := take_ext s j k hjk hk
  rw [h2] at h3
  rw [h1, List.append_assoc] at h3
  exact List.append_cancel_left h3
theorem ext_one (s : ByteArray) (j : Nat) (h : j < s.size) : (s.extract j (j + 1)).data.toList = [s[j]] := by
  rw [ext_toList s j (j + 1) (Nat.le_succ _) h, List.take_succ_eq_append_getElem (by simpa using h)]
  rw [List.drop_append_of_le_length (by simp; have : s.data.size = s.size := rfl; omega)]
  simp
  rfl
theorem ext_none (s : ByteArray) (j : Nat) : (s.extract j j).data.toList = [] := by
  apply List.eq_nil_of_length_eq_zero
  have : (s.extract j j).data.toList.length = (s.extract j j).size := size_data _
  rw [this, ByteArray.size_extract]
  omega
theorem unAt_more {s : ByteArray} {pos frm op : Nat} {ps : List ByteArray} (h : UnAt s pos frm op ps) {q : Nat} (hq : pos ≤ q) (hs : q ≤ s.size) : unAll (s.data.toList.take q) = (s.extract pos q).data.toList.foldl unStep ⟨flat ps, (s.extract frm op).data.toList, (s.extract op pos).data.toList⟩ := by
  rw [take_ext s pos q hq hs, un_append, h]
theorem byte_is {c : UInt8} {n : Nat} (hn : n < 256) (h : n = c.toNat) : c = UInt8.ofNat n := by
  apply UInt8.toNat_inj.1
  simp
  omega
theorem unAt_amp {s : ByteArray} {pos frm op : Nat} {ps : List ByteArray} (h : UnAt s pos frm op ps) (hp : pos < s.size) (h1 : frm ≤ op) (h2 : op ≤ pos) (hc : 38 = (s[pos]'hp).toNat) : UnAt s (pos + 1) frm pos ps := by
  unfold UnAt
  rw [unAt_more h (Nat.le_succ _) hp, ext_one s pos hp, byte_is (by decide) hc, List.foldl_cons, List.foldl_nil]
  rw [show UInt8.ofNat 38 = 38 from rfl, unStep_amp, ← ext_app s frm op pos h1 h2 (by omega)]
theorem unAt_none {s : ByteArray} {pos frm op : Nat} {ps : List ByteArray} (h : UnAt s pos frm op ps) (hp : pos < s.size) (h1 : frm ≤ op) (h2 : op ≤ pos) (hc : 59 = (s[pos]'hp).toNat) (hx : charOf (s.extract op (pos + 1)).data.toList = none) : UnAt s (pos + 1) frm (pos + 1) ps := by
  have e1 : s[pos]'hp = 59 := byte_is (by decide) hc
  have e2 : (s.extract op (pos + 1)).data.toList = (s.extract op pos).data.toList ++ [59] := by rw [ext_app s op pos (pos + 1) h2 (Nat.le_succ _) hp, ext_one s pos hp, e1]
  unfold UnAt
  rw [unAt_more h (Nat.le_succ _) hp, ext_one s pos hp, e1, List.foldl_cons, List.foldl_nil, unStep_semi_none (by rw [← e2]; exact hx), ext_none]
  simp only
  rw [← e2, ← ext_app s frm op (pos + 1) h1 (by omega) hp]
theorem unAt_some {s : ByteArray} {pos frm op : Nat} {ps : List ByteArray} {c : UInt8} (h : UnAt s pos frm op ps) (hp : pos < s.size) (h1 : frm ≤ op) (h2 : op ≤ pos) (hc : 59 = (s[pos]'hp).toNat) (hx : charOf (s.extract op (pos + 1)).data.toList = some c) : UnAt s (pos + 1) (pos + 1) (pos + 1) (ps ++ [s.extract frm op, strOf [c]]) := by
  have e1 : s[pos]'hp = 59 := byte_is (by decide) hc
  have e2 : (s.extract op (pos + 1)).data.toList = (s.extract op pos).data.toList ++ [59] := by rw [ext_app s op pos (pos + 1) h2 (Nat.le_succ _) hp, ext_one s pos hp, e1]
  unfold UnAt
  rw [unAt_more h (Nat.le_succ _) hp, ext_one s pos hp, e1, List.foldl_cons, List.foldl_nil, unStep_semi_some (r := c) (by rw [← e2]; exact hx), ext_none, flat_app]
  simp [flat, strOf_data]
theorem conv_mark {c : UInt8} (h : markB c.toNat = true) : ∀ w, (convert 21 9 (.int .i32 (c.toNat : Int))).run Tryz.prog w = .ok (.string (strOf [c])) w := by
  unfold markB at h
  simp at h
  intro w
  have e : ∀ k : UInt8, (c.toNat : Int) = (k.toNat : Int) → c = k := fun k hk => UInt8.toNat_inj.1 (by omega)
  rcases h with h | h | h | h | h
  · obtain rfl := e 38 h
    have q : (convert 21 9 (.int .i32 38)).run Tryz.prog w = .ok (.string (strOf [38])) w := by kernel_rfl
    exact q
  · obtain rfl := e 60 h
    have q : (convert 21 9 (.int .i32 60)).run Tryz.prog w = .ok (.string (strOf [60])) w := by kernel_rfl
    exact q
  · obtain rfl := e 62 h
    have q : (convert 21 9 (.int .i32 62)).run Tryz.prog w = .ok (.string (strOf [62])) w := by kernel_rfl
    exact q
  · obtain rfl := e 39 h
    have q : (convert 21 9 (.int .i32 39)).run Tryz.prog w = .ok (.string (strOf [39])) w := by kernel_rfl
    exact q
  · obtain rfl := e 34 h
    have q : (convert 21 9 (.int .i32 34)).run Tryz.prog w = .ok (.string (strOf [34])) w := by kernel_rfl
    exact q
theorem unAt_else {s : ByteArray} {pos frm op n : Nat} {ps : List ByteArray} (h : UnAt s pos frm op ps) (hp : pos + n ≤ s.size) (h2 : op ≤ pos) (hc : ∀ j (hj : j < s.size), pos ≤ j → j < pos + n → s[j]'hj ≠ 38 ∧ s[j]'hj ≠ 59) : UnAt s (pos + n) frm op ps := by
  unfold UnAt
  rw [unAt_more h (Nat.le_add_right _ _) hp, unFold_else, ← ext_app s op pos (pos + n) h2 (by omega) hp]
  intro c hcm
  rw [ext_toList s pos (pos + n) (by omega) hp] at hcm
  obtain ⟨k, hk, rfl⟩ := List.getElem_of_mem hcm
  simp only [List.getElem_drop, List.getElem_take]
  have hk' : pos + k < pos + n := by simp at hk; omega
  exact hc (pos + k) (by omega) (by omega) hk'
theorem rune_split (s : ByteArray) (pos : Nat) (hlt : pos < s.size) : ((Utf8.decode s pos).1 = 38 ∨ (Utf8.decode s pos).1 = 59) ∧ (Utf8.decode s pos).2 = 1 ∧ (Utf8.decode s pos).1 = (s[pos]'hlt).toNat ∨ ((Utf8.decode s pos).1 ≠ 38 ∧ (Utf8.decode s pos).1 ≠ 59) ∧ 1 ≤ (Utf8.decode s pos).2 ∧ pos + (Utf8.decode s pos).2 ≤ s.size ∧ ∀ j (hj : j < s.size), pos ≤ j → j < pos + (Utf8.decode s pos).2 → s[j]'hj ≠ 38 ∧ s[j]'hj ≠ 59 := by
  have small : ∀ c : UInt8, c.toNat ≠ 38 → c.toNat ≠ 59 → c ≠ 38 ∧ c ≠ 59 := fun c h1 h2 => ⟨fun e => h1 (by rw [e]; rfl), fun e => h2 (by rw [e]; rfl)⟩
  by_cases ha : (s[pos]'hlt).toNat < 128
  · rw [decode_ascii s pos hlt ha]
    by_cases h1 : (s[pos]'hlt).toNat = 38
    · exact .inl ⟨.inl h1, rfl, rfl⟩
    · by_cases h2 : (s[pos]'hlt).toNat = 59
      · exact .inl ⟨.inr h2, rfl, rfl⟩
      · exact .inr ⟨⟨h1, h2⟩, Nat.le_refl _, hlt, fun j hj a1 a2 => by
          obtain rfl : j = pos := by dsimp only at a2; omega
          exact small _ h1 h2⟩
  · have ha' : 128 ≤ (s[pos]'hlt).toNat := by omega
    have hhi := decode_high s pos hlt ha'
    obtain ⟨d1, d2⟩ := decode_wide s pos hlt ha'
    exact .inr ⟨⟨by omega, by omega⟩, hhi.2, d1, fun j hj a1 a2 => small _ (by have := d2 j hj a1 a2; omega) (by have := d2 j hj a1 a2; omega)⟩
set_option maxRecDepth 100000 in
set_option maxHeartbeats 2000000 in
theorem impl_unesc (s : ByteArray) (w : World) (hs : s.size ≤ 20000) : Calls Tryz.prog 146 #[.string s] w fun e w' => e = .returned (.string (strOf (unAll s.data.toList).all)) ∧ Below w.heap.size w w' := by
  have hlen : s.data.toList.length = s.size := size_data s
  have hmm := @run_makeMap Tryz.prog
  have i1 := impl_forms (w.alloc (.map #[] 0))
  have e1 : (w.alloc (.map #[] 0)).heap.size = w.heap.size + 1 := by simp
  rw [e1] at i1
  go_enter Tryz.func146, Tryz.ntmps146
  go_wp2_with (first
    | (go_at_call 149; go_fit i1; rintro e w1 ⟨rfl, hown, hb⟩)
    | (at_range; refine wpList_range_own _ rfl _ 177 rfl 21 180 law_i32 Tryz.underlying177 _ (w.heap.size + 1) 5 _ rfl hown ?_; intro w0 hrg0 hg0 hs0)
    | go_in)
  go_frame
  have hF1 : w.heap.size + 1 < w1.heap.size := hown.lt
  have HB0 : Hid (Below w.heap.size w w0) := Lib.hid ((((Below.refl _ w).alloc (Nat.le_refl _) _).trans (hb.mono (Nat.le_succ _))).grown hg0 (by omega) (fun j hj => by cases hj))
  have HM0 : Hid (w0.ownsMap Tryz.prog 9 (plainElem Tryz.prog 21) w.heap.size 0 (.map [])) := Lib.hid (by
    have h1 : (w.alloc (.map #[] 0)).ownsMap Tryz.prog 9 (plainElem (H := Unit) Tryz.prog 21) w.heap.size 0 (.map []) := World.ownsMap_made w _ _ _
    obtain ⟨es, clock, hbk, r⟩ := h1
    exact World.ownsMap.kept ⟨es, clock, (hb.block w.heap.size (Nat.lt_succ_self _)).trans hbk, r⟩ hg0 (by simp))
  clear hown hb i1 hg0 hmm e1
  go_loopw [4] (fun _ wr => ∃ (left : Lit → Bool) (cnt : Nat) (Dout : DataW Unit), wr.ranges Tryz.prog 21 formElem (w.heap.size + 1) w1.heap.size 5 formsD left cnt ∧ cnt ≤ 5 ∧ wr.ownsMap Tryz.prog 9 (plainElem Tryz.prog 21) w.heap.size (5 - cnt) Dout ∧ CharsD Dout left ∧ Below w.heap.size w wr)
    (fun _ wr => wr.rangeLeft (w.heap.size + 1) w1.heap.size)
  case atStart => exact ⟨_, _, .map [], hrg0, by decide, HM0.out.mono (Nat.zero_le _), charsD_start, HB0.out⟩
  case round =>
    clear hrg0 hs0 HB0 HM0
    obtain ⟨left, cnt, Dout, hrg, hcs, hout, hA, hnx⟩ := hrel
    go_wp2_with (first
      | (at_next; refine wpList_next_ranges _ rfl _ rfl 21 law_i32 formElem (Value.int .i32) (fun c : ByteArray => .agg #[.string c]) (fun key kl hkey => by obtain ⟨x, rfl, _⟩ := Maps.keyOf_int_inv Tryz.underlying21 hkey; exact ⟨x, rfl⟩) (fun v y hv => by obtain ⟨c, rfl, _⟩ := formElem_inv hv; exact ⟨c, rfl⟩) (w.heap.size + 1) w1.heap.size 5 _ _ _ rfl hrg ?_ ?_)
      | go_in)
    · intro hc0 hl0
      subst hc0
      have hDf : CharsD Dout (fun _ => false) := by
        have e : left = fun _ => false := funext hl0
        rw [← e]
        exact hA
      obtain ⟨wo, rfl⟩ : ∃ wo, wo = wr := ⟨wr, rfl⟩
      have HU : Hid (UnW w s Dout w.heap.size wo.heap.size 0 (.slice none 0 0) [] (wo.iter s 0)) := Lib.hid ⟨hout.alloc _, World.iter_heap wo s 0, World.ownsRow_nil _ _ _ _, hnx.alloc hnx.size _⟩
      have hlt1 : w.heap.size < wo.heap.size := hout.lt
      have HDF := Lib.hid hDf
      clear hA hDf hl0 hrg hout hnx
      go_wp2
      go_loopw [6, 7, 8] (fun v f q W => ∃ (pos frm op : Nat) (ps : List ByteArray), pos ≤ s.size ∧ frm ≤ op ∧ op ≤ pos ∧ f = .int .i64 frm ∧ q = .int .i64 op ∧ ps.length ≤ 2 * pos ∧ UnW w s Dout w.heap.size wo.heap.size pos v ps W ∧ UnAt s pos frm op ps) (fun _ _ _ W => s.size - W.iterPos wo.heap.size)
      case atStart => exact ⟨0, 0, 0, [], Nat.zero_le _, Nat.le_refl _, Nat.le_refl _, rfl, rfl, Nat.le_refl _, HU.out, unAt_start s⟩
      case round =>
        clear HU
        obtain ⟨pos, frm, op, ps, hk, hfo, hop, rfl, rfl, hpl, hE, hat⟩ := hrel
        have hw1 : w.heap.size ≤ wo.heap.size := Nat.le_of_lt hlt1
        have hI := hE.2.1
        have hO := hE.2.2.1
        have HAT := Lib.hid hat
        clear hat
        have hsz : wo.heap.size < wr.heap.size := (Array.getElem?_eq_some_iff.1 hI).1
        by_cases hlt : pos < s.size
        · have hnx : ∀ ty, (Instr.next (.pointer (some ⟨wo.heap.size, 0, none⟩)) true ty).run Tryz.prog wr = _ := fun ty => Lib.run_next_any_at wr wo.heap.size s pos ty hI hlt
          have hd1 := decode_le s pos
          have hE2 := hE.step hlt1 hw1 (pos + (Utf8.decode s pos).2)
          have hpos := un_pos hE
          have HSPL : Hid (((Utf8.decode s pos).1 = 38 ∨ (Utf8.decode s pos).1 = 59) ∧ (Utf8.decode s pos).2 = 1 ∧ (Utf8.decode s pos).1 = (s[pos]'hlt).toNat ∨ ((Utf8.decode s pos).1 ≠ 38 ∧ (Utf8.decode s pos).1 ≠ 59) ∧ 1 ≤ (Utf8.decode s pos).2 ∧ pos + (Utf8.decode s pos).2 ≤ s.size ∧ ∀ j (hj : j < s.size), pos ≤ j → j < pos + (Utf8.decode s pos).2 → s[j]'hj ≠ 38 ∧ s[j]'hj ≠ 59) := Lib.hid (rune_split s pos hlt)
          obtain ⟨r, hr⟩ : ∃ r, r = (Utf8.decode s pos).1 := ⟨_, rfl⟩
          obtain ⟨n, hn⟩ : ∃ n, n = (Utf8.decode s pos).2 := ⟨_, rfl⟩
          rw [← hr, ← hn] at hnx HSPL
          rw [← hr] at hd1
          rw [← hn] at hE2
          obtain ⟨W, hW⟩ : ∃ W, wr.iterAt wo.heap.size s (pos + n) = W := ⟨_, rfl⟩
          rw [hW] at hnx hE2
          have hM2 := hE2.1
          have hsz2 : wo.heap.size < W.heap.size := (Array.getElem?_eq_some_iff.1 hE2.2.1).1
          clear hI hO hW hr hn hE
          rcases HSPL.out with ⟨hrr, rfl, hrs⟩ | ⟨⟨hr1, hr2⟩, s1, s2, s3⟩
          · rcases hrr with rfl | rfl
            · clear HSPL
              have HRS := Lib.hid hrs
              clear hrs
              go_wp2
              go_roundw
              case rel => exact ⟨pos + 1, frm, pos, ps, hlt, by omega, Nat.le_succ _, rfl, rfl, by omega, hE2, unAt_amp HAT.out hlt hfo hop HRS.out⟩
              case measure =>
                rw [un_pos hE2, hpos]
                omega
            · clear HSPL
              have HRS := Lib.hid hrs
              clear hrs
              have b1 : (op : Int) ≤ (pos : Int) + 1 := by omega
              have b2 : (pos : Int) + 1 ≤ (s.size : Int) := by omega
              have b3 : (0 : Int) ≤ (op : Int) := by omega
              have b4 : (frm : Int) ≤ (op : Int) := by omega
              have b5 : (op : Int) ≤ (s.size : Int) := by omega
              have hxs : (s.extract op (pos + 1)).size ≤ maxLen := by rw [ByteArray.size_extract]; unfold maxLen; omega
              cases hch : charOf (s.extract op (pos + 1)).data.toList with
              | none =>
                have HC := Lib.hid hch
                have hn0 : charN (s.extract op (pos + 1)).data.toList = 0 := by unfold charN; rw [hch]
                clear hch
                go_wp2_with (first
                  | (at_lookup; refine wpList_lookup_char _ rfl _ _ rfl w.heap.size 5 Dout rfl hM2 HDF.out (s.extract op (pos + 1)) rfl hxs ?_; rw [HC.out, hn0])
                  | go_in)
                go_roundw
                case rel => exact ⟨pos + 1, frm, pos + 1, ps, hlt, by omega, Nat.le_refl _, rfl, by go_num, by omega, hE2, unAt_none HAT.out hlt hfo hop HRS.out HC.out⟩
                case measure =>
                  rw [un_pos hE2, hpos]
                  omega
              | some c =>
                have HC := Lib.hid hch
                have hn0 : charN (s.extract op (pos + 1)).data.toList = c.toNat := by unfold charN; rw [hch]
                have hcv := conv_mark (charOf_some hch).2
                clear hch
                obtain ⟨z, hz⟩ : ∃ z : Int, z = (c.toNat : Int) := ⟨_, rfl⟩
                rw [← hz] at hn0 hcv
                clear hz
                go_wp2_with (first
                  | (at_lookup; refine wpList_lookup_char _ rfl _ _ rfl w.heap.size 5 Dout rfl hM2 HDF.out (s.extract op (pos + 1)) rfl hxs ?_; rw [HC.out, hn0])
                  | (at_builtin; refine app_strs _ rfl _ _ rfl (wo.heap.size + 1) _ _ rfl (hE2.2.2.1.alloc _) W.heap.size 2 [s.extract frm op, strOf [c]] rfl rfl (two_at _ _ _ _) (by omega) (by simp; omega) ?_; intro v1 w3 ho3 hg3 hk3; have hE4 := (hE2.alloc hlt1 hw1 _).grow hlt1 hw1 hg3 (fun k hk => (hk3 k hk).1) ho3; clear ho3 hg3 hk3)
                  | go_in)
                go_roundw
                case rel => exact ⟨pos + 1, pos + 1, pos + 1, ps ++ [s.extract frm op, strOf [c]], hlt, Nat.le_refl _, Nat.le_refl _, by go_num, by go_num, by simp; omega, hE4, unAt_some HAT.out hlt hfo hop HRS.out HC.out⟩
                case measure =>
                  rw [un_pos hE4, hpos]
                  omega
          · clear HSPL
            have S3 := Lib.hid s3
            clear s3
            have k1 : (r : Int) ≠ 38 := by omega
            have k2 : (r : Int) ≠ 59 := by omega
            go_wp2
            go_roundw
            case rel => exact ⟨pos + n, frm, op, ps, s2, hfo, by omega, rfl, rfl, by omega, hE2, unAt_else HAT.out s2 hop S3.out⟩
            case measure =>
              rw [un_pos hE2, hpos]
              omega
        · have hnx : ∀ ty, (Instr.next (.pointer (some ⟨wo.heap.size, 0, none⟩)) true ty).run Tryz.prog wr = _ := fun ty => Lib.run_next_end_at wr wo.heap.size s pos ty hI hlt
          have b1 : (frm : Int) ≤ (s.size : Int) := by omega
          have b2 : (0 : Int) ≤ (frm : Int) := by omega
          have HTOT : Hid (flat (ps ++ [s.extract frm s.size]) = (unAll s.data.toList).all) := Lib.hid (by
            obtain rfl : pos = s.size := by omega
            have h := HAT.out
            unfold UnAt at h
            rw [List.take_of_length_le (by omega)] at h
            rw [h, flat_app]
            simp only [Un.all, List.append_assoc]
            rw [← ext_app s frm op s.size hfo hop (Nat.le_refl _)]
            simp [flat])
          have HLE := Lib.hid (unAll_len s.data.toList)
          have hB := hE.2.2.2
          go_wp2_with (first
            | (at_builtin; refine app_strs _ rfl _ _ rfl (wo.heap.size + 1) _ _ rfl (hO.alloc _) wr.heap.size 1 [s.extract frm s.size] rfl rfl (one_at' _ _ _) (by omega) (by simp; omega) ?_; intro v1 w2 ho2 hg2 hk2; replace hB := (hB.alloc hB.size _).grown hg2 (by simp; have := hB.size; omega) (fun k hk => by have := (hk2 k hk).1; omega); clear hg2 hk2)
            | (go_at_call 26; go_fit (joined_own ho2 (by simp) (by simp; omega) (by rw [HTOT.out]; have := HLE.out; omega)); rintro e w3 ⟨rfl, hb3⟩))
          go_ret
          exact ⟨by rw [HTOT.out]; rfl, hB.trans (hb3.mono hB.size)⟩
    · intro x c kl y yp w2 cnt1 hkey hlx hv hat hrg1 hlt hg1 hs1 hen
      have hwf : (Lit.int .i32 x).wf = true := by obtain ⟨x', ex, _, hw⟩ := Maps.keyOf_int_inv Tryz.underlying21 hkey; cases ex; exact hw
      obtain rfl : kl = .int .i32 x := by obtain ⟨x', ex, hk, _⟩ := Maps.keyOf_int_inv Tryz.underlying21 hkey; cases ex; exact hk
      have hmx : markB x = true ∧ c = strOf (formL x) := by
        obtain ⟨c', ec, hy⟩ := formElem_inv hv
        simp at ec
        subst ec
        obtain ⟨rfl, rfl⟩ := Prod.mk.inj hy
        cases hm : markB x
        · have h1 := hat (formD [])
          have h2 := hat (formD [0])
          rw [forms_at, hm] at h1 h2
          simp [formD] at h1 h2
          rw [h1] at h2
          simp at h2
        · have h1 := hat (formD [])
          rw [forms_at, hm] at h1
          simp [formD] at h1
          exact ⟨rfl, by apply WideShapes.bytes_inj; rw [strOf_data]; exact h1.symm⟩
      obtain ⟨hmk, rfl⟩ := hmx
      have hl6 := form_len x
      have hout1 := (hout.kept hg1 (fun e => by have := Option.some.inj e; omega)).alloc (.cells #[.string (strOf (formL x))] 180)
      obtain ⟨X, hX⟩ : ∃ X, X = strOf (formL x) := ⟨_, rfl⟩
      have hXs : X.size ≤ maxLen := by rw [hX, strOf_size]; unfold maxLen; omega
      have HX : Hid (X.data.toList = formL x) := Lib.hid (by rw [hX, strOf_data])
      rw [← hX] at hen hout1 ⊢
      clear hX hv hat
      have hkX := Go.WideMaps.keyOf_string_mk (P := Tryz.prog) Tryz.underlying9 hXs
      go_wp2_with (first
        | (at_mapUpdate; refine wpList_mapUpdate_own _ rfl _ _ _ 190 rfl 9 21 law_str Tryz.underlying190 _ w.heap.size _ _ rfl hout1 (by unfold maxLen; omega) _ _ _ rfl rfl hkX _ [] (plainElem_int Tryz.underlying21 hwf) ?_; intro w3 hout2 hg2; go_frame)
        | go_in)
      have hrg2 := (hrg1.alloc (.cells #[.string X] 180)).kept hg2 (fun e => by have := Option.some.inj e; omega) (fun e => by have := Option.some.inj e; omega)
      rw [HX.out] at hout2
      go_roundw
      case rel =>
        exact ⟨_, cnt1, _, hrg2, by omega, hout2.mono (by omega), charsD_step hA hout.isMap hmk,
          ((hnx.grown hg1 hnx.size (fun j hj => by cases hj; omega)).alloc (by have := hnx.size; omega) _).grown hg2 (by have := hnx.size; simp; omega) (fun j hj => by cases hj; exact Nat.le_refl _)⟩
      case measure => rw [hrg2.left_eq, hrg.left_eq]; exact hlt
end Go.Proofs.YtgcfognljkebjaaGreatDoor
