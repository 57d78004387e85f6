/- What spec.l04Sign, spec.l04Escape and spec.Escape answer. -/
import Derived.Test.YtgcfognljkebjaaGreatDoorStEscMath
import Derived.Test.YtgcfognljkebjaaGreatDoorJidText
import Derived.Lib.AppendStr
namespace Go.Proofs.YtgcfognljkebjaaGreatDoor
set_option linter.unusedSimpArgs false
set_option linter.unusedVariables false
open Go.RowKit

theorem spec_sign (c : Nat) (w : World) : Calls Tryz.prog 106 #[.int .u8 (c : Int)] w fun e w' => e = .returned (.string (strOf (formL c))) ∧ w = w' := by
  by_cases h1 : c = 38
  · subst h1
    go_enter Tryz.func106, Tryz.ntmps106
    go_wp2
    go_ret
    exact ⟨rfl, rfl⟩
  by_cases h2 : c = 60
  · subst h2
    go_enter Tryz.func106, Tryz.ntmps106
    go_wp2
    go_ret
    exact ⟨rfl, rfl⟩
  by_cases h3 : c = 62
  · subst h3
    go_enter Tryz.func106, Tryz.ntmps106
    go_wp2
    go_ret
    exact ⟨rfl, rfl⟩
  by_cases h4 : c = 39
  · subst h4
    go_enter Tryz.func106, Tryz.ntmps106
    go_wp2
    go_ret
    exact ⟨rfl, rfl⟩
  by_cases h5 : c = 34
  · subst h5
    go_enter Tryz.func106, Tryz.ntmps106
    go_wp2
    go_ret
    exact ⟨rfl, rfl⟩
  have k1 : (c : Int) ≠ 38 := by omega
  have k2 : (c : Int) ≠ 60 := by omega
  have k3 : (c : Int) ≠ 62 := by omega
  have k4 : (c : Int) ≠ 39 := by omega
  have k5 : (c : Int) ≠ 34 := by omega
  have HF : Hid (formL (c : Int) = []) := Lib.hid (by unfold formL; simp [k1, k2, k3, k4, k5])
  clear h1 h2 h3 h4 h5
  go_enter Tryz.func106, Tryz.ntmps106
  go_wp2
  go_ret
  exact ⟨by rw [HF.out]; rfl, rfl⟩
theorem info_u8e : (Tryz.prog.info? 5).map (fun i => (i.zero, i.size, i.bytes)) = some (some (.int .u8 0), 1, 1) := by kernel_rfl
theorem own_none (w : World) (e : TypeId) : (w.alloc (.cells #[] e)).ownsRow w.heap.size e 1 (.slice (some ⟨w.heap.size, 0, none⟩) 0 0) 0 [] :=
  World.ownsRow_made w #[] 0 (Nat.le_refl _) (by unfold maxLen; omega) rfl
theorem strCells_map (s : ByteArray) : Lib.strCells s = s.data.toList.map byteV := by simp [Lib.strCells, byteV]
/-- A row of bytes that the call has made. -/
def OwnR (w : World) (B : Nat) (v : Value) (l : List UInt8) : Prop := w.ownsRow B 5 1 v l.length (l.map byteV)
theorem OwnR.alloc {w : World} {B : Nat} {v : Value} {l : List UInt8} (h : OwnR w B v l) (o : Obj) : OwnR (w.alloc o) B v l := World.ownsRow.alloc h o
theorem ownR_none (w : World) : OwnR (w.alloc (.cells #[] 5)) w.heap.size (.slice (some ⟨w.heap.size, 0, none⟩) 0 0) [] := own_none w _
theorem OwnR.str {w : World} {B : Nat} {v : Value} {l : List UInt8} (h : OwnR w B v l) : (convert 38 9 v).run Tryz.prog w = .ok (.string (strOf l)) w :=
  run_string_own (P := Tryz.prog) w 38 9 5 _ _ _ _ h Tryz.underlying38 Tryz.underlying5 Tryz.underlying9
theorem grown_below {B : Nat} {w w' : World} {row : Option Nat} (hg : w.grownBy w' row) (hB : B ≤ w.heap.size) (hr : ∀ k, row = some k → B ≤ k) : Below B w w' := (Below.refl B w).grown hg hB hr
/-- append(b, c). -/
theorem app_byte (w : World) {ops : Array Oper} {rest : List Oper} {o : Oper} {a : Act} {Q : Exit → Act → World → Prop} (hgd : o.guard = none) (s x : Operand)
    (ho : o.op = Op.call { callee := Callee.builtin Builtin.append, args := #[s, x], argTypes := #[38, 38] })
    (B : Nat) (v : Value) (l : List UInt8) (hs : a.eval s = v) (hown : OwnR w B v l) (g : Nat) (c : UInt8) (hx : a.eval x = .slice (some ⟨g, 0, none⟩) 1 1) (hcell : w.cell? ⟨g, 0, none⟩ = some (.int .u8 (c.toNat : Int))) (hmax : l.length ≤ 10000000) (hB : B ≤ w.heap.size)
    (h : ∀ v' w', OwnR w' B v' (l ++ [c]) → Below B w w' → wpList Tryz.prog ops Q rest (a.put o.dst v') w') : wpList Tryz.prog ops Q (o :: rest) a w := by
  obtain ⟨i0, hi, hz0, hz1, hz2⟩ := info_parts info_u8e
  refine wpList_append_own w hgd s x 38 ho B 5 i0 (.int .u8 0) 1 1 Tryz.underlying38 hi hz0 hz1 hz2 rfl (by decide) v l.length (l.map byteV) hs hown ⟨g, 0, none⟩ 1 1 [byteV c] hx rfl (fun j u hj => ?_) (one_cell _ _) (by unfold maxLen; omega) (by omega) hB (fun v' w' h1 h2 _ => h v' w' ?_ (grown_below h2 hB (fun k hk => own_base hown k hk)))
  · match j, hj with
    | 0, hj =>
      simp at hj
      subst hj
      simpa [Addr.add, byteV] using hcell
  · unfold OwnR
    rw [List.length_append, List.map_append]
    exact h1
/-- append(b, s...). -/
theorem app_str (w : World) {ops : Array Oper} {rest : List Oper} {o : Oper} {a : Act} {Q : Exit → Act → World → Prop} (hgd : o.guard = none) (s x : Operand)
    (ho : o.op = Op.call { callee := Callee.builtin Builtin.append, args := #[s, x], argTypes := #[38, 9] })
    (B : Nat) (v : Value) (l : List UInt8) (hs : a.eval s = v) (hown : OwnR w B v l) (X : ByteArray) (hx : a.eval x = .string X) (hX : X.size ≤ 10000000) (hmax : l.length ≤ 10000000) (hB : B ≤ w.heap.size)
    (h : ∀ v' w', OwnR w' B v' (l ++ X.data.toList) → Below B w w' → wpList Tryz.prog ops Q rest (a.put o.dst v') w') : wpList Tryz.prog ops Q (o :: rest) a w := by
  obtain ⟨i0, hi, hz0, hz1, hz2⟩ := info_parts info_u8e
  refine Lib.wpList_append_own_string w hgd s x 38 9 ho B 5 i0 Tryz.underlying38 Tryz.underlying9 hi hz0 hz1 hz2 v l.length (l.map byteV) hs hown X hx (by unfold maxLen; omega) (by omega) hB (fun v' w' h1 h2 _ => h v' w' ?_ (grown_below h2 hB (fun k hk => own_base hown k hk)))
  unfold OwnR
  rw [List.length_append, List.map_append, size_data, ← strCells_map]
  exact h1

set_option maxRecDepth 100000 in
set_option maxHeartbeats 1000000 in
theorem spec_esc (s : ByteArray) (w : World) (hs : s.size ≤ 100000) : Calls Tryz.prog 93 #[.string s] w fun e w' => e = .returned (.string (strOf (escL s.data.toList))) ∧ Below w.heap.size w w' := by
  have hlen : s.data.toList.length = s.size := size_data s
  go_enter Tryz.func93, Tryz.ntmps93
  go_wp2
  go_loopw [3, 4] (fun v i wr => ∃ k : Nat, k ≤ s.size ∧ i = .int .i64 k ∧ OwnR wr w.heap.size v (escL (s.data.toList.take k)) ∧ Below w.heap.size w wr) (fun _ i _ => s.size - (intOf i).toNat)
  case atStart => exact ⟨0, Nat.zero_le _, rfl, ownR_none w, (Below.refl _ _).alloc (Nat.le_refl _) _⟩
  case round =>
    obtain ⟨k, hk, rfl, hown, hbel⟩ := hrel
    have HOW := Lib.hid hown
    have HLE : Hid ((escL (s.data.toList.take k)).length ≤ 10000000) := Lib.hid (by have := escL_len (s.data.toList.take k); rw [List.length_take] at this; omega)
    by_cases hlt : k < s.size
    · clear hown hlen
      have hc := byte_le s[k]
      have i1 := fun w => spec_sign s[k].toNat w
      have HT := Lib.hid (escL_take s k hlt)
      cases hmk : markB s[k].toNat
      · rw [form_none hmk] at i1
        have HE := Lib.hid (escC_not hmk)
        clear hmk
        obtain ⟨n1, e1⟩ := empty_of (s := strOf []) rfl
        go_wp2_with (first
          | (go_at_call 106; go_fit (i1 _); rintro e w1 ⟨rfl, rfl⟩)
          | (at_builtin; refine app_byte _ rfl _ _ rfl w.heap.size _ _ rfl (HOW.out.alloc _) wr.heap.size s[k] rfl (by simp) HLE.out (by simp; have := hbel.size; omega) ?_; intro v' w2 ho2 hb2; replace hbel := (hbel.alloc hbel.size _).trans hb2; clear hb2))
        go_roundw
        case rel => exact ⟨k + 1, hlt, by go_num, by rw [HT.out, HE.out]; exact ho2, hbel⟩
        case measure => simp [intOf]; omega
      · have HE := Lib.hid (escC_mark hmk)
        have hp := form_pos hmk
        have hl6 := form_len s[k].toNat
        rw [← strOf_size] at hp hl6
        clear hmk
        obtain ⟨X, hX⟩ : ∃ X, X = strOf (formL s[k].toNat) := ⟨_, rfl⟩
        rw [← hX] at hp hl6 i1
        have HX := Lib.hid hX
        clear hX
        have n1 := ne_nil hp
        have e1 := not_empty hp
        go_wp2_with (first
          | (go_at_call 106; go_fit (i1 _); rintro e w1 ⟨rfl, rfl⟩)
          | (at_builtin; refine app_str _ rfl _ _ rfl w.heap.size _ _ rfl HOW.out X rfl (by omega) HLE.out hbel.size ?_; intro v' w2 ho2 hb2; replace hbel := hbel.trans hb2; clear hb2))
        go_roundw
        case rel => exact ⟨k + 1, hlt, by go_num, by rw [HT.out, HE.out]; rw [HX.out, strOf_data] at ho2; exact ho2, hbel⟩
        case measure => simp [intOf]; omega
    · have hcv := hown.str
      have HL : Hid (s.data.toList.take k = s.data.toList) := Lib.hid (List.take_of_length_le (by omega))
      clear hown hlen
      go_wp2
      go_ret
      rw [HL.out]
      exact ⟨rfl, hbel⟩
/-- What Escape answers. -/
def escS (s : ByteArray) : ByteArray := if 2000 < s.size then ⟨#[]⟩ else strOf (escL s.data.toList)
end Go.Proofs.YtgcfognljkebjaaGreatDoor
