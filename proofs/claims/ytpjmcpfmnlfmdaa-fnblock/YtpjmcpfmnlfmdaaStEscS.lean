/- What spec.l04Sign, spec.l04Escape and spec.Escape answer. -/
import Derived.Test.YtpjmcpfmnlfmdaaStEscMath
import Derived.Test.YtpjmcpfmnlfmdaaJidText
import Derived.Lib.AppendStr
namespace Go.Proofs.Ytpjmcpfmnlfmdaa
set_option linter.unusedSimpArgs false
set_option linter.unusedVariables false
open Go.RowKit

theorem info_u8e : (Try.prog.info? 5).map (fun i => (i.zero, i.size, i.bytes)) = some (some (.int .u8 0), 1, 1) := by kernel_rfl
theorem own_none (w : World) (e : TypeId) : (w.alloc (.cells #[] e)).ownsRow w.heap.size e 1 (.slice (some ⟨w.heap.size, 0, none⟩) 0 0) 0 [] :=
  World.ownsRow_made w #[] 0 (Nat.le_refl _) (by unfold maxLen; omega) rfl
theorem strCells_map (s : ByteArray) : Lib.strCells s = s.data.toList.map byteV := by simp [Lib.strCells, byteV]
/-- A row of bytes that the call has made. -/
def OwnR (w : World) (B : Nat) (v : Value) (l : List UInt8) : Prop := w.ownsRow B 5 1 v l.length (l.map byteV)
theorem OwnR.alloc {w : World} {B : Nat} {v : Value} {l : List UInt8} (h : OwnR w B v l) (o : Obj) : OwnR (w.alloc o) B v l := World.ownsRow.alloc h o
theorem ownR_none (w : World) : OwnR (w.alloc (.cells #[] 5)) w.heap.size (.slice (some ⟨w.heap.size, 0, none⟩) 0 0) [] := own_none w _
theorem OwnR.str {w : World} {B : Nat} {v : Value} {l : List UInt8} (h : OwnR w B v l) : (convert 22 9 v).run Try.prog w = .ok (.string (strOf l)) w :=
  run_string_own (P := Try.prog) w 22 9 5 _ _ _ _ h Try.underlying22 Try.underlying5 Try.underlying9
theorem grown_below {B : Nat} {w w' : World} {row : Option Nat} (hg : w.grownBy w' row) (hB : B ≤ w.heap.size) (hr : ∀ k, row = some k → B ≤ k) : Below B w w' := (Below.refl B w).grown hg hB hr
/-- append(b, c). -/
theorem app_byte (w : World) {ops : Array Oper} {rest : List Oper} {o : Oper} {a : Act} {Q : Exit → Act → World → Prop} (hgd : o.guard = none) (s x : Operand)
    (ho : o.op = Op.call { callee := Callee.builtin Builtin.append, args := #[s, x], argTypes := #[22, 22] })
    (B : Nat) (v : Value) (l : List UInt8) (hs : a.eval s = v) (hown : OwnR w B v l) (g : Nat) (c : UInt8) (hx : a.eval x = .slice (some ⟨g, 0, none⟩) 1 1) (hcell : w.cell? ⟨g, 0, none⟩ = some (.int .u8 (c.toNat : Int))) (hmax : l.length ≤ 10000000) (hB : B ≤ w.heap.size)
    (h : ∀ v' w', OwnR w' B v' (l ++ [c]) → Below B w w' → wpList Try.prog ops Q rest (a.put o.dst v') w') : wpList Try.prog ops Q (o :: rest) a w := by
  obtain ⟨i0, hi, hz0, hz1, hz2⟩ := info_parts info_u8e
  refine wpList_append_own w hgd s x 22 ho B 5 i0 (.int .u8 0) 1 1 Try.underlying22 hi hz0 hz1 hz2 rfl (by decide) v l.length (l.map byteV) hs hown ⟨g, 0, none⟩ 1 1 [byteV c] hx rfl (fun j u hj => ?_) (one_cell _ _) (by unfold maxLen; omega) (by omega) hB (fun v' w' h1 h2 _ => h v' w' ?_ (grown_below h2 hB (fun k hk => own_base hown k hk)))
  · match j, hj with
    | 0, hj =>
      simp at hj
      subst hj
      simpa [Addr.add, byteV] using hcell
  · unfold OwnR
    rw [List.length_append, List.map_append]
    exact h1
/-- append(b, s...). -/
theorem app_str (w : World) {ops : Array Oper} {rest : List Oper} {o : Oper} {a : Act} {Q : Exit → Act → World → Prop} (hgd : o.guard = none) (s x : Operand)
    (ho : o.op = Op.call { callee := Callee.builtin Builtin.append, args := #[s, x], argTypes := #[22, 9] })
    (B : Nat) (v : Value) (l : List UInt8) (hs : a.eval s = v) (hown : OwnR w B v l) (X : ByteArray) (hx : a.eval x = .string X) (hX : X.size ≤ 10000000) (hmax : l.length ≤ 10000000) (hB : B ≤ w.heap.size)
    (h : ∀ v' w', OwnR w' B v' (l ++ X.data.toList) → Below B w w' → wpList Try.prog ops Q rest (a.put o.dst v') w') : wpList Try.prog ops Q (o :: rest) a w := by
  obtain ⟨i0, hi, hz0, hz1, hz2⟩ := info_parts info_u8e
  refine Lib.wpList_append_own_string w hgd s x 22 9 ho B 5 i0 Try.underlying22 Try.underlying9 hi hz0 hz1 hz2 v l.length (l.map byteV) hs hown X hx (by unfold maxLen; omega) (by omega) hB (fun v' w' h1 h2 _ => h v' w' ?_ (grown_below h2 hB (fun k hk => own_base hown k hk)))
  unfold OwnR
  rw [List.length_append, List.map_append, size_data, ← strCells_map]
  exact h1

/-- What Escape answers. -/
def escS (s : ByteArray) : ByteArray := if 2000 < s.size then ⟨#[]⟩ else strOf (escL s.data.toList)
end Go.Proofs.Ytpjmcpfmnlfmdaa
