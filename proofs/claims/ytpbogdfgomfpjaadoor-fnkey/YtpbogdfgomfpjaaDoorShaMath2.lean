/- Plain mathematics of a hash in progress: its cells, its blocks, what a part leaves. -/
import Derived.Test.YtpbogdfgomfpjaaDoorShaProg4
import Derived.Lib.IndexBytes
namespace Go.Proofs.YtpbogdfgomfpjaaDoor
open Go.RowKit

theorem shaMany_left (p q : List UInt8) : ∀ k, 64 * k ≤ p.length → shaMany (p ++ q) k = shaMany p k
  | 0, _ => rfl
  | k + 1, h => by
    have e : ((p ++ q).drop (64 * k)).take 64 = (p.drop (64 * k)).take 64 := by
      rw [List.drop_append_of_le_length (by omega), List.take_append_of_le_length (by rw [List.length_drop]; omega)]
    show shaBlock (shaMany (p ++ q) k) (((p ++ q).drop (64 * k)).take 64) = shaBlock (shaMany p k) ((p.drop (64 * k)).take 64)
    rw [e, shaMany_left p q k (by omega)]

/-- The cells of a hash in progress: its state, the bytes of its block, its size. -/
def hashCells (T : Sha) (B : List UInt8) (n : Nat) : List Value := T.cells ++ (B.map byteV ++ [.int .i64 (n : Int)])
theorem hc_len (T : Sha) {B : List UInt8} (hB : B.length = 64) (n : Nat) : (hashCells T B n).length = 73 := by
  unfold hashCells Sha.cells
  simp [hB]
theorem hc_size (T : Sha) {B : List UInt8} (hB : B.length = 64) (n : Nat) : (hashCells T B n)[72]? = some (.int .i64 (n : Int)) := by
  unfold hashCells
  rw [List.getElem?_append_right (by show 8 ≤ 72; omega), List.getElem?_append_right (by rw [List.length_map, hB]; show 64 ≤ 72 - 8; omega), List.length_map, hB]
  rfl
theorem hc_put (T : Sha) {B : List UInt8} (hB : B.length = 64) (n m : Nat) {z : Int} (hz : z = (m : Int)) : (hashCells T B n).set 72 (.int .i64 z) = hashCells T B m := by
  subst hz
  unfold hashCells
  rw [List.set_append_right _ _ (by show 8 ≤ 72; omega), List.set_append_right _ _ (by rw [List.length_map, hB]; show 64 ≤ 72 - 8; omega), List.length_map, hB]
  rfl
theorem hc_copy (T : Sha) {B l : List UInt8} {o : Nat} (hB : B.length = 64) (n : Nat) (h : o + l.length ≤ 64) :
    (hashCells T B n).take (8 + o) ++ l.map byteV ++ (hashCells T B n).drop (8 + o + l.length) = hashCells T (B.take o ++ l ++ B.drop (o + l.length)) n := by
  unfold hashCells
  have h8 : T.cells.length = 8 := rfl
  rw [List.take_append, h8, Nat.add_sub_cancel_left, List.take_of_length_le (by rw [h8]; omega), List.take_append_of_le_length (by rw [List.length_map, hB]; omega), ← List.map_take]
  rw [List.drop_append, h8, List.drop_eq_nil_of_le (by rw [h8]; omega), List.nil_append, show 8 + o + l.length - 8 = o + l.length by omega, List.drop_append_of_le_length (by rw [List.length_map, hB]; omega), ← List.map_drop]
  simp only [List.map_append, List.append_assoc]
/-- The hash in progress in block g has taken in the bytes P. -/
def Mid (w : World) (g : Nat) (P : List UInt8) : Prop := ∃ B : List UInt8, B.length = 64 ∧ B.take (P.length % 64) = P.drop (64 * (P.length / 64)) ∧ Arr w g 130 (hashCells (shaMany P (P.length / 64)) B P.length)
/-- A part of a block is taken in; the block is not full behind it. -/
theorem mid_part {P B l : List UInt8} (hB : B.length = 64) (hT : B.take (P.length % 64) = P.drop (64 * (P.length / 64))) (hl : P.length % 64 + l.length < 64) :
    (B.take (P.length % 64) ++ l ++ B.drop (P.length % 64 + l.length)).length = 64 ∧
    (B.take (P.length % 64) ++ l ++ B.drop (P.length % 64 + l.length)).take ((P ++ l).length % 64) = (P ++ l).drop (64 * ((P ++ l).length / 64)) ∧
    shaMany (P ++ l) ((P ++ l).length / 64) = shaMany P (P.length / 64) := by
  have e1 : (P ++ l).length % 64 = P.length % 64 + l.length := by rw [List.length_append]; omega
  have e2 : (P ++ l).length / 64 = P.length / 64 := by rw [List.length_append]; omega
  have e3 : (B.take (P.length % 64) ++ l).length = P.length % 64 + l.length := by rw [List.length_append, List.length_take, hB]; omega
  refine ⟨?_, ?_, ?_⟩
  · rw [List.length_append, e3, List.length_drop, hB]
    omega
  · rw [e1, e2, ← e3, List.take_left, hT, List.drop_append_of_le_length (by omega)]
  · rw [e2, shaMany_left P l _ (by omega)]
/-- A part of a block is taken in that fills it. -/
theorem mid_full {P B l : List UInt8} (hB : B.length = 64) (hT : B.take (P.length % 64) = P.drop (64 * (P.length / 64))) (hl : P.length % 64 + l.length = 64) :
    (B.take (P.length % 64) ++ l ++ B.drop (P.length % 64 + l.length)).length = 64 ∧
    (B.take (P.length % 64) ++ l ++ B.drop (P.length % 64 + l.length)).take ((P ++ l).length % 64) = (P ++ l).drop (64 * ((P ++ l).length / 64)) ∧
    shaMany (P ++ l) ((P ++ l).length / 64) = shaBlock (shaMany P (P.length / 64)) (B.take (P.length % 64) ++ l ++ B.drop (P.length % 64 + l.length)) := by
  have e1 : (P ++ l).length % 64 = 0 := by rw [List.length_append]; omega
  have e2 : (P ++ l).length / 64 = P.length / 64 + 1 := by rw [List.length_append]; omega
  have e3 : (B.take (P.length % 64) ++ l).length = 64 := by rw [List.length_append, List.length_take, hB]; omega
  have e4 : B.drop (P.length % 64 + l.length) = [] := List.drop_eq_nil_of_le (by omega)
  rw [e4, List.append_nil]
  refine ⟨e3, ?_, ?_⟩
  · rw [e1, e2, List.take_zero, List.drop_eq_nil_of_le (by rw [List.length_append]; omega)]
  · rw [e2]
    show shaBlock (shaMany (P ++ l) (P.length / 64)) (((P ++ l).drop (64 * (P.length / 64))).take 64) = _
    rw [shaMany_left P l _ (by omega), List.drop_append_of_le_length (by omega), hT, List.take_of_length_le (by rw [List.length_append, List.length_drop]; omega)]
/-- copy(dst, s), dst lying in row g from place o on: as many bytes as there is room for. -/
theorem copy_some {w : World} {T ty : Nat} (g o n m : Nat) (s : ByteArray) (cur : List Value) (hA : Arr w g T cur) (hm : m = Nat.min s.size n) (hfit : o + m ≤ cur.length) :
    (Builtin.copy_ #[22, 9] ty #[.slice (some ⟨g, o, none⟩) n n, .string s]).run Tryd.prog w =
      .ok (.int .i64 (m : Int)) (w.setRow g (cur.take o ++ (s.data.toList.take m).map byteV ++ cur.drop (o + m)).toArray) := by
  have hl : s.data.toList.length = s.size := by rw [Array.length_toList]; rfl
  have hlen : ((s.data.toList.take m).map byteV).length = m := by
    rw [List.length_map, List.length_take, hl, hm]
    exact Nat.min_eq_left (Nat.min_le_left _ _)
  have hst := run_storeCells_at Tryd.prog g o T ((s.data.toList.take m).map byteV) 0 cur.toArray w hA (by rw [hlen]; simpa using hfit) (by
    intro v hv
    obtain ⟨x, _, rfl⟩ := List.mem_map.1 hv
    rfl)
  rw [hlen] at hst
  simp only [Nat.add_zero] at hst
  have hs : (Tryd.prog.info? 5).map (·.size) = some 1 := by kernel_rfl
  cases hq : Tryd.prog.info? 5 with
  | none => simp [hq] at hs
  | some i =>
    simp [Builtin.copy_, run_underlying Tryd.underlying22, Builtin.lenOf, Builtin.firstCells, sizeOf, typeInfo, hq, ← hm]
    have e : List.take m (List.map (fun b : UInt8 => Value.int IntKind.u8 (b.toNat : Int)) s.data.toList) = (s.data.toList.take m).map byteV := by
      rw [← List.map_take]
      rfl
    rw [e, hst]
    simp [Result.andThen]
    rfl
end Go.Proofs.YtpbogdfgomfpjaaDoor
