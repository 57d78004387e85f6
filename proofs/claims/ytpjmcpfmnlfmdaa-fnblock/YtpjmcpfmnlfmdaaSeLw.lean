/- The small functions of FnBest and FnSessions: lwTexts, lwHas. -/
import Derived.Test.YtpjmcpfmnlfmdaaRwStr
namespace Go.Proofs.Ytpjmcpfmnlfmdaa
set_option linter.unusedSimpArgs false
set_option linter.unusedVariables false
open Go.RowKit Go.Joins

set_option maxRecDepth 100000 in
set_option maxHeartbeats 2000000 in
theorem lw_texts (xs : List ByteArray) (p q : Option Addr) (c d : Nat) (w : World) (hn : xs.length ≤ 2000000) (hp : RowC strC 1 w p xs) (hq : RowC strC 1 w q xs) :
    Calls Try.prog 21 #[.slice p xs.length c, .slice q xs.length d] w fun e w' => e = .returned (.bool true) ∧ Below w.heap.size w w' := by
  obtain ⟨n, hxn⟩ : ∃ n, xs.length = n := ⟨_, rfl⟩
  have HP := Lib.hid (fun W (h : Below w.heap.size w W) => hp.on h)
  have HQ := Lib.hid (fun W (h : Below w.heap.size w W) => hq.on h)
  have HN := Lib.hid hxn
  rw [hxn] at hn ⊢
  clear hp hq hxn
  go_enter Try.func21, Try.ntmps21
  go_wp2
  go_loopw [5] (fun iq wr => ∃ i : Nat, i ≤ n ∧ iq = .int .i64 i ∧ Below w.heap.size w wr) (fun i _ => n - (intOf i).toNat)
  case atStart => exact ⟨0, Nat.zero_le _, rfl, Below.refl _ _⟩
  case round =>
    obtain ⟨i, hi, rfl, hb⟩ := hrel
    have HB := Lib.hid hb
    by_cases hlt : i < n
    · have hlt1 : i < xs.length := by rw [HN.out]; exact hlt
      obtain ⟨a, rfl, ha, hc⟩ := HP.out _ hb (List.ne_nil_of_length_pos (by omega))
      obtain ⟨b, rfl, hb0, hd⟩ := HQ.out _ hb (List.ne_nil_of_length_pos (by omega))
      have c0 := hc i hlt1 0 (by decide)
      have d0 := hd i hlt1 0 (by decide)
      obtain ⟨x, hx⟩ : ∃ x, xs[i] = x := ⟨_, rfl⟩
      rw [hx, Nat.mul_one, Nat.add_zero] at c0 d0
      replace c0 : wr.cell? ⟨a, i, none⟩ = some (.string x) := c0
      replace d0 : wr.cell? ⟨b, i, none⟩ = some (.string x) := d0
      clear hc hd hx hb
      go_wp2
      go_region
      all_goals (try go_wp2)
      exact ⟨⟨i + 1, by omega, by go_num, HB.out.drew⟩, by simp [intOf]; omega⟩
    · obtain rfl : i = n := by omega
      clear hb
      go_wp2
      go_ret
      exact ⟨rfl, HB.out⟩
/-- Whether a text is among texts. -/
def hasB (ps : List ByteArray) (t : ByteArray) : Bool := ps.any (fun x => x.toList == t.toList)
theorem has_no {ps : List ByteArray} {t : ByteArray} {k : Nat} (h : ∀ i (hi : i < ps.length), i < k → (ps[i].toList == t.toList) = false) (hk : ¬ k < ps.length) : hasB ps t = false := by
  unfold hasB
  rw [List.any_eq_false]
  intro x hx
  obtain ⟨i, hi, rfl⟩ := List.mem_iff_getElem.1 hx
  rw [h i hi (by omega)]
  decide
theorem has_yes {ps : List ByteArray} {t : ByteArray} {k : Nat} (hk : k < ps.length) (h : (ps[k].toList == t.toList) = true) : hasB ps t = true := by
  unfold hasB
  rw [List.any_eq_true]
  exact ⟨_, List.getElem_mem hk, h⟩
end Go.Proofs.Ytpjmcpfmnlfmdaa
