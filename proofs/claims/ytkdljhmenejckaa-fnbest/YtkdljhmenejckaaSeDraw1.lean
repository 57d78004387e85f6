/- What FnSessions and FnBest draw: names; how large sessions get. -/
import Derived.Test.YtkdljhmenejckaaSeLwS
import Derived.Test.YtkdljhmenejckaaSeBindI
import Derived.Test.YtkdljhmenejckaaSeWithP
import Derived.Test.YtkdljhmenejckaaPickDraws
namespace Go.Proofs.Ytkdljhmenejckaa
set_option linter.unusedSimpArgs false
set_option linter.unusedVariables false
open Go.RowKit Go.Joins

/-- Small sessions. -/
def SeW (xs : List SeL) : Prop := xs.length ≤ 5 ∧ ∀ x ∈ xs, x.r.size ≤ 100 ∧ x.s.size ≤ 100
theorem sew_ill (c : Int) : SeW (illS c).l := ⟨Nat.zero_le _, fun x hx => by cases hx⟩
theorem sew_bind {xs : List SeL} {r : ByteArray} (h : SeW xs) (hr : r.size ≤ 100) : SeW (bindR xs r).l := by
  unfold bindR
  split
  · exact sew_ill _
  · split
    · exact sew_ill _
    · split
      · exact sew_ill _
      · split
        · exact sew_ill _
        · rename_i h5
          have hl := h.1
          refine ⟨?_, fun x hx => ?_⟩
          · show (xs.take _ ++ _ :: xs.drop _).length ≤ 5
            rw [List.length_append, List.length_take, List.length_cons, List.length_drop]
            omega
          · rcases List.mem_append.1 hx with hx | hx
            · exact h.2 x (List.mem_of_mem_take hx)
            · rcases List.mem_cons.1 hx with rfl | hx
              · exact ⟨hr, Nat.zero_le _⟩
              · exact h.2 x (List.mem_of_mem_drop hx)
theorem sew_unbind {xs : List SeL} {r : ByteArray} (h : SeW xs) : SeW (unbindR xs r).l := by
  unfold unbindR
  split
  · exact sew_ill _
  · split
    · exact sew_ill _
    · split
      · exact sew_ill _
      · have hl := h.1
        refine ⟨?_, fun x hx => ?_⟩
        · show (xs.take _ ++ xs.drop _).length ≤ 5
          rw [List.length_append, List.length_take, List.length_drop]
          omega
        · rcases List.mem_append.1 hx with hx | hx
          · exact h.2 x (List.mem_of_mem_take hx)
          · exact h.2 x (List.mem_of_mem_drop hx)
theorem sew_with {xs : List SeL} {y : SeL} (h : SeW xs) (hr : y.r.size ≤ 100) (hs : y.s.size ≤ 100) : SeW (withR xs y).l := by
  unfold withR
  split
  · exact sew_ill _
  · split
    · exact sew_ill _
    · split
      · exact sew_ill _
      · split
        · exact sew_ill _
        · refine ⟨by rw [List.length_set]; exact h.1, fun x hx => ?_⟩
          rcases List.mem_or_eq_of_mem_set hx with hx | rfl
          · exact h.2 x hx
          · exact ⟨hr, hs⟩
theorem sew_pres {xs : List SeL} {r : ByteArray} {p : Int} {s : ByteArray} (h : SeW xs) (hr : r.size ≤ 100) (hs : s.size ≤ 100) : SeW (presR xs r p s).l := by
  unfold presR
  split
  · exact sew_ill _
  · exact sew_with h hr hs
theorem names_small : ∀ s ∈ [(⟨#[104, 111, 109, 101]⟩ : ByteArray), ⟨#[119, 111, 114, 107]⟩, ⟨#[120]⟩, ⟨#[89, 40, 49, 41]⟩, ⟨#[112, 104, 111, 110, 101]⟩, ⟨#[112, 97, 100]⟩], s.size ≤ 100 := by
  intro s hs
  simp at hs
  rcases hs with rfl | rfl | rfl | rfl | rfl | rfl <;> decide
set_option maxHeartbeats 1000000 in
theorem draw_sname (B g : Nat) (w : World) (hS : Src w B g) :
    Calls Try.prog 56 #[.pointer (some ⟨g, 0, none⟩)] w (Drew B g w (StrIn 100)) := by
  have HS := Lib.hid hS
  have hlt := hS.lt
  clear hS
  go_enter Try.func56, Try.ntmps56
  go_wp2_with fail
  refine (src_pick B g w.heap.size 6 100 _ (by omega) (by omega) (HS.out.alloc _) (by omega) (strRow_at w 9 100 _ [⟨#[104, 111, 109, 101]⟩, ⟨#[119, 111, 114, 107]⟩, ⟨#[120]⟩, ⟨#[89, 40, 49, 41]⟩, ⟨#[112, 104, 111, 110, 101]⟩, ⟨#[112, 97, 100]⟩] rfl names_small)).mono ?_
  rintro e w1 ⟨_, rfl, ⟨s, rfl, hs⟩, hS1, hg1⟩
  go_wp2
  go_ret
  exact ⟨_, rfl, ⟨s, rfl, hs⟩, hS1, grown_same (World.grownBy_alloc w _ (some g)) hg1⟩
end Go.Proofs.Ytkdljhmenejckaa
