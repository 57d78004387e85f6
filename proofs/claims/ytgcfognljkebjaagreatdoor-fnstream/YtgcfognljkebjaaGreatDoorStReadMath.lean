/- The mathematics of reading a stanza's text: what the values of a valid stanza do not hold. -/
import Derived.Test.YtgcfognljkebjaaGreatDoorStText
namespace Go.Proofs.YtgcfognljkebjaaGreatDoor
set_option linter.unusedSimpArgs false
set_option linter.unusedVariables false
open Go.Joins

/-- No space, no quote, no bracket. -/
def Quiet (l : List UInt8) : Prop := ∀ c ∈ l, c ≠ 32 ∧ c ≠ 39 ∧ c ≠ 60 ∧ c ≠ 62
theorem u8_ne {c : UInt8} {n : Nat} (h : c.toNat ≠ n % 256) : c ≠ UInt8.ofNat n := fun e => h (by rw [e, UInt8.toNat_ofNat'])
theorem quiet_of {ok : Nat → Bool} (hok : ∀ n, ok n = true → n ≠ 32 ∧ n ≠ 39 ∧ n ≠ 60 ∧ n ≠ 62) {l : List UInt8} (h : l.all (fun c => ok c.toNat) = true) : Quiet l := by
  intro c hc
  have := hok _ (List.all_eq_true.1 h c hc)
  exact ⟨fun e => this.1 (by rw [e]; rfl), fun e => this.2.1 (by rw [e]; rfl), fun e => this.2.2.1 (by rw [e]; rfl), fun e => this.2.2.2 (by rw [e]; rfl)⟩
theorem quiet_nil : Quiet [] := fun c h => by cases h
theorem quiet_app {l m : List UInt8} (h : Quiet l) (h' : Quiet m) : Quiet (l ++ m) := fun c hc => (List.mem_append.1 hc).elim (h c) (h' c)
theorem quiet_dom {n : Nat} (h : domC n = true) : n ≠ 32 ∧ n ≠ 39 ∧ n ≠ 60 ∧ n ≠ 62 := by
  unfold domC letC digC sepC at h
  simp at h
  omega
theorem quiet_loc {n : Nat} (h : locC n = true) : n ≠ 32 ∧ n ≠ 39 ∧ n ≠ 60 ∧ n ≠ 62 := by
  unfold locC domC letC digC sepC at h
  simp at h
  omega
theorem quiet_res {n : Nat} (h : resC n = true) : n ≠ 32 ∧ n ≠ 39 ∧ n ≠ 60 ∧ n ≠ 62 := by
  unfold resC at h
  simp at h
  omega
theorem quiet_mark {m x : ByteArray} (h : Quiet m.data.toList) : Quiet (markOf m x).data.toList := by
  unfold markOf
  split
  · exact quiet_nil
  · exact h
theorem quiet_jid {l d r : ByteArray} (h : jidB l d r = true) : Quiet (jidT l d r).data.toList := by
  unfold jidB jidB' at h
  rw [Bool.and_eq_true, Bool.and_eq_true] at h
  obtain ⟨⟨h1, h2⟩, h3⟩ := h
  have h2 := (domB_iff.1 h2).2.1
  unfold partB allC at h1 h2 h3
  rw [Bool.and_eq_true] at h1 h2 h3
  unfold jidT
  rw [strOf_data, flat_five]
  exact quiet_app (quiet_of (fun _ => quiet_loc) h1.2) (quiet_app (quiet_mark (by intro c hc; revert c; decide)) (quiet_app (quiet_of (fun _ => quiet_dom) h2.2) (quiet_app (quiet_mark (by intro c hc; revert c; decide)) (quiet_of (fun _ => quiet_res) h3.2))))
theorem quiet_addr {s : ByteArray} (h : addrE s = true) : Quiet s.data.toList := by
  unfold addrE at h
  rw [Bool.or_eq_true] at h
  rcases h with h | h
  · rw [list_none (of_decide_eq_true h)]
    exact quiet_nil
  · unfold addrB goodR at h
    rw [Bool.and_eq_true, Bool.and_eq_true] at h
    have e := h.2
    rw [beq_iff_eq, ByteArray.toList_eq, ByteArray.toList_eq] at e
    rw [← e]
    exact quiet_jid h.1.2
theorem quiet_name {s : ByteArray} (h : (decide (s.size = 0) || nameB s) = true) : Quiet s.data.toList := by
  rw [Bool.or_eq_true] at h
  rcases h with h | h
  · rw [list_none (of_decide_eq_true h)]
    exact quiet_nil
  · have hP : nameP s := by unfold nameB at h; simpa using h
    intro c hc
    obtain ⟨k, hk, rfl⟩ := List.mem_iff_getElem.1 hc
    have hk' : k < s.size := by rw [size_data] at hk; exact hk
    have := name_no hk' hP
    have e : s.data.toList[k] = s[k] := rfl
    rw [e]
    refine ⟨?_, ?_, ?_, ?_⟩ <;> (intro e2; rw [e2] at this; simp at this)
theorem quiet_dig (m : Nat) : Quiet (Lib.decDigits m) := by
  induction m using Nat.strongRecOn with
  | _ m ih =>
    have hd : ∀ n : Nat, n < 10 → Quiet [UInt8.ofNat (48 + n)] := by
      intro n hn c hc
      rw [List.mem_singleton] at hc
      subst hc
      revert n
      decide
    rw [Lib.decDigits]
    split
    · exact hd m (by omega)
    · exact quiet_app (ih _ (by omega)) (hd _ (by omega))
theorem quiet_id {n : Int} (h : 0 ≤ n) : Quiet (idL n) := by
  unfold idL Lib.itoa
  split
  · exact quiet_nil
  · rw [if_neg (by omega)]
    exact quiet_dig _
theorem kind_cases {k : ByteArray} (h : kindB k = true) : k = kPres ∨ k = kMess ∨ k = kIq ∨ k = kDb := by
  unfold kindB at h
  rw [Bool.or_eq_true, Bool.or_eq_true, Bool.or_eq_true, beq_iff_eq, beq_iff_eq, beq_iff_eq, beq_iff_eq] at h
  simp only [ByteArray.toList_eq] at h
  rcases h with ((h | h) | h) | h
  · exact Or.inl (WideShapes.bytes_inj h)
  · exact Or.inr (Or.inl (WideShapes.bytes_inj h))
  · exact Or.inr (Or.inr (Or.inl (WideShapes.bytes_inj h)))
  · exact Or.inr (Or.inr (Or.inr (WideShapes.bytes_inj h)))
/-- The escape of any string holds no bracket. -/
theorem esc_quiet (l : List UInt8) : ∀ c ∈ escL l, c ≠ 60 ∧ c ≠ 62 := by
  induction l with
  | nil => intro c h; cases h
  | cons a l ih =>
    intro c hc
    rw [escL_cons, List.mem_append] at hc
    rcases hc with hc | hc
    · cases hm : markB a.toNat
      · rw [escC_not hm, List.mem_singleton] at hc
        subst hc
        unfold markB at hm
        simp at hm
        exact ⟨fun e => by rw [e] at hm; simp at hm, fun e => by rw [e] at hm; simp at hm⟩
      · rw [escC_mark hm] at hc
        unfold formL at hc
        revert c
        repeat' split
        all_goals decide
    · exact ih c hc
end Go.Proofs.YtgcfognljkebjaaGreatDoor
