/- How spec.l04Read takes a text apart, on lists; it gives back a valid stanza from its mark. -/
import Derived.Test.YtgcfognljkebjaaGreatDoorStReadL
import Derived.Test.YtgcfognljkebjaaGreatDoorStPlainMath
namespace Go.Proofs.YtgcfognljkebjaaGreatDoor
set_option linter.unusedSimpArgs false
set_option linter.unusedVariables false
open Go.Joins

/-- The string of which this is the escape; none, if there is none. -/
def bodyS (T : List UInt8) : List UInt8 := if escL (unAll T).all = T then (unAll T).all else []
theorem body_esc (l : List UInt8) : bodyS (escL l) = l := by
  unfold bodyS
  rw [unAll_esc, if_pos rfl]
theorem body_len (T : List UInt8) : (bodyS T).length ≤ T.length := by
  unfold bodyS
  split
  · exact unAll_len T
  · simp
def kindsL : List (List UInt8) := [kPres.data.toList, kMess.data.toList, kIq.data.toList, kDb.data.toList]
/-- What is read behind the parts of a mark. -/
def tailS (k : List UInt8) (s : StL) (rest : List UInt8) : StL :=
  if rest = [47, 62] then { s with k := k } else
  match rest with
  | [] => { s with k := k }
  | c :: R => if c = 62 then { s with k := k, b := bodyS (Lib.cut R [60]).1 } else { s with k := k }
def readAt (k T : List UInt8) : StL := tailS k (partsS (T.drop (k.length + 1)).length zeroL (T.drop (k.length + 1))).1 (partsS (T.drop (k.length + 1)).length zeroL (T.drop (k.length + 1))).2
def rdS (T : List UInt8) : StL :=
  match kindsL.find? (fun k => (60 :: k).isPrefixOf T) with
  | none => zeroL
  | some k => readAt k T
theorem find_kind {k : List UInt8} (h : k ∈ kindsL) (R : List UInt8) : kindsL.find? (fun x => (60 :: x).isPrefixOf (60 :: (k ++ R))) = some k := by
  unfold kindsL at h ⊢
  simp only [List.mem_cons, List.not_mem_nil, or_false] at h
  rcases h with rfl | rfl | rfl | rfl
  all_goals simp [List.find?, kPres, kMess, kIq, kDb, List.isPrefixOf]
theorem tail_end {k : List UInt8} {s : StL} {b : List UInt8} (hs : s.b = []) : tailS k s (endL k b) = { s with k := k, b := b } := by
  unfold endL
  split
  · rename_i h
    unfold tailS
    rw [if_pos rfl, h, ← hs]
  · rename_i h
    unfold tailS
    rw [if_neg (by simp)]
    simp only [if_true]
    rw [cut_app (c := 60) (A := escL b) (R := 47 :: (k ++ [62])) (fun x hx => (esc_quiet b x hx).1)]
    simp only
    rw [body_esc]
theorem rdS_mark {k t f o : List UInt8} {n : Int} {b : List UInt8} (hk : k ∈ kindsL) (ht : Quiet t) (hf : Quiet f) (ho : Quiet o) (h0 : 0 ≤ n) (h1 : n ≤ 1000000000) : rdS (markL k t f o n b) = ⟨k, t, f, o, n, b⟩ := by
  have e : markL k t f o n b = 60 :: (k ++ (fldL wType t ++ (fldL wFrom f ++ (fldL wTo o ++ (fldL wId (idL n) ++ endL k b))))) := by unfold markL headL; simp
  unfold rdS
  rw [e, find_kind hk]
  simp only
  unfold readAt
  have d : (60 :: (k ++ (fldL wType t ++ (fldL wFrom f ++ (fldL wTo o ++ (fldL wId (idL n) ++ endL k b)))))).drop (k.length + 1) = fldL wType t ++ (fldL wFrom f ++ (fldL wTo o ++ (fldL wId (idL n) ++ endL k b))) := by
    rw [List.drop_succ_cons, List.drop_left]
  rw [d]
  have p := parts_mark (k := k) (b := b) ht hf ho h0 h1 (fldL wType t ++ (fldL wFrom f ++ (fldL wTo o ++ (fldL wId (idL n) ++ endL k b)))).length
  rw [parts_fuel _ (_ + 4) zeroL _ (Nat.le_refl _) (Nat.le_add_right _ 4), p]
  exact tail_end rfl
/-- A valid stanza is read from its text. -/
theorem rdS_text {k t f o : ByteArray} {n : Int} {b : ByteArray} (h : stB k t f o n b = true) : rdS (markL k.data.toList t.data.toList f.data.toList o.data.toList n b.data.toList) = ⟨k.data.toList, t.data.toList, f.data.toList, o.data.toList, n, b.data.toList⟩ := by
  obtain ⟨h0, h1, _⟩ := stB_id h
  unfold stB at h
  simp only [Bool.and_eq_true] at h
  obtain ⟨⟨⟨⟨⟨hk, ht⟩, hf⟩, ho⟩, _⟩, _⟩ := h
  refine rdS_mark ?_ (quiet_name ht) (quiet_addr hf) (quiet_addr ho) h0 h1
  rcases kind_cases hk with rfl | rfl | rfl | rfl <;> simp [kindsL]
end Go.Proofs.YtgcfognljkebjaaGreatDoor
