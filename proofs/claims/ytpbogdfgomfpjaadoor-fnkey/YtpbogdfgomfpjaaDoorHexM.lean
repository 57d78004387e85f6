/- Bytes as hexadecimal digits: the program's function and the specification's. -/
import Derived.Test.YtpbogdfgomfpjaaDoorChecked
import Derived.Test.YtpbogdfgomfpjaaDoorMath
import Derived.Test.YtpbogdfgomfpjaaDoorOwnBytes
import Derived.Test.YtpbogdfgomfpjaaDoorHandQ
import Derived.StillTailTactics
import Derived.Lib.Hide
import Derived.Below
import Derived.Laws.BitsAllLaws
import Derived.Laws.AppendOwn
import Derived.Lib.SmallJoins
import Derived.WalkSmall
namespace Go.Proofs.YtpbogdfgomfpjaaDoor
set_option linter.unusedSimpArgs false
set_option linter.unusedVariables false
open Go.RowKit

def hexT : ByteArray := ⟨#[48, 49, 50, 51, 52, 53, 54, 55, 56, 57, 97, 98, 99, 100, 101, 102]⟩
def hexD (n : Nat) : UInt8 := hexT.data.getD n 0
def hexB (b : UInt8) : List UInt8 := [hexD (b.toNat / 16), hexD (b.toNat % 16)]
def hexL (l : List UInt8) : List UInt8 := l.flatMap hexB
theorem hexL_len (l : List UInt8) : (hexL l).length = 2 * l.length := by
  induction l with
  | nil => rfl
  | cons b l ih => unfold hexL at ih ⊢; rw [List.flatMap_cons, List.length_append, ih, List.length_cons]; show 2 + _ = _; omega
theorem hexL_take (l : List UInt8) {k : Nat} (h : k < l.length) : hexL (l.take (k + 1)) = hexL (l.take k) ++ hexB l[k] := by
  unfold hexL
  rw [List.take_succ_eq_append_getElem h, List.flatMap_append]
  simp
theorem info_u8h : (Tryd.prog.info? 5).map (fun i => (i.zero, i.size, i.bytes)) = some (some (.int .u8 0), 1, 1) := by kernel_rfl
/-- v, made by the call, holds these bytes. -/
def OwnH (w : World) (B : Nat) (v : Value) (l : List UInt8) : Prop := w.ownsRow B 5 1 v l.length (l.map byteV)
theorem made_R (w : World) (n : Nat) (hn : n ≤ 1000) : OwnH (w.alloc (.cells (madeCells #[.int .u8 0] n) 5)) w.heap.size (.slice (some ⟨w.heap.size, 0, none⟩) 0 n) [] :=
  ⟨rfl, .inr ⟨w.heap.size, n, _, rfl, Nat.le_refl _, heap_alloc_new w _, Nat.zero_le _, by unfold maxLen; omega, by simp [madeCells], by simp⟩⟩
theorem none_R (w : World) : OwnH (w.alloc (.cells #[] 5)) w.heap.size (.slice (some ⟨w.heap.size, 0, none⟩) 0 0) [] :=
  World.ownsRow_lit w #[] 0 (Nat.le_refl _) (Nat.zero_le _) rfl
/-- Two new bytes. -/
theorem two_byte (w : World) (b c : UInt8) (e : TypeId) : ∀ (j : Nat) (u : Value), ([b, c].map byteV)[j]? = some u → (w.alloc (.cells #[.int .u8 (b.toNat : Int), .int .u8 (c.toNat : Int)] e)).cell? ((⟨w.heap.size, 0, none⟩ : Addr).add j) = some u := by
  intro j u hu
  rw [show (⟨w.heap.size, 0, none⟩ : Addr).add j = ⟨w.heap.size, j, none⟩ by unfold Addr.add; split <;> simp_all]
  have h := (Arr.fresh w e [byteV b, byteV c]).cell j
  exact h.trans hu
theorem byte_one (l : List UInt8) : ∀ u ∈ l.map byteV, u.oneCell' = true := fun u hu => by
  obtain ⟨y, _, rfl⟩ := List.mem_map.1 hu
  rfl
/-- append(v, b, c). -/
theorem wp_app_two {o : Oper} {a : Act} {w : World} {K : Act → World → Prop} {Q : Exit → Act → World → Prop} (s x : Operand)
    (ho : o.op = .call { callee := .builtin .append, args := #[s, x], argTypes := #[22, 22] })
    (B : Nat) (v : Value) (l : List UInt8) (hs : a.eval s = v) (hown : OwnH w B v l) (g : Nat) (b c : UInt8) (hx : a.eval x = .slice (some ⟨g, 0, none⟩) 2 2)
    (hnews : ∀ j u, ([b, c].map byteV)[j]? = some u → w.cell? ((⟨g, 0, none⟩ : Addr).add j) = some u) (hlen : l.length ≤ 1000000) (hB : B ≤ w.heap.size)
    (h : ∀ v' w', OwnH w' B v' (l ++ [b, c]) → Below B w w' → K (a.put o.dst v') w') : o.wp Tryd.prog a w K Q := by
  obtain ⟨i0, hi, hz0, hz1, hz2⟩ := info_parts info_u8h
  refine wp_append_own w s x 22 ho B 5 i0 _ 1 1 Tryd.underlying22 hi hz0 hz1 hz2 rfl (by decide) v l.length (l.map byteV) hs hown ⟨g, 0, none⟩ 2 2 ([b, c].map byteV) hx rfl hnews (byte_one _) (by unfold maxLen; omega) (by omega) hB (fun v' w' h1 h2 _ => h v' w' ?_ ((Below.refl B w).grown h2 hB (own_base hown)))
  show w'.ownsRow B _ 1 v' (l ++ [b, c]).length ((l ++ [b, c]).map byteV)
  rw [List.length_append, List.map_append]
  exact h1
theorem slotR {w : World} {B : Nat} {v : Value} {l : List UInt8} (h : OwnH w B v l) (h0 : v ≠ .slice none 0 0) : ∃ g cap, v = .slice (some ⟨g, 0, none⟩) l.length cap := by
  rcases h.2 with ⟨h1, _⟩ | ⟨g, cap, cur, h1, _⟩
  · exact absurd h1 h0
  · exact ⟨g, cap, h1⟩
theorem hex_val {n : Nat} (h : n < 16) {z : Int} (hz : z = (n : Int)) (hp : z.toNat < (⟨#[48, 49, 50, 51, 52, 53, 54, 55, 56, 57, 97, 98, 99, 100, 101, 102]⟩ : ByteArray).size) :
    (⟨#[48, 49, 50, 51, 52, 53, 54, 55, 56, 57, 97, 98, 99, 100, 101, 102]⟩ : ByteArray)[z.toNat]'hp = hexD n := by
  subst hz
  have e : n = 0 ∨ n = 1 ∨ n = 2 ∨ n = 3 ∨ n = 4 ∨ n = 5 ∨ n = 6 ∨ n = 7 ∨ n = 8 ∨ n = 9 ∨ n = 10 ∨ n = 11 ∨ n = 12 ∨ n = 13 ∨ n = 14 ∨ n = 15 := by omega
  rcases e with rfl | rfl | rfl | rfl | rfl | rfl | rfl | rfl | rfl | rfl | rfl | rfl | rfl | rfl | rfl | rfl <;> rfl
theorem and15 (c : UInt8) : bits .and .u8 (c.toNat : Int) 15 = (c.toNat : Int) % 16 := by
  rw [u8_and _ _ (by omega) (by have := c.toNat_lt; omega) (by omega) (by omega)]
  have : c.toNat &&& 15 = c.toNat % 16 := Nat.and_two_pow_sub_one_eq_mod c.toNat 4
  show ((c.toNat &&& 15 : Nat) : Int) = _
  rw [this]
  omega
theorem u8_wrap {z : Int} (h0 : 0 ≤ z) (h1 : z < 256) : IntKind.u8.wrap z = z := by
  simp [IntKind.wrap, IntKind.bits, IntKind.signed]
  omega
/-! the walks -/
set_option maxRecDepth 100000 in
set_option maxHeartbeats 1000000 in
theorem impl_hex (s : ByteArray) (w : World) (h0 : 0 < s.size) (hs : s.size ≤ 100) :
    Calls Tryd.prog 75 #[.string s] w fun e w' => e = .returned (.string (strOf (hexL s.data.toList))) ∧ Below w.heap.size w w' := by
  have HL : Hid (s.data.toList.length = s.size) := Lib.hid (by rw [Array.length_toList]; rfl)
  obtain ⟨i0, hi, hz0, hz1, hz2⟩ := info_parts info_u8h
  have hmk : ∀ u : World, (Instr.makeSlice 22 (.int .i64 0) (.int .i64 (2 * (s.size : Int)))).run Tryd.prog u =
      .ok (.slice (some ⟨u.heap.size, 0, none⟩) 0 (2 * s.size)) (u.alloc (.cells (madeCells #[.int .u8 0] (2 * s.size)) 5)) := fun u => by
    have h := run_make (P := Tryd.prog) u 22 5 i0 (.int .u8 0) Tryd.underlying22 hi hz0 .i64 .i64 0 (2 * (s.size : Int)) (by omega) (by omega) (by rw [hz2]; omega) (by omega)
    rw [h]
    simp [hz1, Value.cells]
    have e : (2 * (s.size : Int)).toNat = 2 * s.size := by omega
    rw [e]
    simp
  have HO := Lib.hid (made_R w (2 * s.size) (by omega))
  clear hi hz0 hz1 hz2
  go_enter Tryd.func75, Tryd.ntmps75
  go_wp2
  go_loopw [3, 4] (fun v i wr => ∃ k : Nat, k ≤ s.size ∧ i = .int .i64 k ∧ v ≠ .slice none 0 0 ∧ OwnH wr w.heap.size v (hexL (s.data.toList.take k)) ∧ Below w.heap.size w wr) (fun _ i _ => s.size - (intOf i).toNat)
  case atStart => exact ⟨0, Nat.zero_le _, rfl, (fun e => by cases e), HO.out, (Below.refl _ _).alloc (Nat.le_refl _) _⟩
  case round =>
    clear hmk
    obtain ⟨k, hk, rfl, hvn, hO, hbel⟩ := hrel
    have HB := Lib.hid hbel
    have HO2 := Lib.hid hO
    have HLN : Hid ((hexL (s.data.toList.take k)).length = 2 * k) := Lib.hid (by rw [hexL_len, List.length_take, HL.out]; omega)
    obtain ⟨g, cap, hv⟩ := slotR hO hvn
    by_cases hlt : k < s.size
    · have hlt' : k < s.data.toList.length := by rw [HL.out]; exact hlt
      have HT := Lib.hid (hexL_take s.data.toList hlt')
      have hsk : s[k]'hlt = s.data.toList[k]'hlt' := rfl
      obtain ⟨c, hc⟩ : ∃ c, s.data.toList[k]'hlt' = c := ⟨_, rfl⟩
      rw [hc] at HT hsk
      have hcl := c.toNat_lt
      have hn2 := and15 c
      obtain ⟨N, hN⟩ : ∃ N, (hexL (s.data.toList.take k)).length = N := ⟨_, rfl⟩
      rw [hN] at hv HLN
      subst hv
      clear hbel hO hc hlt' hN
      go_wp2
      refine wp_region_held_drew (S := fun _ => True) (by kernel_rfl) trivial (fun hHeld => ?_)
      refine takeQ (i := 0) (k := 15) (v := .slice (some ⟨g, 0, none⟩) N cap) rfl (by rfl) (by kernel_rfl) (by kernel_rfl) (by kernel_rfl) (fun _ _ _ h => h) (by rfl) ?_ hHeld ?_
      · intro w1 hSw; go_simp
      (try simp only [Act.put, List.setIfInBounds_toArray, List.set_cons_zero, List.set_cons_succ])
      refine takeQ (i := 1) (k := 16) (v := .string s) rfl (by rfl) (by kernel_rfl) (by kernel_rfl) (by kernel_rfl) (fun _ _ _ h => h) (by rfl) ?_ hHeld ?_
      · intro w1 hSw; go_simp
      (try simp only [Act.put, List.setIfInBounds_toArray, List.set_cons_zero, List.set_cons_succ])
      refine takeQ (i := 2) (k := 17) (v := .int .i64 (k : Int)) rfl (by rfl) (by kernel_rfl) (by kernel_rfl) (by kernel_rfl) (fun _ _ _ h => h) (by rfl) ?_ hHeld ?_
      · intro w1 hSw; go_simp
      (try simp only [Act.put, List.setIfInBounds_toArray, List.set_cons_zero, List.set_cons_succ])
      refine takeQ (i := 3) (k := 18) (v := .int .u8 (c.toNat : Int)) rfl (by rfl) (by kernel_rfl) (by kernel_rfl) (by kernel_rfl) (fun _ _ _ h => h) (by rfl) ?_ hHeld ?_
      · intro w1 hSw; go_simp
      (try simp only [Act.put, List.setIfInBounds_toArray, List.set_cons_zero, List.set_cons_succ])
      refine takeQ (i := 4) (k := 19) (v := .int .u8 ((c.toNat / 16 : Nat) : Int)) rfl (by rfl) (by kernel_rfl) (by kernel_rfl) (by kernel_rfl) (fun _ _ _ h => h) (by rfl) ?_ hHeld ?_
      · intro w1 hSw; go_simp; first | done | exact u8_wrap (by omega) (by omega)
      (try simp only [Act.put, List.setIfInBounds_toArray, List.set_cons_zero, List.set_cons_succ])
      refine takeQ (i := 5) (k := 20) (v := .int .u8 ((hexD (c.toNat / 16)).toNat : Int)) rfl (by rfl) (by kernel_rfl) (by kernel_rfl) (by kernel_rfl) (fun _ _ _ h => h) (by rfl) ?_ hHeld ?_
      · intro w1 hSw; go_simp; rw [dif_pos ⟨by omega, by omega⟩, hex_val (n := c.toNat / 16) (by omega) (by omega)]; rfl
      (try simp only [Act.put, List.setIfInBounds_toArray, List.set_cons_zero, List.set_cons_succ])
      refine takeQ (i := 6) (k := 21) (v := .string s) rfl (by rfl) (by kernel_rfl) (by kernel_rfl) (by kernel_rfl) (fun _ _ _ h => h) (by rfl) ?_ hHeld ?_
      · intro w1 hSw; go_simp
      (try simp only [Act.put, List.setIfInBounds_toArray, List.set_cons_zero, List.set_cons_succ])
      refine takeQ (i := 7) (k := 22) (v := .int .i64 (k : Int)) rfl (by rfl) (by kernel_rfl) (by kernel_rfl) (by kernel_rfl) (fun _ _ _ h => h) (by rfl) ?_ hHeld ?_
      · intro w1 hSw; go_simp
      (try simp only [Act.put, List.setIfInBounds_toArray, List.set_cons_zero, List.set_cons_succ])
      refine takeQ (i := 8) (k := 23) (v := .int .u8 (c.toNat : Int)) rfl (by rfl) (by kernel_rfl) (by kernel_rfl) (by kernel_rfl) (fun _ _ _ h => h) (by rfl) ?_ hHeld ?_
      · intro w1 hSw; go_simp
      (try simp only [Act.put, List.setIfInBounds_toArray, List.set_cons_zero, List.set_cons_succ])
      refine takeQ (i := 9) (k := 24) (v := .int .u8 ((c.toNat % 16 : Nat) : Int)) rfl (by rfl) (by kernel_rfl) (by kernel_rfl) (by kernel_rfl) (fun _ _ _ h => h) (by rfl) ?_ hHeld ?_
      · intro w1 hSw; go_simp; first | done | exact hn2
      (try simp only [Act.put, List.setIfInBounds_toArray, List.set_cons_zero, List.set_cons_succ])
      refine takeQ (i := 10) (k := 25) (v := .int .u8 ((hexD (c.toNat % 16)).toNat : Int)) rfl (by rfl) (by kernel_rfl) (by kernel_rfl) (by kernel_rfl) (fun _ _ _ h => h) (by rfl) ?_ hHeld ?_
      · intro w1 hSw; go_simp; rw [dif_pos ⟨by omega, by omega⟩, hex_val (n := c.toNat % 16) (by omega) (by omega)]; rfl
      (try simp only [Act.put, List.setIfInBounds_toArray, List.set_cons_zero, List.set_cons_succ])
      refine wpAnyH_ready (rs := [11]) (by kernel_rfl) (by simp) ?_
      refine AllReadyH.cons rfl (fun K hK => ?_) AllReadyH.nil
      rw [if_pos (by rfl)]
      go_simp
      refine hK.out _ _ trivial (fun hHeld => ?_)
      clear hK K
      (try simp only [Act.put, List.setIfInBounds_toArray, List.set_cons_zero, List.set_cons_succ])
      refine wpAnyH_ready (rs := [12]) (by kernel_rfl) (by simp) ?_
      refine AllReadyH.cons rfl (fun K hK => ?_) AllReadyH.nil
      rw [if_pos (by rfl)]
      refine wp_app_two _ _ rfl w.heap.size _ _ rfl (World.ownsRow.alloc (w := wr.drew) HO2.out _) _ _ _ rfl (two_byte _ _ _ _) (by rw [hexL_len, List.length_take]; omega) (Nat.le_trans HB.out.size (by simp)) ?_
      intro v' w' ho hb
      have hbl : Below w.heap.size w w' := (HB.out.drew.alloc HB.out.size _).trans hb
      have hvn' : v' ≠ .slice none 0 0 := by
        rintro rfl
        have := ho.1
        rcases ho.2 with ⟨_, e⟩ | ⟨g, cap, cur, e, _⟩
        · rw [List.length_append] at e; simp at e
        · cases e
      refine hK.out _ _ trivial (fun hHeld => ?_)
      clear hK K
      (try simp only [Act.put, List.setIfInBounds_toArray, List.set_cons_zero, List.set_cons_succ])
      refine takeQ (i := 13) (k := 3) (v := v') rfl (by rfl) (by kernel_rfl) (by kernel_rfl) (by kernel_rfl) (fun _ _ _ h => h) (by rfl) ?_ hHeld ?_
      · intro w1 hSw; go_simp
      (try simp only [Act.put, List.setIfInBounds_toArray, List.set_cons_zero, List.set_cons_succ])
      refine wpAnyH_done (by kernel_rfl) ?_ _
      go_wp2
      go_roundw
      case rel => exact ⟨k + 1, by omega, by go_num, hvn', by rw [HT.out]; exact ho, hbl⟩
      case measure => simp [intOf]; omega
    · obtain rfl : k = s.size := by omega
      have hO3 := ownB_row (l := hexL s.data.toList) (by rw [List.take_of_length_le (by rw [HL.out]; exact Nat.le_refl _)] at hO; exact hO) (by rw [hexL_len, HL.out]; omega)
      have hcv := run_string_B hO3
      rw [hv] at hcv
      subst hv
      clear hO hO3
      go_wp2
      go_ret
      exact ⟨rfl, HB.out⟩
set_option maxRecDepth 100000 in
set_option maxHeartbeats 1000000 in
theorem spec_hex (s : ByteArray) (w : World) (h0 : 0 < s.size) (hs : s.size ≤ 100) :
    Calls Tryd.prog 46 #[.string s] w fun e w' => e = .returned (.string (strOf (hexL s.data.toList))) ∧ Below w.heap.size w w' := by
  have HL : Hid (s.data.toList.length = s.size) := Lib.hid (by rw [Array.length_toList]; rfl)
  have HO := Lib.hid (none_R w)
  go_enter Tryd.func46, Tryd.ntmps46
  go_wp2
  go_loopw [3, 4] (fun v i wr => ∃ k : Nat, k ≤ s.size ∧ i = .int .i64 k ∧ v ≠ .slice none 0 0 ∧ OwnH wr w.heap.size v (hexL (s.data.toList.take k)) ∧ Below w.heap.size w wr) (fun _ i _ => s.size - (intOf i).toNat)
  case atStart => exact ⟨0, Nat.zero_le _, rfl, (fun e => by cases e), HO.out, (Below.refl _ _).alloc (Nat.le_refl _) _⟩
  case round =>
    skip
    obtain ⟨k, hk, rfl, hvn, hO, hbel⟩ := hrel
    have HB := Lib.hid hbel
    have HO2 := Lib.hid hO
    have HLN : Hid ((hexL (s.data.toList.take k)).length = 2 * k) := Lib.hid (by rw [hexL_len, List.length_take, HL.out]; omega)
    obtain ⟨g, cap, hv⟩ := slotR hO hvn
    by_cases hlt : k < s.size
    · have hlt' : k < s.data.toList.length := by rw [HL.out]; exact hlt
      have HT := Lib.hid (hexL_take s.data.toList hlt')
      have hsk : s[k]'hlt = s.data.toList[k]'hlt' := rfl
      obtain ⟨c, hc⟩ : ∃ c, s.data.toList[k]'hlt' = c := ⟨_, rfl⟩
      rw [hc] at HT hsk
      have hcl := c.toNat_lt
      skip
      obtain ⟨N, hN⟩ : ∃ N, (hexL (s.data.toList.take k)).length = N := ⟨_, rfl⟩
      rw [hN] at hv HLN
      subst hv
      clear hbel hO hc hlt' hN
      go_wp2
      refine wp_region_held_drew (S := fun _ => True) (by kernel_rfl) trivial (fun hHeld => ?_)
      refine takeQ (i := 0) (k := 12) (v := .slice (some ⟨g, 0, none⟩) N cap) rfl (by rfl) (by kernel_rfl) (by kernel_rfl) (by kernel_rfl) (fun _ _ _ h => h) (by rfl) ?_ hHeld ?_
      · intro w1 hSw; go_simp
      (try simp only [Act.put, List.setIfInBounds_toArray, List.set_cons_zero, List.set_cons_succ])
      refine takeQ (i := 1) (k := 13) (v := .string s) rfl (by rfl) (by kernel_rfl) (by kernel_rfl) (by kernel_rfl) (fun _ _ _ h => h) (by rfl) ?_ hHeld ?_
      · intro w1 hSw; go_simp
      (try simp only [Act.put, List.setIfInBounds_toArray, List.set_cons_zero, List.set_cons_succ])
      refine takeQ (i := 2) (k := 14) (v := .int .i64 (k : Int)) rfl (by rfl) (by kernel_rfl) (by kernel_rfl) (by kernel_rfl) (fun _ _ _ h => h) (by rfl) ?_ hHeld ?_
      · intro w1 hSw; go_simp
      (try simp only [Act.put, List.setIfInBounds_toArray, List.set_cons_zero, List.set_cons_succ])
      refine takeQ (i := 3) (k := 15) (v := .int .u8 (c.toNat : Int)) rfl (by rfl) (by kernel_rfl) (by kernel_rfl) (by kernel_rfl) (fun _ _ _ h => h) (by rfl) ?_ hHeld ?_
      · intro w1 hSw; go_simp
      (try simp only [Act.put, List.setIfInBounds_toArray, List.set_cons_zero, List.set_cons_succ])
      refine takeQ (i := 4) (k := 16) (v := .int .u8 ((c.toNat / 16 : Nat) : Int)) rfl (by rfl) (by kernel_rfl) (by kernel_rfl) (by kernel_rfl) (fun _ _ _ h => h) (by rfl) ?_ hHeld ?_
      · intro w1 hSw; go_simp; first | done | exact u8_wrap (by omega) (by omega)
      (try simp only [Act.put, List.setIfInBounds_toArray, List.set_cons_zero, List.set_cons_succ])
      refine takeQ (i := 5) (k := 17) (v := .int .u8 ((hexD (c.toNat / 16)).toNat : Int)) rfl (by rfl) (by kernel_rfl) (by kernel_rfl) (by kernel_rfl) (fun _ _ _ h => h) (by rfl) ?_ hHeld ?_
      · intro w1 hSw; go_simp; rw [dif_pos ⟨by omega, by omega⟩, hex_val (n := c.toNat / 16) (by omega) (by omega)]; rfl
      (try simp only [Act.put, List.setIfInBounds_toArray, List.set_cons_zero, List.set_cons_succ])
      refine takeQ (i := 6) (k := 18) (v := .string s) rfl (by rfl) (by kernel_rfl) (by kernel_rfl) (by kernel_rfl) (fun _ _ _ h => h) (by rfl) ?_ hHeld ?_
      · intro w1 hSw; go_simp
      (try simp only [Act.put, List.setIfInBounds_toArray, List.set_cons_zero, List.set_cons_succ])
      refine takeQ (i := 7) (k := 19) (v := .int .i64 (k : Int)) rfl (by rfl) (by kernel_rfl) (by kernel_rfl) (by kernel_rfl) (fun _ _ _ h => h) (by rfl) ?_ hHeld ?_
      · intro w1 hSw; go_simp
      (try simp only [Act.put, List.setIfInBounds_toArray, List.set_cons_zero, List.set_cons_succ])
      refine takeQ (i := 8) (k := 20) (v := .int .u8 (c.toNat : Int)) rfl (by rfl) (by kernel_rfl) (by kernel_rfl) (by kernel_rfl) (fun _ _ _ h => h) (by rfl) ?_ hHeld ?_
      · intro w1 hSw; go_simp
      (try simp only [Act.put, List.setIfInBounds_toArray, List.set_cons_zero, List.set_cons_succ])
      refine takeQ (i := 9) (k := 21) (v := .int .u8 ((c.toNat % 16 : Nat) : Int)) rfl (by rfl) (by kernel_rfl) (by kernel_rfl) (by kernel_rfl) (fun _ _ _ h => h) (by rfl) ?_ hHeld ?_
      · intro w1 hSw; go_simp; exact Int.tmod_eq_emod_of_nonneg (by omega)
      (try simp only [Act.put, List.setIfInBounds_toArray, List.set_cons_zero, List.set_cons_succ])
      refine takeQ (i := 10) (k := 22) (v := .int .u8 ((hexD (c.toNat % 16)).toNat : Int)) rfl (by rfl) (by kernel_rfl) (by kernel_rfl) (by kernel_rfl) (fun _ _ _ h => h) (by rfl) ?_ hHeld ?_
      · intro w1 hSw; go_simp; rw [dif_pos ⟨by omega, by omega⟩, hex_val (n := c.toNat % 16) (by omega) (by omega)]; rfl
      (try simp only [Act.put, List.setIfInBounds_toArray, List.set_cons_zero, List.set_cons_succ])
      refine wpAnyH_ready (rs := [11]) (by kernel_rfl) (by simp) ?_
      refine AllReadyH.cons rfl (fun K hK => ?_) AllReadyH.nil
      rw [if_pos (by rfl)]
      go_simp
      refine hK.out _ _ trivial (fun hHeld => ?_)
      clear hK K
      (try simp only [Act.put, List.setIfInBounds_toArray, List.set_cons_zero, List.set_cons_succ])
      refine wpAnyH_ready (rs := [12]) (by kernel_rfl) (by simp) ?_
      refine AllReadyH.cons rfl (fun K hK => ?_) AllReadyH.nil
      rw [if_pos (by rfl)]
      refine wp_app_two _ _ rfl w.heap.size _ _ rfl (World.ownsRow.alloc (w := wr.drew) HO2.out _) _ _ _ rfl (two_byte _ _ _ _) (by rw [hexL_len, List.length_take]; omega) (Nat.le_trans HB.out.size (by simp)) ?_
      intro v' w' ho hb
      have hbl : Below w.heap.size w w' := (HB.out.drew.alloc HB.out.size _).trans hb
      have hvn' : v' ≠ .slice none 0 0 := by
        rintro rfl
        have := ho.1
        rcases ho.2 with ⟨_, e⟩ | ⟨g, cap, cur, e, _⟩
        · rw [List.length_append] at e; simp at e
        · cases e
      refine hK.out _ _ trivial (fun hHeld => ?_)
      clear hK K
      (try simp only [Act.put, List.setIfInBounds_toArray, List.set_cons_zero, List.set_cons_succ])
      refine takeQ (i := 13) (k := 3) (v := v') rfl (by rfl) (by kernel_rfl) (by kernel_rfl) (by kernel_rfl) (fun _ _ _ h => h) (by rfl) ?_ hHeld ?_
      · intro w1 hSw; go_simp
      (try simp only [Act.put, List.setIfInBounds_toArray, List.set_cons_zero, List.set_cons_succ])
      refine wpAnyH_done (by kernel_rfl) ?_ _
      go_wp2
      go_roundw
      case rel => exact ⟨k + 1, by omega, by go_num, hvn', by rw [HT.out]; exact ho, hbl⟩
      case measure => simp [intOf]; omega
    · obtain rfl : k = s.size := by omega
      have hO3 := ownB_row (l := hexL s.data.toList) (by rw [List.take_of_length_le (by rw [HL.out]; exact Nat.le_refl _)] at hO; exact hO) (by rw [hexL_len, HL.out]; omega)
      have hcv := run_string_B hO3
      rw [hv] at hcv
      subst hv
      clear hO hO3
      go_wp2
      go_ret
      exact ⟨rfl, HB.out⟩
end Go.Proofs.YtpbogdfgomfpjaaDoor
