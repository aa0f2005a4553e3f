/-
  Own text. impl.KeysIn and spec.KeysIn answer the same list, each in new memory of its own: no condition.
-/
import Derived.Test.YtdfknnhdnojfdaaDoorKeysB
import Derived.Deep.Onto
namespace Go.Proofs.YtdfknnhdnojfdaaDoor
open Go.RowKit

/-- Of the n numbers from lo on those that stand for something. -/
def kl (lo : Int) : Nat → List Int
  | 0 => []
  | n + 1 => kl lo n ++ (if faultOf (lo + n) = 0 then [lo + n] else [])
theorem kl_le (lo : Int) : ∀ n, (kl lo n).length ≤ n
  | 0 => Nat.le_refl 0
  | n + 1 => by
    have := kl_le lo n
    unfold kl
    split <;> simp <;> omega
theorem kl_yes {lo : Int} {n : Nat} (h : faultOf (lo + n) = 0) : kl lo (n + 1) = kl lo n ++ [lo + n] := by rw [kl, if_pos h]
theorem kl_no {lo : Int} {n : Nat} (h : ¬ faultOf (lo + n) = 0) : kl lo (n + 1) = kl lo n := by rw [kl, if_neg h, List.append_nil]
theorem info_i64 : (Tryd.prog.info? 2).map (fun i => (i.zero, i.size, i.bytes)) = some (some (.int .i64 0), 1, 8) := by kernel_rfl
theorem ownsRow_form {w : World} {base : Nat} {e : TypeId} {size : Nat} {v : Value} {n : Nat} {xs : List Value} (h : w.ownsRow base e size v n xs) : ∃ ao cp, v = .slice ao n cp := by
  obtain ⟨_, ⟨rfl, rfl⟩ | ⟨g, cap, cur, rfl, _⟩⟩ := h
  · exact ⟨_, _, rfl⟩
  · exact ⟨_, _, rfl⟩
/-- A list of whole numbers that the call made, in new memory. -/
def Ints (w : World) (base : Nat) (v : Value) (xs : List Int) : Prop := w.ownsRow base 2 1 v xs.length (xs.map (Value.int .i64))

set_option maxHeartbeats 400000 in
theorem specKeysIn_range (a b : Int) (w : World) (h : (a < 0 ∨ 200 < a) ∨ (b < 0 ∨ 200 < b)) :
    Calls Tryd.prog 16 #[.int .i64 a, .int .i64 b] w fun e w' => e = .returned (.agg #[.int .i64 3, .slice none 0 0]) ∧ w' = w.alloc (.cells #[.int .i64 3, .slice none 0 0] 41) := by
  by_cases ha : a < 0
  · clear h
    go_enter Tryd.func16, Tryd.ntmps16
    go_wp2
    exact bodyPost_ret (v := .agg #[.int .i64 3, .slice none 0 0]) (by simp [results, Tryd.results16, go_sem]) rfl ⟨rfl, rfl⟩
  by_cases ha2 : 200 < a
  · clear h
    have d1 : decide (a ≤ 200) = false := decide_eq_false (by omega)
    go_enter Tryd.func16, Tryd.ntmps16
    go_wp2
    exact bodyPost_ret (v := .agg #[.int .i64 3, .slice none 0 0]) (by simp [results, Tryd.results16, go_sem]) rfl ⟨rfl, rfl⟩
  have d1 : decide (a ≤ 200) = true := decide_eq_true (by omega)
  by_cases hb : b < 0
  · clear h
    go_enter Tryd.func16, Tryd.ntmps16
    go_wp2
    exact bodyPost_ret (v := .agg #[.int .i64 3, .slice none 0 0]) (by simp [results, Tryd.results16, go_sem]) rfl ⟨rfl, rfl⟩
  have hb2 : 200 < b := by omega
  have d2 : decide (b ≤ 200) = false := decide_eq_false (by omega)
  have d3 : decide (200 < b) = true := decide_eq_true hb2
  clear h
  go_enter Tryd.func16, Tryd.ntmps16
  go_wp2
  exact bodyPost_ret (v := .agg #[.int .i64 3, .slice none 0 0]) (by simp [results, Tryd.results16, go_sem]) rfl ⟨rfl, rfl⟩

set_option maxHeartbeats 400000 in
theorem boundsFit_yes (a b : Int) (w : World) (ha : 0 ≤ a) (ha2 : a ≤ 200) (hb : 0 ≤ b) (hb2 : b ≤ 200) :
    Calls Tryd.prog 33 #[.int .i64 a, .int .i64 b] w fun e w' => e = .returned (.bool true) ∧ w' = w := by
  have d2 : decide (b ≤ 200) = true := decide_eq_true hb2
  go_enter Tryd.func33, Tryd.ntmps33
  go_wp2
  go_ret
  exact ⟨rfl, rfl⟩
set_option maxHeartbeats 400000 in
theorem boundsFit_no (a b : Int) (w : World) (h : (a < 0 ∨ 200 < a) ∨ (b < 0 ∨ 200 < b)) :
    Calls Tryd.prog 33 #[.int .i64 a, .int .i64 b] w fun e w' => e = .returned (.bool false) ∧ w' = w := by
  by_cases ha : a < 0
  · clear h
    have d0 : decide (0 ≤ a) = false := decide_eq_false (by omega)
    go_enter Tryd.func33, Tryd.ntmps33
    go_wp2
    go_ret
    exact ⟨rfl, rfl⟩
  by_cases ha2 : 200 < a
  · clear h
    have d1 : decide (a ≤ 200) = false := decide_eq_false (by omega)
    go_enter Tryd.func33, Tryd.ntmps33
    go_wp2
    go_ret
    exact ⟨rfl, rfl⟩
  have d1 : decide (a ≤ 200) = true := decide_eq_true (by omega)
  by_cases hb : b < 0
  · clear h
    have d0 : decide (0 ≤ b) = false := decide_eq_false (by omega)
    go_enter Tryd.func33, Tryd.ntmps33
    go_wp2
    go_ret
    exact ⟨rfl, rfl⟩
  have d2 : decide (b ≤ 200) = false := decide_eq_false (by omega)
  clear h
  go_enter Tryd.func33, Tryd.ntmps33
  go_wp2
  go_ret
  exact ⟨rfl, rfl⟩
theorem implKeysIn_range (a b : Int) (w : World) (h : (a < 0 ∨ 200 < a) ∨ (b < 0 ∨ 200 < b)) :
    Calls Tryd.prog 15 #[.int .i64 a, .int .i64 b] w fun e w' => e = .returned (.agg #[.int .i64 3, .slice none 0 0]) ∧ w' = w.alloc (.cells #[.int .i64 3, .slice none 0 0] 41) := by
  have H : Hid (∀ w, Calls Tryd.prog 33 #[.int .i64 a, .int .i64 b] w fun e w' => e = .returned (.bool false) ∧ w' = w) := fun w => boundsFit_no a b w h
  clear h
  go_enter Tryd.func15, Tryd.ntmps15
  go_wp2_with fail
  refine (H.out _).mono ?_
  rintro e w' ⟨rfl, rfl⟩
  go_wp2
  exact bodyPost_ret (v := .agg #[.int .i64 3, .slice none 0 0]) (by simp [results, Tryd.results15, go_sem]) rfl ⟨rfl, rfl⟩

set_option maxHeartbeats 1000000 in
theorem implKeysIn_ok (a b : Int) (w : World) (ha : 0 ≤ a) (ha2 : a ≤ 200) (hb : 0 ≤ b) (hb2 : b ≤ 200) :
    Calls Tryd.prog 15 #[.int .i64 a, .int .i64 b] w fun e w' => ∃ v, e = .returned (.agg #[.int .i64 0, v]) ∧ Ints w' w.heap.size v (kl a (b - a).toNat) ∧ Below w.heap.size w w' := by
  obtain ⟨i0, hi, hz0, hz1, hz2⟩ := info_parts info_i64
  go_enter Tryd.func15, Tryd.ntmps15
  go_wp2_with fail
  refine (boundsFit_yes _ _ _ ha ha2 hb hb2).mono ?_
  rintro e w' ⟨rfl, rfl⟩
  go_wp2_with fail
  go_loopw [5, 6] (fun v k wr => ∃ n : Nat, k = .int .i64 (a + n) ∧ n ≤ (b - a).toNat ∧ wr.ownsRow (w.heap.size + 1) 2 1 v (kl a n).length ((kl a n).map (Value.int .i64)) ∧ Below (w.heap.size + 1) (w.alloc (.cells #[.int .i64 0, .slice none 0 0] 41)) wr) (fun _ k _ => (b - intOf k).toNat)
  case atStart => exact ⟨0, by go_num, by omega, World.ownsRow_nil _ _ _ _, Below.refl _ _⟩
  case round =>
    obtain ⟨n, rfl, hn, hown, hbl⟩ := hrel
    have hz : w.heap.size < wr.heap.size := by have := hbl.size; simp at this; omega
    have hc0 : wr.cell? ⟨w.heap.size, 0, none⟩ = some (.int .i64 0) := by rw [hbl.cell (by simp)]; exact World.cell?_alloc_mark w _ _ _ 0
    have hc1 : wr.cell? ⟨w.heap.size, 1, none⟩ = some (.slice none 0 0) := by rw [hbl.cell (by simp)]; exact World.cell?_alloc_mark w _ _ _ 1
    have hf0 : wr.frozen? ⟨w.heap.size, 0, none⟩ = false := by rw [hbl.frozen (by simp)]; simp
    have hf1 : wr.frozen? ⟨w.heap.size, 1, none⟩ = false := by rw [hbl.frozen (by simp)]; simp
    have hbw : Below w.heap.size w wr := ((Below.refl _ _).alloc (Nat.le_refl _) _).trans (hbl.mono (by omega))
    by_cases hlt : a + n < b
    · have HF : Hid (∀ w, Calls Tryd.prog 12 #[.int .i64 (a + n)] w fun e w' => e = .returned (.int .i64 (faultOf (a + n))) ∧ w' = w) := fun w => keyFault_any _ w
      have hkl := kl_le a n
      by_cases hf : faultOf (a + n) = 0
      · rw [hf] at HF
        have HL : Hid (kl a (n + 1) = kl a n ++ [a + n]) := kl_yes hf
        clear hf
        go_wp2_with fail
        refine (HF.out _).mono ?_
        rintro e w' ⟨rfl, rfl⟩
        go_wp2_with (at_builtin; refine wpList_append_own _ rfl _ _ 39 rfl (w.heap.size + 1) 2 i0 (.int .i64 0) 1 8 Tryd.underlying39 hi hz0 hz1 hz2 rfl (by decide) _ _ _ rfl (hown.alloc _) ⟨_, 0, none⟩ 1 1 [.int .i64 (a + n)] rfl rfl ?c1 ?c2 ?c3 ?c4 ?c5 ?_)
        case c1 =>
          intro j u hj
          match j, hj with
          | 0, hj => simp at hj; subst hj; simp [Addr.add]
        case c2 => intro u hu; simp at hu; subst hu; rfl
        case c3 => unfold maxLen; omega
        case c4 => omega
        case c5 => simp; omega
        intro v' w1 hown' hgrow _
        have R1 : w1.ownsRow (w.heap.size + 1) 2 1 v' (kl a (n + 1)).length ((kl a (n + 1)).map (Value.int .i64)) := by rw [HL.out]; simpa using hown'
        have R2 : Below (w.heap.size + 1) (w.alloc (.cells #[.int .i64 0, .slice none 0 0] 41)) w1 := (hbl.alloc (by omega) _).grown hgrow (by simp; omega) (fun k hk => (hown.lt k hk).1)
        clear hown' hgrow hown hbl hc0 hc1 hf0 hf1 HL
        go_wp2
        go_roundw
        case rel => exact ⟨n + 1, by go_num, by omega, R1, R2⟩
        case measure => simp [intOf]; omega
      · have HL : Hid (kl a (n + 1) = kl a n) := kl_no hf
        have df : (faultOf (a + n) == 0) = false := beq_eq_false_iff_ne.2 hf
        clear hf
        generalize faultOf (a + n) = c at *
        go_wp2_with fail
        refine (HF.out _).mono ?_
        rintro e w' ⟨rfl, rfl⟩
        go_wp2_with fail
        go_roundw
        case rel => exact ⟨n + 1, by go_num, by omega, by rw [HL.out]; exact hown, hbl⟩
        case measure => simp [intOf]; omega
    · obtain ⟨ao, cp, hv⟩ := ownsRow_form hown
      subst hv
      have en : (b - a).toNat = n := by omega
      have En : Hid ((b - a).toNat = n) := en
      clear en
      go_wp2_with fail
      refine bodyPost_ret (v := .agg #[.int .i64 0, .slice ao (kl a n).length cp]) (by simp [results, Tryd.results15, go_sem, hc0, hc1]) rfl ⟨_, rfl, ?_, (hbw.setCell (Nat.le_refl _) _).setCell (Nat.le_refl _) _⟩
      rw [En.out]
      exact (ownsRow_setCell_below (ownsRow_setCell_below hown (by simp) _) (by simp) _).mono (by omega)

set_option maxHeartbeats 400000 in
theorem l1In_yes (v lo hi : Int) (w : World) (h1 : lo ≤ v) (h2 : v ≤ hi) :
    Calls Tryd.prog 34 #[.int .i64 v, .int .i64 lo, .int .i64 hi] w fun e w' => e = .returned (.bool true) ∧ w' = w := by
  have d2 : decide (v ≤ hi) = true := decide_eq_true h2
  go_enter Tryd.func34, Tryd.ntmps34
  go_wp2
  go_ret
  exact ⟨rfl, rfl⟩
set_option maxHeartbeats 1000000 in
theorem specKeysIn_ok (a b : Int) (w : World) (ha : 0 ≤ a) (ha2 : a ≤ 200) (hb : 0 ≤ b) (hb2 : b ≤ 200) :
    Calls Tryd.prog 16 #[.int .i64 a, .int .i64 b] w fun e w' => ∃ v, e = .returned (.agg #[.int .i64 0, v]) ∧ Ints w' w.heap.size v (kl a (b - a).toNat) ∧ Below w.heap.size w w' := by
  obtain ⟨i0, hi, hz0, hz1, hz2⟩ := info_parts info_i64
  go_enter Tryd.func16, Tryd.ntmps16
  go_wp2_with fail
  refine (l1In_yes _ _ _ _ ha ha2).mono ?_
  rintro e w' ⟨rfl, rfl⟩
  go_wp2_with fail
  refine (l1In_yes _ _ _ _ hb hb2).mono ?_
  rintro e w' ⟨rfl, rfl⟩
  go_wp2_with fail
  go_loopw [6] (fun k wr => ∃ (n : Nat) (v : Value), k = .int .i64 (a + n) ∧ n ≤ (b - a).toNat ∧ wr.ownsRow (w.heap.size + 2) 2 1 v (kl a n).length ((kl a n).map (Value.int .i64)) ∧ Below (w.heap.size + 1) (w.alloc (.cells #[.int .i64 0, .slice none 0 0] 41)) wr
      ∧ wr.cell? ⟨w.heap.size + 1, 0, none⟩ = some (.int .i64 0) ∧ wr.cell? ⟨w.heap.size + 1, 1, none⟩ = some v ∧ wr.frozen? ⟨w.heap.size + 1, 1, none⟩ = false ∧ w.heap.size + 1 < wr.heap.size) (fun k _ => (b - intOf k).toNat)
  case atStart => exact ⟨0, .slice none 0 0, by go_num, by omega, World.ownsRow_nil _ _ _ _, (Below.refl _ _).alloc (by simp) _, by simp, by simp, by simp, by simp⟩
  case round =>
    obtain ⟨n, v, rfl, hn, hown, hbl, ho0, ho1, hof, hz⟩ := hrel
    have hc0 : wr.cell? ⟨w.heap.size, 0, none⟩ = some (.int .i64 0) := by rw [hbl.cell (by simp)]; exact World.cell?_alloc_mark w _ _ _ 0
    have hc1 : wr.cell? ⟨w.heap.size, 1, none⟩ = some (.slice none 0 0) := by rw [hbl.cell (by simp)]; exact World.cell?_alloc_mark w _ _ _ 1
    have hf0 : wr.frozen? ⟨w.heap.size, 0, none⟩ = false := by rw [hbl.frozen (by simp)]; simp
    have hf1 : wr.frozen? ⟨w.heap.size, 1, none⟩ = false := by rw [hbl.frozen (by simp)]; simp
    have hbw : Below w.heap.size w wr := ((Below.refl _ _).alloc (Nat.le_refl _) _).trans (hbl.mono (by omega))
    obtain ⟨ao, cp, hv⟩ := ownsRow_form hown
    subst hv
    by_cases hlt : a + n < b
    · have HF : Hid (∀ w, Calls Tryd.prog 26 #[.int .i64 (a + n)] w fun e w' => e = .returned (.int .i64 (faultOf (a + n))) ∧ w' = w) := fun w => l1Fault_any _ w
      have hkl := kl_le a n
      by_cases hf : faultOf (a + n) = 0
      · rw [hf] at HF
        have HL : Hid (kl a (n + 1) = kl a n ++ [a + n]) := kl_yes hf
        clear hf
        go_wp2_with fail
        refine (HF.out _).mono ?_
        rintro e w' ⟨rfl, rfl⟩
        go_wp2_with (at_builtin; refine wpList_append_own _ rfl _ _ 39 rfl (w.heap.size + 2) 2 i0 (.int .i64 0) 1 8 Tryd.underlying39 hi hz0 hz1 hz2 rfl (by decide) _ _ _ rfl (hown.alloc _) ⟨_, 0, none⟩ 1 1 [.int .i64 (a + n)] rfl rfl ?c1 ?c2 ?c3 ?c4 ?c5 ?_)
        case c1 =>
          intro j u hj
          match j, hj with
          | 0, hj => simp at hj; subst hj; simp [Addr.add]
        case c2 => intro u hu; simp at hu; subst hu; rfl
        case c3 => unfold maxLen; omega
        case c4 => omega
        case c5 => simp; omega
        intro v' w1 hown' hgrow _
        have hne : ∀ k, (Value.slice ao (kl a n).length cp).ownBlock = some k → w.heap.size + 2 ≤ k := fun k hk => (hown.lt k hk).1
        have R1 : w1.ownsRow (w.heap.size + 2) 2 1 v' (kl a (n + 1)).length ((kl a (n + 1)).map (Value.int .i64)) := by rw [HL.out]; simpa using hown'
        have R2 : Below (w.heap.size + 1) (w.alloc (.cells #[.int .i64 0, .slice none 0 0] 41)) w1 := (hbl.alloc (by omega) _).grown hgrow (by simp; omega) (fun k hk => by have := hne k hk; omega)
        have R3 : Below (w.heap.size + 2) w' w1 := ((Below.refl _ _).alloc (by omega) _).grown hgrow (by simp; omega) hne
        have q0 : w1.cell? ⟨w.heap.size + 1, 0, none⟩ = some (.int .i64 0) := (R3.cell (p := ⟨w.heap.size + 1, 0, none⟩) (by simp)).trans ho0
        have q1 : w1.cell? ⟨w.heap.size + 1, 1, none⟩ = some (.slice ao (kl a n).length cp) := (R3.cell (p := ⟨w.heap.size + 1, 1, none⟩) (by simp)).trans ho1
        have qf : w1.frozen? ⟨w.heap.size + 1, 1, none⟩ = false := (R3.frozen (p := ⟨w.heap.size + 1, 1, none⟩) (by simp)).trans hof
        have qz : w.heap.size + 1 < w1.heap.size := Nat.lt_of_lt_of_le hz R3.size
        obtain ⟨ao', cp', hv'⟩ := ownsRow_form R1
        subst hv'
        clear hown' hgrow hown hbl hc0 hc1 hf0 hf1 HL ho0 ho1 hof
        go_wp2
        go_roundw
        case rel => exact ⟨n + 1, _, by go_num, by omega, ownsRow_setCell_below R1 (by simp) _, R2.setCell (by simp) _, (World.cell?_setCell_other _ _ _ _ (by simp)).trans q0, World.cell?_setCell_same _ _ _ q1, (World.frozen?_setCell _ _ _ _).trans qf, by simpa [World.setCell] using qz⟩
        case measure => simp [intOf]; omega
      · have HL : Hid (kl a (n + 1) = kl a n) := kl_no hf
        have df : (faultOf (a + n) == 0) = false := beq_eq_false_iff_ne.2 hf
        clear hf
        generalize faultOf (a + n) = c at *
        go_wp2_with fail
        refine (HF.out _).mono ?_
        rintro e w' ⟨rfl, rfl⟩
        go_wp2_with fail
        go_roundw
        case rel => exact ⟨n + 1, _, by go_num, by omega, by rw [HL.out]; exact hown, hbl, ho0, ho1, hof, hz⟩
        case measure => simp [intOf]; omega
    · have en : (b - a).toNat = n := by omega
      have En : Hid ((b - a).toNat = n) := en
      clear en
      go_wp2_with fail
      refine bodyPost_ret (v := .agg #[.int .i64 0, .slice ao (kl a n).length cp]) (by simp [results, Tryd.results16, go_sem, hc0, hc1]) rfl ⟨_, rfl, ?_, (hbw.setCell (Nat.le_refl _) _).setCell (Nat.le_refl _) _⟩
      rw [En.out]
      exact (ownsRow_setCell_below (ownsRow_setCell_below hown (by simp) _) (by simp) _).mono (by omega)
end Go.Proofs.YtdfknnhdnojfdaaDoor
