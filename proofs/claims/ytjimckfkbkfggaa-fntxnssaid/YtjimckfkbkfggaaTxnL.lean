/-
  Own text. Chapter 8: the items of a new transaction, the program's: those that are written, and of those that are read the ones that are in neither.
-/
import Derived.Test.YtjimckfkbkfggaaTxnH
import Derived.Test.YtjimckfkbkfggaaAppT
namespace Go.Proofs.Ytjimckfkbkfggaa
open Go.RowKit

theorem infoz_Item : (Try.prog.info? 35).map (fun i => (i.zero, i.size, i.bytes)) = some (some (.agg #[.int .i64 0, .int .i64 0, .int .i64 0]), 3, 24) := by kernel_rfl
set_option maxRecDepth 100000 in
theorem cloneItems_any (n : Nat) (F : Nat → Int) (v : Value) (B : Nat) (w : World) (h : Row w B 3 n F v) (hn : n ≤ 1048576) :
    Calls Try.prog 60 #[v] w fun e w' => ∃ v', e = .returned v' ∧ Own w' w.heap.size 35 3 n F v' ∧ Below w.heap.size w w' := by
  obtain ⟨ao, cp, rfl⟩ := h.form
  cases ao with
  | none =>
    have e0 : n = 0 := by
      rcases Nat.eq_zero_or_pos n with e | e
      · exact e
      · obtain ⟨ao, cp', hv, h⟩ := h
        obtain ⟨g, o, rfl, _⟩ := h e
        simp at hv
    subst e0
    clear h
    have he : ∀ w : World, (binOp .eql 25 (.slice none 0 cp) (.slice none 0 0)).run Try.prog w = .ok (.bool true) w := fun _ => rfl
    go_enter Try.func60, Try.ntmps60
    go_wp2
    go_ret
    exact ⟨_, rfl, Own.nil _ _ _ _ _, Below.refl _ _⟩
  | some a =>
    have H : Hid (Row w B 3 n F (.slice (some a) n cp)) := h
    clear h
    have he : ∀ w : World, (binOp .eql 25 (.slice (some a) n cp) (.slice none 0 0)).run Try.prog w = .ok (.bool false) w := fun _ => rfl
    obtain ⟨i0, hi, hz0, hz1, hz2⟩ := info_parts infoz_Item
    go_enter Try.func60, Try.ntmps60
    go_wp2_with (at_builtin; refine wpList_append_own _ rfl _ _ 25 rfl w.heap.size 35 i0 (.agg #[.int .i64 0, .int .i64 0, .int .i64 0]) 3 24 Try.underlying25 hi hz0 hz1 hz2 rfl (by decide) _ 0 [] rfl (own_empty w 35 3) a n cp (vals F (n * 3)) rfl (vals_length _ _) (row_cells (H.out.alloc _)) (vals_one _ _) ?c3 ?c4 ?c5 ?_)
    case c3 => unfold maxLen; omega
    case c4 => omega
    case c5 => simp
    intro v' w1 ho hg _
    go_wp2
    go_ret
    refine ⟨v', rfl, ?_, below_grownBy (below_alloc w _) (by simp) (fun b hb => by simp [Value.ownBlock] at hb; omega) hg⟩
    simpa [Own] using ho

/-- The numbers of the items behind j reads. -/
def wR (L0 : List Int) (R : Nat → Int) : Nat → List Int
  | 0 => L0
  | j + 1 => if hasI (fun p => (wR L0 R j).getD p 0) (R j) ((wR L0 R j).length / 3) = true then wR L0 R j else wR L0 R j ++ [R j, 3, 0]
theorem wR_has {L0 : List Int} {R : Nat → Int} {j m : Nat} (hm : (wR L0 R j).length = m * 3) (h : hasI (fun p => (wR L0 R j).getD p 0) (R j) m = true) : wR L0 R (j + 1) = wR L0 R j := by
  rw [wR, if_pos (by rw [hm, Nat.mul_div_cancel _ (by omega)]; exact h)]
theorem wR_new {L0 : List Int} {R : Nat → Int} {j m : Nat} (hm : (wR L0 R j).length = m * 3) (h : hasI (fun p => (wR L0 R j).getD p 0) (R j) m = false) : wR L0 R (j + 1) = wR L0 R j ++ [R j, 3, 0] := by
  rw [wR, if_neg (by rw [hm, Nat.mul_div_cancel _ (by omega), h]; exact Bool.false_ne_true)]
theorem wR_le (L0 : List Int) (R : Nat → Int) : ∀ j, (wR L0 R j).length ≤ L0.length + j * 3
  | 0 => by rw [wR]; omega
  | j + 1 => by
    have := wR_le L0 R j
    rw [wR]
    split
    · omega
    · simp; omega
theorem wR_three (L0 : List Int) (R : Nat → Int) (h : ∃ n, L0.length = n * 3) : ∀ j, ∃ m, (wR L0 R j).length = m * 3
  | 0 => h
  | j + 1 => by
    obtain ⟨m, hm⟩ := wR_three L0 R h j
    rw [wR]
    split
    · exact ⟨m, hm⟩
    · exact ⟨m + 1, by simp; omega⟩
theorem own_ownM {w : World} {B : Nat} {e : TypeId} {m n : Nat} {F : Nat → Int} {v : Value} (h : Own w B e m n F v) : OwnM w B e m v n (nums F (n * m)) := by
  unfold OwnM
  rw [nums_vals]
  exact h
theorem OwnM.len {w : World} {B : Nat} {e : TypeId} {m n : Nat} {v : Value} {L : List Int} (h : OwnM w B e m v n L) : L.length = n * m := by
  have := h.1
  simpa using this
theorem OwnM.rowL {w : World} {B : Nat} {e : TypeId} {m n : Nat} {v : Value} {L : List Int} (h : OwnM w B e m v n L) : Row w B m n (fun p => L.getD p 0) v ∧ Free w (n * m) v := (h.own h.len).row
theorem OwnM.capOk {w : World} {B : Nat} {e : TypeId} {m n : Nat} {v : Value} {L : List Int} (h : OwnM w B e m v n L) : CapOk v := by
  obtain ⟨ao, cp, rfl⟩ := h.form
  intro ao' n' cp' hv
  have := h.cap
  simp only [Value.slice.injEq] at hv
  omega
theorem row_litT (w : World) (x0 x1 x2 : Int) (t : TypeId) (b : Nat) (hb : w.heap.size = b) : Row (w.alloc (.cells #[.int .i64 x0, .int .i64 x1, .int .i64 x2] t)) 0 3 1 (fun p => [x0, x1, x2].getD p 0) (.slice (some ⟨b, 0, none⟩) 1 1) := by
  subst hb
  refine ⟨_, _, rfl, fun _ => ⟨w.heap.size, 0, rfl, Nat.zero_le _, by simp, fun p hp => ?_⟩⟩
  rw [Nat.zero_add]
  match p, hp with
  | 0, _ => exact World.cell?_alloc_mark w _ _ _ 0
  | 1, _ => exact World.cell?_alloc_mark w _ _ _ 1
  | 2, _ => exact World.cell?_alloc_mark w _ _ _ 2
theorem nums_lit (x0 x1 x2 : Int) : nums (fun p => [x0, x1, x2].getD p 0) (1 * 3) = [x0, x1, x2] := rfl
theorem Row.at1 {w : World} {B n : Nat} {F : Nat → Int} {ao : Option Addr} {cp : Nat} (h : Row w B 1 n F (.slice ao n cp)) {k : Nat} (hk : k < n) :
    ∃ g o, ao = some ⟨g, o, none⟩ ∧ B ≤ g ∧ g < w.heap.size ∧ w.cell? ⟨g, o + k, none⟩ = some (.int .i64 (F k)) := by
  obtain ⟨g, o, ha, hB, hg, hc⟩ := h.at hk
  exact ⟨g, o, ha, hB, hg, by have := hc 0 (by omega); simpa using this⟩
theorem grown_below {w x x' : World} {row : Option Nat} (h : Below w.heap.size w x) (hg : x.grownBy x' row) (hr : ∀ b, row = some b → w.heap.size ≤ b) : Below w.heap.size w x' := below_grownBy h h.size hr hg
set_option maxRecDepth 100000 in
set_option maxHeartbeats 4000000 in
theorem withReads_is (yw yr : Value) (Bw Br n nr : Nat) (F R : Nat → Int) (w : World) (hw : Row w Bw 3 n F yw) (hr : Row w Br 1 nr R yr) (hn : n ≤ 1048576) (hnr : nr ≤ 12) :
    Calls Try.prog 42 #[yw, yr] w fun e w' => ∃ m ao cp, e = .returned (.slice ao m cp) ∧ OwnM w' w.heap.size 35 3 (.slice ao m cp) m (wR (nums F (n * 3)) R nr) ∧ Below w.heap.size w w' := by
  obtain ⟨aw, cw, rfl⟩ := hw.form
  obtain ⟨ar, cr, rfl⟩ := hr.form
  have H : Hid (Row w Bw 3 n F (.slice aw n cw)) := hw
  have HR : Hid (Row w Br 1 nr R (.slice ar nr cr)) := hr
  clear hw hr
  obtain ⟨i0, hi, hz0, hz1, hz2⟩ := info_parts infoz_Item
  go_enter Try.func42, Try.ntmps42
  go_wp2_with fail
  refine (cloneItems_any n F _ Bw _ H.out hn).mono ?_
  rintro e w1 ⟨v1, rfl, o1, q1⟩
  have O1 : Hid (OwnM w1 w.heap.size 35 3 v1 n (nums F (n * 3)) ∧ Below w.heap.size w w1) := ⟨own_ownM o1, q1⟩
  clear o1 q1
  go_wp2
  go_loopw [5, 12] (fun v i wr => ∃ (j m : Nat), j ≤ nr ∧ i = .int .i64 j ∧ Hid (OwnM wr w.heap.size 35 3 v m (wR (nums F (n * 3)) R j) ∧ Below w.heap.size w wr)) (fun _ i _ => nr - (intOf i).toNat)
  case atStart => exact ⟨0, n, Nat.zero_le _, rfl, O1⟩
  case round =>
    obtain ⟨j, m, hj, rfl, HS⟩ := hrel
    obtain ⟨av, cv, rfl⟩ := HS.out.1.form
    by_cases hlt : j < nr
    case neg =>
      obtain rfl : nr = j := by omega
      clear O1
      go_wp2
      go_ret
      exact ⟨m, av, cv, rfl, HS.out.1, HS.out.2⟩
    obtain ⟨g, o, rfl, _, hg, x0⟩ := (HR.out.later HS.out.2).at1 hlt
    obtain ⟨n0, N0⟩ : ∃ x, R j = x := ⟨_, rfl⟩
    rw [N0] at x0
    have NN : Hid (R j = n0) := N0
    have HL : Hid ((wR (nums F (n * 3)) R j).length = m * 3) := HS.out.1.len
    have HM : m ≤ 1048588 := by
      have h1 := wR_le (nums F (n * 3)) R j
      have h2 := HL.out
      rw [nums_length] at h1
      omega
    obtain ⟨r, hr⟩ : ∃ r, hasI (fun p => (wR (nums F (n * 3)) R j).getD p 0) n0 m = r := ⟨_, rfl⟩
    have HH : Hid (hasI (fun p => (wR (nums F (n * 3)) R j).getD p 0) n0 m = r) := hr
    have HH' : Hid (hasI (fun p => (wR (nums F (n * 3)) R j).getD p 0) (R j) m = r) := by unfold Hid; rw [NN.out]; exact hr
    clear hr N0 O1
    cases r with
    | true =>
      have E : Hid (wR (nums F (n * 3)) R (j + 1) = wR (nums F (n * 3)) R j) := wR_has HL.out HH'.out
      go_wp2_with fail
      refine (keyAmong_is _ w.heap.size m _ n0 true HH.out _ HS.out.1.rowL.1 (by omega)).mono ?_
      rintro e w2 ⟨rfl, q2⟩
      have HS2 : Hid (OwnM w2 w.heap.size 35 3 (.slice av m cv) m (wR (nums F (n * 3)) R (j + 1)) ∧ Below w.heap.size w w2) := by
        unfold Hid
        rw [E.out]
        exact ⟨HS.out.1.later q2, HS.out.2.trans (q2.mono HS.out.2.size)⟩
      clear q2 HS x0
      go_wp2
      go_roundw
      case rel => exact ⟨j + 1, m, by omega, by go_num, HS2⟩
      case measure => simp [intOf]; omega
    | false =>
      have E : Hid (wR (nums F (n * 3)) R (j + 1) = wR (nums F (n * 3)) R j ++ [n0, 3, 0]) := by
        unfold Hid
        rw [wR_new HL.out HH'.out, NN.out]
      go_wp2_with fail
      refine (keyAmong_is _ w.heap.size m _ n0 false HH.out _ HS.out.1.rowL.1 (by omega)).mono ?_
      rintro e w2 ⟨rfl, q2⟩
      have HS2 : Hid (OwnM w2 w.heap.size 35 3 (.slice av m cv) m (wR (nums F (n * 3)) R j) ∧ Below w.heap.size w w2) := ⟨HS.out.1.later q2, HS.out.2.trans (q2.mono HS.out.2.size)⟩
      have hbs : w.heap.size ≤ w2.heap.size := HS2.out.2.size
      clear q2 HS x0 HH HH' HL
      go_wp2_with (at_builtin; refine wpList_appX 35 i0 (.agg #[.int .i64 0, .int .i64 0, .int .i64 0]) 3 24 rfl _ _ 25 rfl Try.underlying25 hi hz0 hz1 hz2 rfl (by omega) (by omega) _ w.heap.size m (wR (nums F (n * 3)) R j) (.slice av m cv) rfl (HS2.out.1.later (below_alloc _ _)) 0 1 (fun p => [n0, 3, 0].getD p 0) _ rfl (row_litT _ n0 3 0 _ _ (by simp)) (by omega) (by simp; omega) ?_; intro ao1 cp1 w3 O3 G3 _)
      have HS3 : Hid (OwnM w3 w.heap.size 35 3 (.slice ao1 (m + 1) cp1) (m + 1) (wR (nums F (n * 3)) R (j + 1)) ∧ Below w.heap.size w w3) := by
        unfold Hid
        rw [E.out]
        exact ⟨O3, grown_below (HS2.out.2.alloc HS2.out.2.size _) G3 (fun b hb => (HS2.out.1.block b hb).1)⟩
      clear O3 G3 HS2
      go_wp2
      go_roundw
      case rel => exact ⟨j + 1, m + 1, by omega, by go_num, HS3⟩
      case measure => simp [intOf]; omega
end Go.Proofs.Ytjimckfkbkfggaa
