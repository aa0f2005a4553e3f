/-
  Own text, merged of RegT, KeysA, KeysB, KeysC, ColsA, TxnB, TxnC, TxnD, FsA, FsC, IntsA, ColsZ, AppR, AppT, TxnL, FsE, MarkA, FsF, LawE, StorQ, PartA, ColsP, ColsM, ColsN, ColsR, ColsF, DelB, StorA, CopyA, CmtD.
-/
import Derived.Test.YtnchaccgenfhoaaGreatRows
import Derived.Deep.RegionHeld
import Derived.WalkKit
import Derived.RowKitTokens
import Derived.WalkLawsBesides
import Derived.ProofKit
import Derived.OpenShut
import Derived.Handy
import Derived.BigQuiet
import Derived.Deep.QuietTactic
import Derived.Deep.Slices
import Derived.Lib.SmallJoins
import Derived.Deep.Onto
import Derived.Laws.OwnMore
import Derived.OwnWalk
import Derived.Laws.AppendOwn
import Derived.Deep.AppendLies
import Derived.Laws.AppendOwnNone
import Derived.Laws.Tables
import Derived.Laws.Rows
import Derived.Maps.OwnSet
import Derived.DeepKeys4
import Derived.Lib.SliceRun
import Derived.Deep.DeepCutAuto
import Derived.Laws.IdiomCopy
import Derived.Laws.Externs
import Derived.Lib.Overlaps
import Derived.Lib.AppendZerosOnto
import Derived.Deep.RegionLaw
import Derived.ArgAppend
import Derived.Deep.AppendSrc
import Derived.Recover
import Derived.Deep.Cut
import Derived.Laws.StructEq
import Derived.WalkSmall
import Derived.ShutString
import Derived.ChangeOld
import Derived.Below
namespace Go.Proofs.YtnchaccgenfhoaaGreat
open Go.RowKit
theorem tkH {P : Program} {ops : Array Oper} {Q : Exit → Act → World → Prop} {md : Region.Mode} {S : World → Prop} (i : Nat) {oi : Oper} (v : Value) {fuel : Nat} {listed : Array Bool} {a : Act} {w : World} (hS : S w) (hy : ∀ w, S w → (execOp a.eval oi).run P w = .ok (.value v) w) (h : wpAnyH P md ops Q S fuel (listed.setIfInBounds i true) (a.put oi.dst v) w) (hi : ops[i]? = some oi := by exact rfl) (hs : Region.noSelect ops = true := by as_aux_lemma => kernel_rfl) (hf : Region.free md ops listed i = true := by as_aux_lemma => kernel_rfl) (hr : (Region.ready md ops listed).contains i = true := by as_aux_lemma => kernel_rfl) (hQ : ∀ c a w, Q (.panic c) (a.put oi.dst v) w → Q (.panic c) a w := by exact fun _ _ _ h => h) (hw : Region.wanted oi (yielded ops a.tmps) = true := by kernel_rfl) : wpAnyH P md ops Q S (fuel + 1) listed a w :=
  wpAnyH_take hi hs hf hr hQ (Or.inl ⟨hw, hy⟩) hS h
theorem noH {P : Program} {ops : Array Oper} {Q : Exit → Act → World → Prop} {md : Region.Mode} {S : World → Prop} (i : Nat) {oi : Oper} {fuel : Nat} {listed : Array Bool} {a : Act} {w : World} (hS : S w) (h : wpAnyH P md ops Q S fuel (listed.setIfInBounds i true) (a.put oi.dst undef) w) (hi : ops[i]? = some oi := by exact rfl) (hs : Region.noSelect ops = true := by as_aux_lemma => kernel_rfl) (hf : Region.free md ops listed i = true := by as_aux_lemma => kernel_rfl) (hr : (Region.ready md ops listed).contains i = true := by as_aux_lemma => kernel_rfl) (hQ : ∀ c a w, Q (.panic c) (a.put oi.dst undef) w → Q (.panic c) a w := by exact fun _ _ _ h => h) (hw : Region.wanted oi (yielded ops a.tmps) = false := by kernel_rfl) : wpAnyH P md ops Q S (fuel + 1) listed a w :=
  wpAnyH_take hi hs hf hr hQ (Or.inr ⟨hw, rfl⟩) hS h
theorem rdH {P : Program} {ops : Array Oper} {Q : Exit → Act → World → Prop} {md : Region.Mode} {S : World → Prop} (i : Nat) {o : Oper} {fuel : Nat} {listed : Array Bool} {a : Act} {w : World} (h : ∀ K' : Act → World → Prop, Shut (∀ a w, S w → (S w → wpAnyH P md ops Q S fuel (listed.setIfInBounds i true) a w) → K' a w) → if Region.wanted o (yielded ops a.tmps) = true then Oper.wp P o a w K' Q else K' (a.put o.dst undef) w) (ho : ops[i]? = some o := by exact rfl) (hr : Region.ready md ops listed = [i] := by as_aux_lemma => kernel_rfl) : wpAnyH P md ops Q S (fuel + 1) listed a w :=
  wpAnyH_ready hr (List.cons_ne_nil _ _) (AllReadyH.cons ho h AllReadyH.nil)
end Go.Proofs.YtnchaccgenfhoaaGreat

namespace Go.Proofs.YtnchaccgenfhoaaGreat
open Go.RowKit

theorem fl_back_fin : ∀ n : Fin 200, floatToIntVal .f64 (floatOfInt .f64 (n.val : Int)) .i64 = some (n.val : Int) := by decide +kernel
theorem fl_back (n : Int) (h0 : 0 ≤ n) (h1 : n ≤ 199) : floatToIntVal .f64 (floatOfInt .f64 n) .i64 = some n := by
  have := fl_back_fin ⟨n.toNat, by omega⟩
  simpa [Int.toNat_of_nonneg h0] using this
/-- A small number comes back out of its float. -/
theorem run_to_int (n : Int) (h0 : 0 ≤ n) (h1 : n ≤ 199) (w : World) : (convert 150 2 (.float .f64 (floatOfInt .f64 n))).run Tryz.prog w = .ok (.int .i64 n) w :=
  run_convert_float_int w _ _ _ _ _ _ (by rw [Tryz.underlying150]; rfl) Tryz.underlying2 (fl_back n h0 h1)

/-- What is told of a key: 0 it stands for something, 1 for nothing, 3 it leaves its bounds. -/
def faultOf (key : Int) : Int :=
  if key < 0 ∨ 199 < key then 3
  else if key = 0 ∨ (10 ≤ key ∧ key ≤ 19) ∨ (180 ≤ key ∧ key ≤ 189) ∨ (20 ≤ key ∧ key ≤ 119 ∧ key % 10 ≤ 5) then 0 else 1
theorem faultOf_range {key : Int} (h : key < 0 ∨ 199 < key) : faultOf key = 3 := by unfold faultOf; rw [if_pos h]
theorem faultOf_ok {key : Int} (h : key = 0 ∨ (10 ≤ key ∧ key ≤ 19) ∨ (180 ≤ key ∧ key ≤ 189) ∨ (20 ≤ key ∧ key ≤ 119 ∧ key % 10 ≤ 5)) : faultOf key = 0 := by
  unfold faultOf; rw [if_neg (by omega), if_pos h]
theorem faultOf_form {key : Int} (h0 : 0 ≤ key) (h1 : key ≤ 199) (h : ¬ (key = 0 ∨ (10 ≤ key ∧ key ≤ 19) ∨ (180 ≤ key ∧ key ≤ 189) ∨ (20 ≤ key ∧ key ≤ 119 ∧ key % 10 ≤ 5))) : faultOf key = 1 := by
  unfold faultOf; rw [if_neg (by omega), if_neg h]
set_option maxHeartbeats 400000 in
theorem l1Fault_any (key : Int) (w : World) :
    Calls Tryz.prog 82 #[.int .i64 key] w fun e w' => e = .returned (.int .i64 (faultOf key)) ∧ w' = w := by
  by_cases hlo : key < 0
  · rw [faultOf_range (Or.inl hlo)]
    go_enter Tryz.func82, Tryz.ntmps82
    go_wp2
    go_ret
    exact ⟨rfl, rfl⟩
  by_cases hhi : 199 < key
  · rw [faultOf_range (Or.inr hhi)]
    have d1 : decide (key ≤ 199) = false := decide_eq_false (by omega)
    go_enter Tryz.func82, Tryz.ntmps82
    go_wp2
    go_ret
    exact ⟨rfl, rfl⟩
  have d1 : decide (key ≤ 199) = true := decide_eq_true (by omega)
  by_cases hz : key = 0
  · subst hz
    rw [faultOf_ok (Or.inl rfl)]
    go_enter Tryz.func82, Tryz.ntmps82
    go_wp2
    go_ret
    exact ⟨rfl, rfl⟩
  have d0 : (key == 0) = false := beq_eq_false_iff_ne.2 hz
  by_cases h9 : key < 10
  · rw [faultOf_form (by omega) (by omega) (by omega)]
    go_enter Tryz.func82, Tryz.ntmps82
    go_wp2
    go_ret
    exact ⟨rfl, rfl⟩
  by_cases h19 : key < 20
  · rw [faultOf_ok (by omega)]
    have d2 : decide (key ≤ 19) = true := decide_eq_true (by omega)
    go_enter Tryz.func82, Tryz.ntmps82
    go_wp2
    go_ret
    exact ⟨rfl, rfl⟩
  have d2 : decide (key ≤ 19) = false := decide_eq_false (by omega)
  by_cases h119 : key < 120
  · have d4 : decide (key ≤ 119) = true := decide_eq_true (by omega)
    by_cases h5 : key % 10 ≤ 5
    · rw [faultOf_ok (by omega)]
      have d5 : decide (key % 10 ≤ 5) = true := decide_eq_true h5
      go_enter Tryz.func82, Tryz.ntmps82
      go_wp2
      go_ret
      exact ⟨rfl, rfl⟩
    · rw [faultOf_form (by omega) (by omega) (by omega)]
      have d5 : decide (key % 10 ≤ 5) = false := decide_eq_false h5
      go_enter Tryz.func82, Tryz.ntmps82
      go_wp2
      go_ret
      exact ⟨rfl, rfl⟩
  have d4 : decide (key ≤ 119) = false := decide_eq_false (by omega)
  by_cases h179 : key < 180
  · rw [faultOf_form (by omega) (by omega) (by omega)]
    go_enter Tryz.func82, Tryz.ntmps82
    go_wp2
    go_ret
    exact ⟨rfl, rfl⟩
  by_cases h189 : key < 190
  · rw [faultOf_ok (by omega)]
    have d6 : decide (key ≤ 189) = true := decide_eq_true (by omega)
    go_enter Tryz.func82, Tryz.ntmps82
    go_wp2
    go_ret
    exact ⟨rfl, rfl⟩
  have d6 : decide (key ≤ 189) = false := decide_eq_false (by omega)
  rw [faultOf_form (by omega) (by omega) (by omega)]
  go_enter Tryz.func82, Tryz.ntmps82
  go_wp2
  go_ret
  exact ⟨rfl, rfl⟩
end Go.Proofs.YtnchaccgenfhoaaGreat

namespace Go.Proofs.YtnchaccgenfhoaaGreat
open Go.RowKit

/-- The kind of a key from 0 to 199, and where its kind begins. -/
def kindAt (key : Int) : Int := if key < 10 then 0 else if key < 20 then 1 else if key < 180 then 2 else 3
def firstAt (key : Int) : Int := if key < 10 then 0 else if key < 20 then 10 else if key < 180 then 20 else 180

set_option maxHeartbeats 400000 in
theorem tellKey_any (key : Int) (w : World) (h0 : 0 ≤ key) (h1 : key ≤ 199) :
    Calls Tryz.prog 87 #[.int .i64 key] w fun e w' => e = .returned (.complex .f64 (floatOfInt .f64 (kindAt key)) (floatOfInt .f64 (key - firstAt key))) ∧ w' = w := by
  by_cases h180 : 180 ≤ key
  · have e1 : kindAt key = 3 := by unfold kindAt; repeat rw [if_neg (by omega)]
    have e2 : firstAt key = 180 := by unfold firstAt; repeat rw [if_neg (by omega)]
    rw [e1, e2]; clear e1 e2
    go_enter Tryz.func87, Tryz.ntmps87
    go_wp2
    go_rounds 1
    go_ret
    exact ⟨rfl, rfl⟩
  by_cases h20 : 20 ≤ key
  · have e1 : kindAt key = 2 := by unfold kindAt; rw [if_neg (by omega), if_neg (by omega), if_pos (by omega)]
    have e2 : firstAt key = 20 := by unfold firstAt; rw [if_neg (by omega), if_neg (by omega), if_pos (by omega)]
    rw [e1, e2]; clear e1 e2
    go_enter Tryz.func87, Tryz.ntmps87
    go_wp2
    go_rounds 2
    go_ret
    exact ⟨rfl, rfl⟩
  by_cases h10 : 10 ≤ key
  · have e1 : kindAt key = 1 := by unfold kindAt; rw [if_neg (by omega), if_pos (by omega)]
    have e2 : firstAt key = 10 := by unfold firstAt; rw [if_neg (by omega), if_pos (by omega)]
    rw [e1, e2]; clear e1 e2
    go_enter Tryz.func87, Tryz.ntmps87
    go_wp2
    go_rounds 3
    go_ret
    exact ⟨rfl, rfl⟩
  · have e1 : kindAt key = 0 := by unfold kindAt; rw [if_pos (by omega)]
    have e2 : firstAt key = 0 := by unfold firstAt; rw [if_pos (by omega)]
    rw [e1, e2]; clear e1 e2
    go_enter Tryz.func87, Tryz.ntmps87
    go_wp2
    go_rounds 4
    go_ret
    exact ⟨by simp, rfl⟩

theorem kindAt_0 {key : Int} (h : key < 10) : kindAt key = 0 ∧ firstAt key = 0 := by unfold kindAt firstAt; rw [if_pos h, if_pos h]; exact ⟨rfl, rfl⟩
theorem kindAt_1 {key : Int} (h : 10 ≤ key) (h' : key < 20) : kindAt key = 1 ∧ firstAt key = 10 := by
  unfold kindAt firstAt; rw [if_neg (by omega), if_pos h', if_neg (by omega), if_pos h']; exact ⟨rfl, rfl⟩
theorem kindAt_2 {key : Int} (h : 20 ≤ key) (h' : key < 180) : kindAt key = 2 ∧ firstAt key = 20 := by
  unfold kindAt firstAt; rw [if_neg (by omega), if_neg (by omega), if_pos h', if_neg (by omega), if_neg (by omega), if_pos h']; exact ⟨rfl, rfl⟩
theorem kindAt_3 {key : Int} (h : 180 ≤ key) : kindAt key = 3 ∧ firstAt key = 180 := by
  unfold kindAt firstAt; rw [if_neg (by omega), if_neg (by omega), if_neg (by omega), if_neg (by omega), if_neg (by omega), if_neg (by omega)]; exact ⟨rfl, rfl⟩

set_option maxHeartbeats 400000 in
theorem partsTold_entry (r : Int) (w : World) (h0 : 0 ≤ r) (h1 : r ≤ 199) :
    Calls Tryz.prog 86 #[.complex .f64 (floatOfInt .f64 2) (floatOfInt .f64 r)] w fun e w' => e = .returned (.tuple #[.int .i64 2, .int .i64 (r / 10), .int .i64 (r % 10)]) ∧ w' = w := by
  have k2 := fun w => run_to_int 2 (by omega) (by omega) w
  have kr := fun w => run_to_int r h0 h1 w
  go_enter Tryz.func86, Tryz.ntmps86
  go_wp2
  go_ret3
  exact ⟨rfl, rfl⟩
set_option maxHeartbeats 400000 in
theorem partsTold_other (k r : Int) (w : World) (hk0 : 0 ≤ k) (hk3 : k ≤ 3) (hk : (k == 2) = false) (h0 : 0 ≤ r) (h1 : r ≤ 199) :
    Calls Tryz.prog 86 #[.complex .f64 (floatOfInt .f64 k) (floatOfInt .f64 r)] w fun e w' => e = .returned (.tuple #[.int .i64 k, .int .i64 r, .int .i64 0]) ∧ w' = w := by
  have k2 := fun w => run_to_int k hk0 (by omega) w
  have kr := fun w => run_to_int r h0 h1 w
  go_enter Tryz.func86, Tryz.ntmps86
  go_wp2
  go_ret3
  exact ⟨rfl, rfl⟩

set_option maxHeartbeats 1000000 in
theorem keyFault_any (key : Int) (w : World) :
    Calls Tryz.prog 62 #[.int .i64 key] w fun e w' => e = .returned (.int .i64 (faultOf key)) ∧ w' = w := by
  by_cases hlo : key < 0
  · rw [faultOf_range (Or.inl hlo)]
    go_enter Tryz.func62, Tryz.ntmps62
    go_wp2
    go_ret
    exact ⟨rfl, rfl⟩
  by_cases hhi : 199 < key
  · rw [faultOf_range (Or.inr hhi)]
    go_enter Tryz.func62, Tryz.ntmps62
    go_wp2
    go_ret
    exact ⟨rfl, rfl⟩
  by_cases h10 : key < 10
  · have HE := kindAt_0 h10
    by_cases hz : key = 0
    · subst hz
      rw [faultOf_ok (Or.inl rfl)]
      go_enter Tryz.func62, Tryz.ntmps62
      go_wp2_with fail
      refine (tellKey_any _ _ (by omega) (by omega)).mono ?_
      rintro e w' ⟨rfl, rfl⟩
      rw [HE.1, HE.2]; clear HE
      go_wp2_with fail
      refine (partsTold_other _ _ _ (by omega) (by omega) rfl (by omega) (by omega)).mono ?_
      rintro e w' ⟨rfl, rfl⟩
      go_wp2
      go_ret
      exact ⟨rfl, rfl⟩
    · rw [faultOf_form (by omega) (by omega) (by omega)]
      have d0 : (key == 0) = false := beq_eq_false_iff_ne.2 hz
      go_enter Tryz.func62, Tryz.ntmps62
      go_wp2_with fail
      refine (tellKey_any _ _ (by omega) (by omega)).mono ?_
      rintro e w' ⟨rfl, rfl⟩
      rw [HE.1, HE.2]; clear HE
      go_wp2_with fail
      refine (partsTold_other _ _ _ (by omega) (by omega) rfl (by omega) (by omega)).mono ?_
      rintro e w' ⟨rfl, rfl⟩
      go_wp2
      go_ret
      exact ⟨rfl, rfl⟩
  by_cases h20 : key < 20
  · have HE := kindAt_1 (by omega) h20
    rw [faultOf_ok (by omega)]
    go_enter Tryz.func62, Tryz.ntmps62
    go_wp2_with fail
    refine (tellKey_any _ _ (by omega) (by omega)).mono ?_
    rintro e w' ⟨rfl, rfl⟩
    rw [HE.1, HE.2]; clear HE
    go_wp2_with fail
    refine (partsTold_other _ _ _ (by omega) (by omega) rfl (by omega) (by omega)).mono ?_
    rintro e w' ⟨rfl, rfl⟩
    go_wp2
    go_ret
    exact ⟨rfl, rfl⟩
  by_cases h180 : key < 180
  · have HE := kindAt_2 (by omega) h180
    by_cases hok : key < 120 ∧ key % 10 ≤ 5
    · rw [faultOf_ok (by omega)]
      have b1 : (key - 20) / 10 ≤ 9 := by omega
      have b2 : 0 ≤ (key - 20) / 10 := by omega
      have b3 : (key - 20) % 10 ≤ 5 := by omega
      have b4 : 0 ≤ (key - 20) % 10 := by omega
      clear hok
      go_enter Tryz.func62, Tryz.ntmps62
      go_wp2_with fail
      refine (tellKey_any _ _ (by omega) (by omega)).mono ?_
      rintro e w' ⟨rfl, rfl⟩
      rw [HE.1, HE.2]; clear HE
      go_wp2_with fail
      refine (partsTold_entry _ _ (by omega) (by omega)).mono ?_
      rintro e w' ⟨rfl, rfl⟩
      go_wp2
      go_ret
      exact ⟨rfl, rfl⟩
    · rw [faultOf_form (by omega) (by omega) (by omega)]
      have b2 : 0 ≤ (key - 20) / 10 := by omega
      have b4 : 0 ≤ (key - 20) % 10 := by omega
      by_cases b1 : (key - 20) / 10 ≤ 9
      · have b3 : 5 < (key - 20) % 10 := by omega
        have d3 : decide (5 < (key - 20) % 10) = true := decide_eq_true b3
        clear hok
        go_enter Tryz.func62, Tryz.ntmps62
        go_wp2_with fail
        refine (tellKey_any _ _ (by omega) (by omega)).mono ?_
        rintro e w' ⟨rfl, rfl⟩
        rw [HE.1, HE.2]; clear HE
        go_wp2_with fail
        refine (partsTold_entry _ _ (by omega) (by omega)).mono ?_
        rintro e w' ⟨rfl, rfl⟩
        go_wp2
        go_ret
        exact ⟨rfl, rfl⟩
      · have b3 : 9 < (key - 20) / 10 := by omega
        have d3 : decide (9 < (key - 20) / 10) = true := decide_eq_true b3
        clear hok b1
        go_enter Tryz.func62, Tryz.ntmps62
        go_wp2_with fail
        refine (tellKey_any _ _ (by omega) (by omega)).mono ?_
        rintro e w' ⟨rfl, rfl⟩
        rw [HE.1, HE.2]; clear HE
        go_wp2_with fail
        refine (partsTold_entry _ _ (by omega) (by omega)).mono ?_
        rintro e w' ⟨rfl, rfl⟩
        go_wp2
        go_ret
        exact ⟨rfl, rfl⟩
  · have HE := kindAt_3 (key := key) (by omega)
    by_cases hok : key < 190
    focus
      rw [faultOf_ok (by omega)]
    rotate_left
    focus
      rw [faultOf_form (by omega) (by omega) (by omega)]
      have d3 : decide (9 < key - 180) = true := decide_eq_true (by omega)
    rotate_left
    all_goals
      go_enter Tryz.func62, Tryz.ntmps62
      go_wp2_with fail
      refine (tellKey_any _ _ (by omega) (by omega)).mono ?_
      rintro e w' ⟨rfl, rfl⟩
      rw [HE.1, HE.2]; clear HE
      go_wp2_with fail
      refine (partsTold_other _ _ _ (by omega) (by omega) rfl (by omega) (by omega)).mono ?_
      rintro e w' ⟨rfl, rfl⟩
      go_wp2
      go_ret
      exact ⟨rfl, rfl⟩
end Go.Proofs.YtnchaccgenfhoaaGreat

namespace Go.Proofs.YtnchaccgenfhoaaGreat
open Go.RowKit

/-- The code and the key of a kind and its parts. -/
def ofBoth (k a b : Int) : Int × Int :=
  if k < 0 ∨ 3 < k then (1, 0)
  else if a < 0 ∨ 9 < a ∨ b < 0 ∨ 5 < b ∨ (k = 0 ∧ a ≠ 0) ∨ (k ≠ 2 ∧ b ≠ 0) then (3, 0)
  else (0, if k = 1 then 10 + a else if k = 2 then 20 + 10 * a + b else if k = 3 then 180 + a else 0)
theorem ofBoth_form {k a b : Int} (h : k < 0 ∨ 3 < k) : ofBoth k a b = (1, 0) := by unfold ofBoth; rw [if_pos h]
theorem ofBoth_range {k a b : Int} (h0 : 0 ≤ k) (h3 : k ≤ 3) (h : a < 0 ∨ 9 < a ∨ b < 0 ∨ 5 < b ∨ (k = 0 ∧ a ≠ 0) ∨ (k ≠ 2 ∧ b ≠ 0)) : ofBoth k a b = (3, 0) := by
  unfold ofBoth; rw [if_neg (by omega), if_pos h]
theorem ofBoth_ok {k a b : Int} (h0 : 0 ≤ k) (h3 : k ≤ 3) (h : ¬ (a < 0 ∨ 9 < a ∨ b < 0 ∨ 5 < b ∨ (k = 0 ∧ a ≠ 0) ∨ (k ≠ 2 ∧ b ≠ 0))) :
    ofBoth k a b = (0, if k = 1 then 10 + a else if k = 2 then 20 + 10 * a + b else if k = 3 then 180 + a else 0) := by
  unfold ofBoth; rw [if_neg (by omega), if_neg h]

theorem fl_two : floatOfInt .f64 2 = 4611686018427387904 := by decide +kernel
set_option maxHeartbeats 400000 in
theorem tellParts_entry (a b : Int) (w : World) (ha : 0 ≤ a) (ha9 : a ≤ 9) (hb : 0 ≤ b) (hb5 : b ≤ 5) :
    Calls Tryz.prog 97 #[.int .i64 2, .int .i64 a, .int .i64 b] w fun e w' => e = .returned (.complex .f64 (floatOfInt .f64 2) (floatOfInt .f64 (a * 10 + b))) ∧ w' = w := by
  rw [fl_two]
  go_enter Tryz.func97, Tryz.ntmps97
  go_wp2
  go_ret
  exact ⟨rfl, rfl⟩
set_option maxHeartbeats 400000 in
theorem tellParts_other (k a b : Int) (w : World) (hk : (k == 2) = false) :
    Calls Tryz.prog 97 #[.int .i64 k, .int .i64 a, .int .i64 b] w fun e w' => e = .returned (.complex .f64 (floatOfInt .f64 k) (floatOfInt .f64 a)) ∧ w' = w := by
  go_enter Tryz.func97, Tryz.ntmps97
  go_wp2
  go_ret
  exact ⟨rfl, rfl⟩
/-- Where a kind begins. -/
def firstK (k : Int) : Int := if k = 1 then 10 else if k = 2 then 20 else if k = 3 then 180 else 0
set_option maxHeartbeats 400000 in
theorem keyTold_any (k r : Int) (w : World) (hk0 : 0 ≤ k) (hk3 : k ≤ 3) (h0 : 0 ≤ r) (h1 : r ≤ 199) :
    Calls Tryz.prog 96 #[.complex .f64 (floatOfInt .f64 k) (floatOfInt .f64 r)] w fun e w' => e = .returned (.int .i64 (firstK k + r)) ∧ w' = w := by
  have kr := fun w => run_to_int r h0 h1 w
  have kk := fun w => run_to_int k hk0 (by omega) w
  obtain rfl | rfl | rfl | rfl : k = 0 ∨ k = 1 ∨ k = 2 ∨ k = 3 := by omega
  all_goals
    go_enter Tryz.func96, Tryz.ntmps96
    go_wp2
    go_ret
    exact ⟨by simp [firstK], rfl⟩

theorem firstK_0 : firstK 0 + 0 = 0 := rfl
theorem firstK_1 : firstK 1 = 10 := rfl
theorem firstK_3 : firstK 3 = 180 := rfl
set_option maxHeartbeats 1000000 in
theorem implKeyOf_any (k a b : Int) (w : World) :
    Calls Tryz.prog 72 #[.int .i64 k, .int .i64 a, .int .i64 b] w fun e w' => e = .returned (.agg #[.int .i64 (ofBoth k a b).1, .int .i64 (ofBoth k a b).2]) ∧ w' = w.alloc (.cells #[.int .i64 (ofBoth k a b).1, .int .i64 (ofBoth k a b).2] 45) := by
  by_cases hlo : k < 0
  · rw [ofBoth_form (Or.inl hlo)]
    go_enter Tryz.func72, Tryz.ntmps72
    go_wp2
    exact bodyPost_ret (v := .agg #[.int .i64 1, .int .i64 0]) (by simp [results, Tryz.results72, go_sem]) rfl ⟨rfl, rfl⟩
  by_cases hhi : 3 < k
  · rw [ofBoth_form (Or.inr hhi)]
    have d1 : decide (k ≤ 3) = false := decide_eq_false (by omega)
    go_enter Tryz.func72, Tryz.ntmps72
    go_wp2
    exact bodyPost_ret (v := .agg #[.int .i64 1, .int .i64 0]) (by simp [results, Tryz.results72, go_sem]) rfl ⟨rfl, rfl⟩
  have d1 : decide (k ≤ 3) = true := decide_eq_true (by omega)
  by_cases ha : a < 0
  · rw [ofBoth_range (by omega) (by omega) (by omega)]
    go_enter Tryz.func72, Tryz.ntmps72
    go_wp2
    exact bodyPost_ret (v := .agg #[.int .i64 3, .int .i64 0]) (by simp [results, Tryz.results72, go_sem]) rfl ⟨rfl, rfl⟩
  by_cases ha9 : 9 < a
  · rw [ofBoth_range (by omega) (by omega) (by omega)]
    have d2 : decide (a ≤ 9) = false := decide_eq_false (by omega)
    go_enter Tryz.func72, Tryz.ntmps72
    go_wp2
    exact bodyPost_ret (v := .agg #[.int .i64 3, .int .i64 0]) (by simp [results, Tryz.results72, go_sem]) rfl ⟨rfl, rfl⟩
  have d2 : decide (a ≤ 9) = true := decide_eq_true (by omega)
  by_cases hb : b < 0
  · rw [ofBoth_range (by omega) (by omega) (by omega)]
    obtain rfl | rfl | rfl | rfl : k = 0 ∨ k = 1 ∨ k = 2 ∨ k = 3 := by omega
    · by_cases haz : a = 0
      · subst haz
        go_enter Tryz.func72, Tryz.ntmps72
        go_wp2
        exact bodyPost_ret (v := .agg #[.int .i64 3, .int .i64 0]) (by simp [results, Tryz.results72, go_sem]) rfl ⟨rfl, rfl⟩
      · have d3 : (a == 0) = false := beq_eq_false_iff_ne.2 haz
        have d4 : (a != 0) = true := by rw [bne_iff_ne]; exact haz
        go_enter Tryz.func72, Tryz.ntmps72
        go_wp2
        exact bodyPost_ret (v := .agg #[.int .i64 3, .int .i64 0]) (by simp [results, Tryz.results72, go_sem]) rfl ⟨rfl, rfl⟩
    · go_enter Tryz.func72, Tryz.ntmps72
      go_wp2
      exact bodyPost_ret (v := .agg #[.int .i64 3, .int .i64 0]) (by simp [results, Tryz.results72, go_sem]) rfl ⟨rfl, rfl⟩
    · go_enter Tryz.func72, Tryz.ntmps72
      go_wp2
      exact bodyPost_ret (v := .agg #[.int .i64 3, .int .i64 0]) (by simp [results, Tryz.results72, go_sem]) rfl ⟨rfl, rfl⟩
    · go_enter Tryz.func72, Tryz.ntmps72
      go_wp2
      exact bodyPost_ret (v := .agg #[.int .i64 3, .int .i64 0]) (by simp [results, Tryz.results72, go_sem]) rfl ⟨rfl, rfl⟩
  by_cases hb5 : 5 < b
  · rw [ofBoth_range (by omega) (by omega) (by omega)]
    have d5 : decide (b ≤ 5) = false := decide_eq_false (by omega)
    obtain rfl | rfl | rfl | rfl : k = 0 ∨ k = 1 ∨ k = 2 ∨ k = 3 := by omega
    · by_cases haz : a = 0
      · subst haz
        go_enter Tryz.func72, Tryz.ntmps72
        go_wp2
        exact bodyPost_ret (v := .agg #[.int .i64 3, .int .i64 0]) (by simp [results, Tryz.results72, go_sem]) rfl ⟨rfl, rfl⟩
      · have d3 : (a == 0) = false := beq_eq_false_iff_ne.2 haz
        have d4 : (a != 0) = true := by rw [bne_iff_ne]; exact haz
        go_enter Tryz.func72, Tryz.ntmps72
        go_wp2
        exact bodyPost_ret (v := .agg #[.int .i64 3, .int .i64 0]) (by simp [results, Tryz.results72, go_sem]) rfl ⟨rfl, rfl⟩
    · go_enter Tryz.func72, Tryz.ntmps72
      go_wp2
      exact bodyPost_ret (v := .agg #[.int .i64 3, .int .i64 0]) (by simp [results, Tryz.results72, go_sem]) rfl ⟨rfl, rfl⟩
    · go_enter Tryz.func72, Tryz.ntmps72
      go_wp2
      exact bodyPost_ret (v := .agg #[.int .i64 3, .int .i64 0]) (by simp [results, Tryz.results72, go_sem]) rfl ⟨rfl, rfl⟩
    · go_enter Tryz.func72, Tryz.ntmps72
      go_wp2
      exact bodyPost_ret (v := .agg #[.int .i64 3, .int .i64 0]) (by simp [results, Tryz.results72, go_sem]) rfl ⟨rfl, rfl⟩
  have d5 : decide (b ≤ 5) = true := decide_eq_true (by omega)
  obtain rfl | rfl | rfl | rfl : k = 0 ∨ k = 1 ∨ k = 2 ∨ k = 3 := by omega
  · by_cases haz : a = 0
    · subst haz
      by_cases hbz : b = 0
      · subst hbz
        rw [ofBoth_ok (by omega) (by omega) (by omega), if_neg (by omega), if_neg (by omega), if_neg (by omega)]
        go_enter Tryz.func72, Tryz.ntmps72
        go_wp2_with (first | (go_at_call 88; go_in) | fail)
        refine (tellParts_other _ _ _ _ rfl).mono ?_
        rintro e w' ⟨rfl, rfl⟩
        go_wp2_with fail
        refine (keyTold_any _ _ _ (by omega) (by omega) (by omega) (by omega)).mono ?_
        rintro e w' ⟨rfl, rfl⟩
        first | rw [firstK_0] | rw [firstK_1] | rw [firstK_3]
        go_wp2
        exact bodyPost_ret (v := .agg #[.int .i64 0, .int .i64 0]) (by simp [results, Tryz.results72, go_sem]) rfl ⟨rfl, rfl⟩
      · rw [ofBoth_range (by omega) (by omega) (by omega)]
        have d6 : (b == 0) = false := beq_eq_false_iff_ne.2 hbz
        have d7 : (b != 0) = true := by rw [bne_iff_ne]; exact hbz
        go_enter Tryz.func72, Tryz.ntmps72
        go_wp2
        exact bodyPost_ret (v := .agg #[.int .i64 3, .int .i64 0]) (by simp [results, Tryz.results72, go_sem]) rfl ⟨rfl, rfl⟩
    · rw [ofBoth_range (by omega) (by omega) (by omega)]
      have d3 : (a == 0) = false := beq_eq_false_iff_ne.2 haz
      have d4 : (a != 0) = true := by rw [bne_iff_ne]; exact haz
      go_enter Tryz.func72, Tryz.ntmps72
      go_wp2
      exact bodyPost_ret (v := .agg #[.int .i64 3, .int .i64 0]) (by simp [results, Tryz.results72, go_sem]) rfl ⟨rfl, rfl⟩
  · by_cases hbz : b = 0
    · subst hbz
      rw [ofBoth_ok (by omega) (by omega) (by omega), if_pos rfl]
      go_enter Tryz.func72, Tryz.ntmps72
      go_wp2_with (first | (go_at_call 88; go_in) | fail)
      refine (tellParts_other _ _ _ _ rfl).mono ?_
      rintro e w' ⟨rfl, rfl⟩
      go_wp2_with fail
      refine (keyTold_any _ _ _ (by omega) (by omega) (by omega) (by omega)).mono ?_
      rintro e w' ⟨rfl, rfl⟩
      first | rw [firstK_0] | rw [firstK_1] | rw [firstK_3]
      go_wp2
      exact bodyPost_ret (v := .agg #[.int .i64 0, .int .i64 (10 + a)]) (by simp [results, Tryz.results72, go_sem]) rfl ⟨rfl, rfl⟩
    · rw [ofBoth_range (by omega) (by omega) (by omega)]
      have d6 : (b == 0) = false := beq_eq_false_iff_ne.2 hbz
      have d7 : (b != 0) = true := by rw [bne_iff_ne]; exact hbz
      go_enter Tryz.func72, Tryz.ntmps72
      go_wp2
      exact bodyPost_ret (v := .agg #[.int .i64 3, .int .i64 0]) (by simp [results, Tryz.results72, go_sem]) rfl ⟨rfl, rfl⟩
  · rw [ofBoth_ok (by omega) (by omega) (by omega), if_neg (by omega), if_pos rfl]
    go_enter Tryz.func72, Tryz.ntmps72
    go_wp2_with (first | (go_at_call 88; go_in) | fail)
    refine (tellParts_entry _ _ _ (by omega) (by omega) (by omega) (by omega)).mono ?_
    rintro e w' ⟨rfl, rfl⟩
    go_wp2_with fail
    refine (keyTold_any _ _ _ (by omega) (by omega) (by omega) (by omega)).mono ?_
    rintro e w' ⟨rfl, rfl⟩
    have ev : firstK 2 + (a * 10 + b) = (20 + 10 * a + b) := by unfold firstK; rw [if_neg (by omega), if_pos rfl]; omega
    rw [ev]; clear ev
    go_wp2
    exact bodyPost_ret (v := .agg #[.int .i64 0, .int .i64 (20 + 10 * a + b)]) (by simp [results, Tryz.results72, go_sem]) rfl ⟨rfl, rfl⟩
  · by_cases hbz : b = 0
    · subst hbz
      rw [ofBoth_ok (by omega) (by omega) (by omega), if_neg (by omega), if_neg (by omega), if_pos rfl]
      go_enter Tryz.func72, Tryz.ntmps72
      go_wp2_with (first | (go_at_call 88; go_in) | fail)
      refine (tellParts_other _ _ _ _ rfl).mono ?_
      rintro e w' ⟨rfl, rfl⟩
      go_wp2_with fail
      refine (keyTold_any _ _ _ (by omega) (by omega) (by omega) (by omega)).mono ?_
      rintro e w' ⟨rfl, rfl⟩
      first | rw [firstK_0] | rw [firstK_1] | rw [firstK_3]
      go_wp2
      exact bodyPost_ret (v := .agg #[.int .i64 0, .int .i64 (180 + a)]) (by simp [results, Tryz.results72, go_sem]) rfl ⟨rfl, rfl⟩
    · rw [ofBoth_range (by omega) (by omega) (by omega)]
      have d6 : (b == 0) = false := beq_eq_false_iff_ne.2 hbz
      have d7 : (b != 0) = true := by rw [bne_iff_ne]; exact hbz
      go_enter Tryz.func72, Tryz.ntmps72
      go_wp2
      exact bodyPost_ret (v := .agg #[.int .i64 3, .int .i64 0]) (by simp [results, Tryz.results72, go_sem]) rfl ⟨rfl, rfl⟩
end Go.Proofs.YtnchaccgenfhoaaGreat

namespace Go.Proofs.YtnchaccgenfhoaaGreat
open Go.RowKit

/-- n elements of m whole numbers each, from block B on; number p of all of them is F p. -/
def Row (w : World) (B m n : Nat) (F : Nat → Int) (v : Value) : Prop :=
  ∃ ao cp, v = .slice ao n cp ∧ (0 < n → ∃ g o, ao = some ⟨g, o, none⟩ ∧ B ≤ g ∧ g < w.heap.size ∧ ∀ p, p < n * m → w.cell? ⟨g, o + p, none⟩ = some (.int .i64 (F p)))
/-- None of the first N places of the slice is frozen. -/
def Free (w : World) (N : Nat) (v : Value) : Prop := ∀ g o n c, v = .slice (some ⟨g, o, none⟩) n c → ∀ p, p < N → w.frozen? ⟨g, o + p, none⟩ = false

theorem Row.form {w : World} {B m n : Nat} {F : Nat → Int} {v : Value} (h : Row w B m n F v) : ∃ ao cp, v = .slice ao n cp := by
  obtain ⟨ao, cp, rfl, _⟩ := h; exact ⟨ao, cp, rfl⟩
theorem Row.at {w : World} {B m n : Nat} {F : Nat → Int} {ao : Option Addr} {cp : Nat} (h : Row w B m n F (.slice ao n cp)) {k : Nat} (hk : k < n) :
    ∃ g o, ao = some ⟨g, o, none⟩ ∧ B ≤ g ∧ g < w.heap.size ∧ ∀ j, j < m → w.cell? ⟨g, o + k * m + j, none⟩ = some (.int .i64 (F (k * m + j))) := by
  obtain ⟨ao', cp', hv, h⟩ := h
  simp only [Value.slice.injEq] at hv
  obtain ⟨rfl, _, rfl⟩ := hv
  obtain ⟨g, o, ha, hB, hg, hc⟩ := h (by omega)
  refine ⟨g, o, ha, hB, hg, fun j hj => ?_⟩
  rw [Nat.add_assoc]
  refine hc _ ?_
  calc k * m + j < k * m + m := by omega
    _ = (k + 1) * m := by rw [Nat.succ_mul]
    _ ≤ n * m := Nat.mul_le_mul_right m hk
theorem Row.kept {w w' : World} {B m n : Nat} {F : Nat → Int} {v : Value} (h : Row w B m n F v) (hs : w.heap.size ≤ w'.heap.size) (hb : ∀ k, v.ownBlock = some k → k < w.heap.size → w'.heap[k]? = w.heap[k]?) : Row w' B m n F v := by
  obtain ⟨ao, cp, rfl, h⟩ := h
  refine ⟨ao, cp, rfl, fun hn => ?_⟩
  obtain ⟨g, o, rfl, hB, hg, hc⟩ := h hn
  exact ⟨g, o, rfl, hB, Nat.lt_of_lt_of_le hg hs, fun p hp => (World.cell?_of_block (w := w) (hb g rfl hg)).trans (hc p hp)⟩
theorem Row.lt {w : World} {B m n : Nat} {F : Nat → Int} {v : Value} (h : Row w B m n F v) (hn : 0 < n) : ∀ k, v.ownBlock = some k → B ≤ k ∧ k < w.heap.size := by
  intro k hk
  obtain ⟨ao, cp, rfl, h⟩ := h
  obtain ⟨g, o, rfl, hB, hg, hc⟩ := h hn
  simp [Value.ownBlock] at hk
  subst hk
  exact ⟨hB, hg⟩
theorem Row.later {w w' : World} {B m n : Nat} {F : Nat → Int} {v : Value} (h : Row w B m n F v) (hb : Below w.heap.size w w') : Row w' B m n F v :=
  h.kept hb.size (fun k _ hk => hb.block k hk)
theorem Row.alloc {w : World} {B m n : Nat} {F : Nat → Int} {v : Value} (h : Row w B m n F v) (o : Obj) : Row (w.alloc o) B m n F v := h.later ((Below.refl _ _).alloc (Nat.le_refl _) o)
theorem Row.drewN {w : World} {B m n : Nat} {F : Nat → Int} {v : Value} (h : Row w B m n F v) (k : Nat) : Row (w.drewN k) B m n F v := h
theorem Row.mono {w : World} {B B' m n : Nat} {F : Nat → Int} {v : Value} (h : Row w B m n F v) (hB : B' ≤ B) : Row w B' m n F v := by
  obtain ⟨ao, cp, rfl, h⟩ := h
  refine ⟨ao, cp, rfl, fun hn => ?_⟩
  obtain ⟨g, o, rfl, hb, hg, hc⟩ := h hn
  exact ⟨g, o, rfl, by omega, hg, hc⟩
theorem Row.setCell {w : World} {B m n : Nat} {F : Nat → Int} {v : Value} (h : Row w B m n F v) {a : Addr} (ha : v.ownBlock ≠ some a.block) (u : Value) : Row (w.setCell a u) B m n F v :=
  h.kept (by simp [World.setCell]) (fun k hk _ => Below.heap_setCell w a u k (fun e => ha (by rw [hk, e])))
theorem Row.congr {w : World} {B m n : Nat} {F G : Nat → Int} {v : Value} (h : Row w B m n F v) (e : ∀ p, p < n * m → F p = G p) : Row w B m n G v := by
  obtain ⟨ao, cp, rfl, h⟩ := h
  refine ⟨ao, cp, rfl, fun hn => ?_⟩
  obtain ⟨g, o, rfl, hb, hg, hc⟩ := h hn
  exact ⟨g, o, rfl, hb, hg, fun p hp => by rw [← e p hp]; exact hc p hp⟩
theorem Row.at3 {w : World} {B n : Nat} {F : Nat → Int} {ao : Option Addr} {cp : Nat} (h : Row w B 3 n F (.slice ao n cp)) {k : Nat} (hk : k < n) :
    ∃ g o, ao = some ⟨g, o, none⟩ ∧ B ≤ g ∧ g < w.heap.size ∧ w.cell? ⟨g, o + k * 3, none⟩ = some (.int .i64 (F (k * 3))) ∧ w.cell? ⟨g, o + k * 3 + 1, none⟩ = some (.int .i64 (F (k * 3 + 1))) ∧ w.cell? ⟨g, o + k * 3 + 2, none⟩ = some (.int .i64 (F (k * 3 + 2))) := by
  obtain ⟨g, o, ha, hB, hg, hc⟩ := h.at hk
  exact ⟨g, o, ha, hB, hg, hc 0 (by omega), hc 1 (by omega), hc 2 (by omega)⟩
theorem Free.later {w w' : World} {N : Nat} {v : Value} (h : Free w N v) (hl : ∀ k, v.ownBlock = some k → k < w.heap.size) (hb : Below w.heap.size w w') : Free w' N v := by
  intro g o n c hv p hp
  rw [hb.frozen (hl g (by rw [hv]; rfl))]
  exact h g o n c hv p hp

/-- Block b holds three cells, none frozen. -/
def Blk3 (x : World) (b : Nat) (a0 a1 a2 : Value) : Prop :=
  (x.cell? ⟨b, 0, none⟩ = some a0 ∧ x.cell? ⟨b, 1, none⟩ = some a1 ∧ x.cell? ⟨b, 2, none⟩ = some a2) ∧ x.frozen? ⟨b, 0, none⟩ = false ∧ x.frozen? ⟨b, 1, none⟩ = false ∧ x.frozen? ⟨b, 2, none⟩ = false
theorem Blk3.kept {x x' : World} {b : Nat} {a0 a1 a2 : Value} (h : Blk3 x b a0 a1 a2) (hb : x'.heap[b]? = x.heap[b]?) : Blk3 x' b a0 a1 a2 := by
  obtain ⟨⟨h0, h1, h2⟩, f0, f1, f2⟩ := h
  exact ⟨⟨(World.cell?_of_block (w := x) (a := ⟨b, 0, none⟩) hb).trans h0, (World.cell?_of_block (w := x) (a := ⟨b, 1, none⟩) hb).trans h1, (World.cell?_of_block (w := x) (a := ⟨b, 2, none⟩) hb).trans h2⟩,
    (World.frozen?_of_block (w := x) (a := ⟨b, 0, none⟩) hb).trans f0, (World.frozen?_of_block (w := x) (a := ⟨b, 1, none⟩) hb).trans f1, (World.frozen?_of_block (w := x) (a := ⟨b, 2, none⟩) hb).trans f2⟩
theorem Blk3.lt {x : World} {b : Nat} {a0 a1 a2 : Value} (h : Blk3 x b a0 a1 a2) : b < x.heap.size := World.block_lt_of_cell? x _ h.1.1
theorem Blk3.later {x x' : World} {b : Nat} {a0 a1 a2 : Value} (h : Blk3 x b a0 a1 a2) (hb : Below x.heap.size x x') : Blk3 x' b a0 a1 a2 := h.kept (hb.block b h.lt)
theorem Blk3.alloc {x : World} {b : Nat} {a0 a1 a2 : Value} (h : Blk3 x b a0 a1 a2) (o : Obj) : Blk3 (x.alloc o) b a0 a1 a2 := h.later ((Below.refl _ _).alloc (Nat.le_refl _) o)
theorem Blk3.new (w : World) (a0 a1 a2 : Value) (t : TypeId) : Blk3 (w.alloc (.cells #[a0, a1, a2] t)) w.heap.size a0 a1 a2 := by
  refine ⟨⟨World.cell?_alloc_mark w _ _ _ 0, World.cell?_alloc_mark w _ _ _ 1, World.cell?_alloc_mark w _ _ _ 2⟩, ?_, ?_, ?_⟩ <;> simp
theorem Blk3.set2 {x : World} {b : Nat} {a0 a1 a2 : Value} (h : Blk3 x b a0 a1 a2) (u : Value) : Blk3 (x.setCell ⟨b, 2, none⟩ u) b a0 a1 u := by
  obtain ⟨⟨h0, h1, h2⟩, f0, f1, f2⟩ := h
  exact ⟨⟨(World.cell?_setCell_other _ _ _ _ (by simp)).trans h0, (World.cell?_setCell_other _ _ _ _ (by simp)).trans h1, World.cell?_setCell_same _ _ _ h2⟩, by simpa using f0, by simpa using f1, by simpa using f2⟩
theorem Row.far {w : World} {B m n : Nat} {F : Nat → Int} {v : Value} (h : Row w B m n F v) {a : Addr} (ha : a.block < B ∨ w.heap.size ≤ a.block) (u : Value) : Row (w.setCell a u) B m n F v := by
  obtain ⟨ao, cp, rfl, h⟩ := h
  refine ⟨ao, cp, rfl, fun hn => ?_⟩
  obtain ⟨g, o, rfl, hB, hg, hc⟩ := h hn
  refine ⟨g, o, rfl, hB, by simpa [World.setCell] using hg, fun p hp => ?_⟩
  rw [← hc p hp]
  exact World.cell?_of_block (Below.heap_setCell w a u g (by omega))
theorem Free.far {w : World} {N : Nat} {v : Value} (h : Free w N v) (a : Addr) (u : Value) : Free (w.setCell a u) N v := by
  intro g o n c hv p hp
  rw [World.frozen?_setCell]
  exact h g o n c hv p hp
theorem Free.of0 (w : World) (v : Value) : Free w 0 v := fun _ _ _ _ _ _ hp => absurd hp (Nat.not_lt_zero _)
/-- A store as numbers: how many cells, locks and writes, and all their numbers. -/
structure Sto where
  nc : Nat
  c : Nat → Int
  nl : Nat
  l : Nat → Int
  nw : Nat
  k : Nat → Int
theorem below_alloc (w : World) (o : Obj) : Below w.heap.size w (w.alloc o) := (Below.refl _ _).alloc (Nat.le_refl _) o
end Go.Proofs.YtnchaccgenfhoaaGreat

namespace Go.Proofs.YtnchaccgenfhoaaGreat
open Go.RowKit

theorem inT_is (v lo hi : Int) (r : Bool) (hr : decide (lo ≤ v ∧ v ≤ hi) = r) (w : World) :
    Calls Tryz.prog 54 #[.int .i64 v, .int .i64 lo, .int .i64 hi] w fun e w' => e = .returned (.bool r) ∧ w' = w := by
  by_cases h1 : lo ≤ v
  · by_cases h2 : v ≤ hi
    · have d : decide (v ≤ hi) = true := decide_eq_true h2
      rw [decide_eq_true (show lo ≤ v ∧ v ≤ hi from ⟨h1, h2⟩)] at hr
      subst hr
      go_enter Tryz.func54, Tryz.ntmps54
      go_wp2
      go_ret
      exact ⟨rfl, rfl⟩
    · have d : decide (v ≤ hi) = false := decide_eq_false h2
      rw [decide_eq_false (show ¬ (lo ≤ v ∧ v ≤ hi) from fun h => h2 h.2)] at hr
      subst hr
      go_enter Tryz.func54, Tryz.ntmps54
      go_wp2
      go_ret
      exact ⟨rfl, rfl⟩
  · have d : decide (lo ≤ v) = false := decide_eq_false h1
    rw [decide_eq_false (show ¬ (lo ≤ v ∧ v ≤ hi) from fun h => h1 h.1)] at hr
    subst hr
    go_enter Tryz.func54, Tryz.ntmps54
    go_wp2
    go_ret
    exact ⟨rfl, rfl⟩
end Go.Proofs.YtnchaccgenfhoaaGreat

namespace Go.Proofs.YtnchaccgenfhoaaGreat
open Go.RowKit

/-- Block b holds six cells, none frozen. -/
def Blk6 (x : World) (b : Nat) (a0 a1 a2 a3 a4 a5 : Value) : Prop :=
  (x.cell? ⟨b, 0, none⟩ = some a0 ∧ x.cell? ⟨b, 1, none⟩ = some a1 ∧ x.cell? ⟨b, 2, none⟩ = some a2 ∧ x.cell? ⟨b, 3, none⟩ = some a3 ∧ x.cell? ⟨b, 4, none⟩ = some a4 ∧ x.cell? ⟨b, 5, none⟩ = some a5) ∧
    x.frozen? ⟨b, 0, none⟩ = false ∧ x.frozen? ⟨b, 1, none⟩ = false ∧ x.frozen? ⟨b, 2, none⟩ = false ∧ x.frozen? ⟨b, 3, none⟩ = false ∧ x.frozen? ⟨b, 4, none⟩ = false ∧ x.frozen? ⟨b, 5, none⟩ = false
theorem Blk6.kept {x x' : World} {b : Nat} {a0 a1 a2 a3 a4 a5 : Value} (h : Blk6 x b a0 a1 a2 a3 a4 a5) (hb : x'.heap[b]? = x.heap[b]?) : Blk6 x' b a0 a1 a2 a3 a4 a5 := by
  obtain ⟨⟨h0, h1, h2, h3, h4, h5⟩, f0, f1, f2, f3, f4, f5⟩ := h
  exact ⟨⟨(World.cell?_of_block (w := x) (a := ⟨b, 0, none⟩) hb).trans h0, (World.cell?_of_block (w := x) (a := ⟨b, 1, none⟩) hb).trans h1, (World.cell?_of_block (w := x) (a := ⟨b, 2, none⟩) hb).trans h2, (World.cell?_of_block (w := x) (a := ⟨b, 3, none⟩) hb).trans h3, (World.cell?_of_block (w := x) (a := ⟨b, 4, none⟩) hb).trans h4, (World.cell?_of_block (w := x) (a := ⟨b, 5, none⟩) hb).trans h5⟩,
    (World.frozen?_of_block (w := x) (a := ⟨b, 0, none⟩) hb).trans f0, (World.frozen?_of_block (w := x) (a := ⟨b, 1, none⟩) hb).trans f1, (World.frozen?_of_block (w := x) (a := ⟨b, 2, none⟩) hb).trans f2, (World.frozen?_of_block (w := x) (a := ⟨b, 3, none⟩) hb).trans f3, (World.frozen?_of_block (w := x) (a := ⟨b, 4, none⟩) hb).trans f4, (World.frozen?_of_block (w := x) (a := ⟨b, 5, none⟩) hb).trans f5⟩
theorem Blk6.lt {x : World} {b : Nat} {a0 a1 a2 a3 a4 a5 : Value} (h : Blk6 x b a0 a1 a2 a3 a4 a5) : b < x.heap.size := World.block_lt_of_cell? x _ h.1.1
theorem Blk6.later {x x' : World} {b : Nat} {a0 a1 a2 a3 a4 a5 : Value} (h : Blk6 x b a0 a1 a2 a3 a4 a5) (hb : Below x.heap.size x x') : Blk6 x' b a0 a1 a2 a3 a4 a5 := h.kept (hb.block b h.lt)
theorem Blk6.alloc {x : World} {b : Nat} {a0 a1 a2 a3 a4 a5 : Value} (h : Blk6 x b a0 a1 a2 a3 a4 a5) (o : Obj) : Blk6 (x.alloc o) b a0 a1 a2 a3 a4 a5 := h.later ((Below.refl _ _).alloc (Nat.le_refl _) o)
theorem Blk6.new (w : World) (a0 a1 a2 a3 a4 a5 : Value) (t : TypeId) : Blk6 (w.alloc (.cells #[a0, a1, a2, a3, a4, a5] t)) w.heap.size a0 a1 a2 a3 a4 a5 := by
  refine ⟨⟨World.cell?_alloc_mark w _ _ _ 0, World.cell?_alloc_mark w _ _ _ 1, World.cell?_alloc_mark w _ _ _ 2, World.cell?_alloc_mark w _ _ _ 3, World.cell?_alloc_mark w _ _ _ 4, World.cell?_alloc_mark w _ _ _ 5⟩, ?_, ?_, ?_, ?_, ?_, ?_⟩ <;> simp
end Go.Proofs.YtnchaccgenfhoaaGreat

namespace Go.Proofs.YtnchaccgenfhoaaGreat
open Go.RowKit

theorem isValueT_is (v : Int) (r : Bool) (hr : decide (0 ≤ v ∧ v ≤ 9999) = r) (w : World) :
    Calls Tryz.prog 49 #[.int .i64 v] w fun e w' => e = .returned (.bool r) ∧ w' = w := by
  by_cases h1 : 0 ≤ v
  · by_cases h2 : v ≤ 9999
    · have d : decide (v ≤ 9999) = true := decide_eq_true h2
      rw [decide_eq_true (show 0 ≤ v ∧ v ≤ 9999 from ⟨h1, h2⟩)] at hr
      subst hr
      go_enter Tryz.func49, Tryz.ntmps49
      go_wp2
      go_ret
      exact ⟨rfl, rfl⟩
    · have d : decide (v ≤ 9999) = false := decide_eq_false h2
      rw [decide_eq_false (show ¬ (0 ≤ v ∧ v ≤ 9999) from fun h => h2 h.2)] at hr
      subst hr
      go_enter Tryz.func49, Tryz.ntmps49
      go_wp2
      go_ret
      exact ⟨rfl, rfl⟩
  · have d : decide (0 ≤ v) = false := decide_eq_false h1
    rw [decide_eq_false (show ¬ (0 ≤ v ∧ v ≤ 9999) from fun h => h1 h.1)] at hr
    subst hr
    go_enter Tryz.func49, Tryz.ntmps49
    go_wp2
    go_ret
    exact ⟨rfl, rfl⟩
end Go.Proofs.YtnchaccgenfhoaaGreat

namespace Go.Proofs.YtnchaccgenfhoaaGreat
open Go.RowKit

theorem isInodeT_is (v : Int) (r : Bool) (hr : decide (0 ≤ v ∧ v ≤ 9) = r) (w : World) :
    Calls Tryz.prog 31 #[.int .i64 v] w fun e w' => e = .returned (.bool r) ∧ w' = w := by
  by_cases h1 : 0 ≤ v
  · by_cases h2 : v ≤ 9
    · have d : decide (v ≤ 9) = true := decide_eq_true h2
      rw [decide_eq_true (show 0 ≤ v ∧ v ≤ 9 from ⟨h1, h2⟩)] at hr
      subst hr
      go_enter Tryz.func31, Tryz.ntmps31
      go_wp2
      go_ret
      exact ⟨rfl, rfl⟩
    · have d : decide (v ≤ 9) = false := decide_eq_false h2
      rw [decide_eq_false (show ¬ (0 ≤ v ∧ v ≤ 9) from fun h => h2 h.2)] at hr
      subst hr
      go_enter Tryz.func31, Tryz.ntmps31
      go_wp2
      go_ret
      exact ⟨rfl, rfl⟩
  · have d : decide (0 ≤ v) = false := decide_eq_false h1
    rw [decide_eq_false (show ¬ (0 ≤ v ∧ v ≤ 9) from fun h => h1 h.1)] at hr
    subst hr
    go_enter Tryz.func31, Tryz.ntmps31
    go_wp2
    go_ret
    exact ⟨rfl, rfl⟩
theorem isNameT_is (v : Int) (r : Bool) (hr : decide (0 ≤ v ∧ v ≤ 5) = r) (w : World) :
    Calls Tryz.prog 32 #[.int .i64 v] w fun e w' => e = .returned (.bool r) ∧ w' = w := by
  by_cases h1 : 0 ≤ v
  · by_cases h2 : v ≤ 5
    · have d : decide (v ≤ 5) = true := decide_eq_true h2
      rw [decide_eq_true (show 0 ≤ v ∧ v ≤ 5 from ⟨h1, h2⟩)] at hr
      subst hr
      go_enter Tryz.func32, Tryz.ntmps32
      go_wp2
      go_ret
      exact ⟨rfl, rfl⟩
    · have d : decide (v ≤ 5) = false := decide_eq_false h2
      rw [decide_eq_false (show ¬ (0 ≤ v ∧ v ≤ 5) from fun h => h2 h.2)] at hr
      subst hr
      go_enter Tryz.func32, Tryz.ntmps32
      go_wp2
      go_ret
      exact ⟨rfl, rfl⟩
  · have d : decide (0 ≤ v) = false := decide_eq_false h1
    rw [decide_eq_false (show ¬ (0 ≤ v ∧ v ≤ 5) from fun h => h1 h.1)] at hr
    subst hr
    go_enter Tryz.func32, Tryz.ntmps32
    go_wp2
    go_ret
    exact ⟨rfl, rfl⟩
theorem inodeS_is (t : Int) (r : Bool) (hr : decide (0 ≤ t ∧ t ≤ 9) = r) (w : World) :
    Calls Tryz.prog 58 #[.int .i64 t] w fun e w' => e = .returned (.bool r) ∧ w' = w := by
  have H : Hid (decide (0 ≤ t ∧ t ≤ 9) = r) := hr
  clear hr
  go_enter Tryz.func58, Tryz.ntmps58
  go_wp2_with fail
  refine (inT_is t 0 9 r H.out _).mono ?_
  rintro e w9 ⟨rfl, hw9⟩
  obtain rfl := hw9.symm
  go_wp2
  go_ret
  exact ⟨rfl, rfl⟩
theorem nameS_is (t : Int) (r : Bool) (hr : decide (0 ≤ t ∧ t ≤ 5) = r) (w : World) :
    Calls Tryz.prog 59 #[.int .i64 t] w fun e w' => e = .returned (.bool r) ∧ w' = w := by
  have H : Hid (decide (0 ≤ t ∧ t ≤ 5) = r) := hr
  clear hr
  go_enter Tryz.func59, Tryz.ntmps59
  go_wp2_with fail
  refine (inT_is t 0 5 r H.out _).mono ?_
  rintro e w9 ⟨rfl, hw9⟩
  obtain rfl := hw9.symm
  go_wp2
  go_ret
  exact ⟨rfl, rfl⟩
/-- A field that says nothing of this kind is 0. -/
def suitsB (kd td tn v : Int) : Bool := decide ((1 ≤ kd ∧ kd ≤ 8) ∧ (kd = 4 ∨ kd = 5 ∨ (td = 0 ∧ tn = 0)) ∧ (kd = 6 ∨ v = 0))
/-- All numbers are within their bounds. -/
def boundsB (d n td tn v : Int) : Bool := decide ((0 ≤ d ∧ d ≤ 9) ∧ (0 ≤ td ∧ td ≤ 9) ∧ (0 ≤ n ∧ n ≤ 5) ∧ (0 ≤ tn ∧ tn ≤ 5) ∧ (0 ≤ v ∧ v ≤ 9999))
/-- The fault of an operation. -/
def opF (kd d n td tn v : Int) : Int := if suitsB kd td tn v = false then 1 else if boundsB d n td tn v = false then 3 else 0
set_option maxRecDepth 100000 in
set_option maxHeartbeats 2000000 in
theorem opSuits_is (kd d n td tn v : Int) (r : Bool) (hr : suitsB kd td tn v = r) (w : World) :
    Calls Tryz.prog 48 #[.agg #[.int .i64 kd, .int .i64 d, .int .i64 n, .int .i64 td, .int .i64 tn, .int .i64 v]] w fun e w' => e = .returned (.bool r) ∧ Below w.heap.size w w' := by
  unfold suitsB at hr
  by_cases h1 : kd < 1
  · have e1 : decide (kd < 1) = true := decide_eq_true h1
    obtain rfl : r = false := by rw [← hr]; exact decide_eq_false (by omega)
    clear hr h1
    go_enter Tryz.func48, Tryz.ntmps48
    go_wp2
    go_ret
    first | exact ⟨rfl, below_alloc _ _⟩ | exact ⟨(by show Ending.returned (Value.bool (v == 0)) = _; rw [ev]), below_alloc _ _⟩
  have e1 : decide (kd < 1) = false := decide_eq_false h1
  by_cases h8 : 8 < kd
  · have e8 : decide (8 < kd) = true := decide_eq_true h8
    obtain rfl : r = false := by rw [← hr]; exact decide_eq_false (by omega)
    clear hr h1 h8
    go_enter Tryz.func48, Tryz.ntmps48
    go_wp2
    go_ret
    first | exact ⟨rfl, below_alloc _ _⟩ | exact ⟨(by show Ending.returned (Value.bool (v == 0)) = _; rw [ev]), below_alloc _ _⟩
  have e8 : decide (8 < kd) = false := decide_eq_false h8
  by_cases h4 : kd = 4
  · have e4 : (kd == 4) = true := beq_iff_eq.2 h4
    have h6 : ¬ kd = 6 := by omega
    have e6 : (kd == 6) = false := beq_eq_false_iff_ne.2 h6
    by_cases hv : v = 0
    · have ev : (v == 0) = true := beq_iff_eq.2 hv
      obtain rfl : r = true := by rw [← hr]; exact decide_eq_true (by omega)
      clear hr hv h6
      go_enter Tryz.func48, Tryz.ntmps48
      go_wp2
      go_ret
      first | exact ⟨rfl, below_alloc _ _⟩ | exact ⟨(by show Ending.returned (Value.bool (v == 0)) = _; rw [ev]), below_alloc _ _⟩
    have ev : (v == 0) = false := beq_eq_false_iff_ne.2 hv
    obtain rfl : r = false := by rw [← hr]; exact decide_eq_false (by omega)
    clear hr hv h6
    go_enter Tryz.func48, Tryz.ntmps48
    go_wp2
    go_ret
    first | exact ⟨rfl, below_alloc _ _⟩ | exact ⟨(by show Ending.returned (Value.bool (v == 0)) = _; rw [ev]), below_alloc _ _⟩
  have e4 : (kd == 4) = false := beq_eq_false_iff_ne.2 h4
  by_cases h5 : kd = 5
  · have e5 : (kd == 5) = true := beq_iff_eq.2 h5
    have h6 : ¬ kd = 6 := by omega
    have e6 : (kd == 6) = false := beq_eq_false_iff_ne.2 h6
    by_cases hv : v = 0
    · have ev : (v == 0) = true := beq_iff_eq.2 hv
      obtain rfl : r = true := by rw [← hr]; exact decide_eq_true (by omega)
      clear hr hv h6
      go_enter Tryz.func48, Tryz.ntmps48
      go_wp2
      go_ret
      first | exact ⟨rfl, below_alloc _ _⟩ | exact ⟨(by show Ending.returned (Value.bool (v == 0)) = _; rw [ev]), below_alloc _ _⟩
    have ev : (v == 0) = false := beq_eq_false_iff_ne.2 hv
    obtain rfl : r = false := by rw [← hr]; exact decide_eq_false (by omega)
    clear hr hv h6
    go_enter Tryz.func48, Tryz.ntmps48
    go_wp2
    go_ret
    first | exact ⟨rfl, below_alloc _ _⟩ | exact ⟨(by show Ending.returned (Value.bool (v == 0)) = _; rw [ev]), below_alloc _ _⟩
  have e5 : (kd == 5) = false := beq_eq_false_iff_ne.2 h5
  by_cases ht : td = 0
  · have et : (td != 0) = false := by simp [ht]
    by_cases hn : tn = 0
    · have en : (tn != 0) = false := by simp [hn]
      by_cases h6 : kd = 6
      · have e6 : (kd == 6) = true := beq_iff_eq.2 h6
        obtain rfl : r = true := by rw [← hr]; exact decide_eq_true (by omega)
        clear hr h6
        go_enter Tryz.func48, Tryz.ntmps48
        go_wp2
        go_ret
        first | exact ⟨rfl, below_alloc _ _⟩ | exact ⟨(by show Ending.returned (Value.bool (v == 0)) = _; rw [ev]), below_alloc _ _⟩
      have e6 : (kd == 6) = false := beq_eq_false_iff_ne.2 h6
      by_cases hv : v = 0
      · have ev : (v == 0) = true := beq_iff_eq.2 hv
        obtain rfl : r = true := by rw [← hr]; exact decide_eq_true (by omega)
        clear hr hv h6
        go_enter Tryz.func48, Tryz.ntmps48
        go_wp2
        go_ret
        first | exact ⟨rfl, below_alloc _ _⟩ | exact ⟨(by show Ending.returned (Value.bool (v == 0)) = _; rw [ev]), below_alloc _ _⟩
      have ev : (v == 0) = false := beq_eq_false_iff_ne.2 hv
      obtain rfl : r = false := by rw [← hr]; exact decide_eq_false (by omega)
      clear hr hv h6
      go_enter Tryz.func48, Tryz.ntmps48
      go_wp2
      go_ret
      first | exact ⟨rfl, below_alloc _ _⟩ | exact ⟨(by show Ending.returned (Value.bool (v == 0)) = _; rw [ev]), below_alloc _ _⟩
    have en : (tn != 0) = true := bne_iff_ne.2 hn
    obtain rfl : r = false := by rw [← hr]; exact decide_eq_false (by omega)
    clear hr h1 h8 h4 h5 ht hn
    go_enter Tryz.func48, Tryz.ntmps48
    go_wp2
    go_ret
    first | exact ⟨rfl, below_alloc _ _⟩ | exact ⟨(by show Ending.returned (Value.bool (v == 0)) = _; rw [ev]), below_alloc _ _⟩
  have et : (td != 0) = true := bne_iff_ne.2 ht
  obtain rfl : r = false := by rw [← hr]; exact decide_eq_false (by omega)
  clear hr h1 h8 h4 h5 ht
  go_enter Tryz.func48, Tryz.ntmps48
  go_wp2
  go_ret
  first | exact ⟨rfl, below_alloc _ _⟩ | exact ⟨(by show Ending.returned (Value.bool (v == 0)) = _; rw [ev]), below_alloc _ _⟩
theorem opF_form {kd d n td tn v : Int} (h : suitsB kd td tn v = false) : opF kd d n td tn v = 1 := by unfold opF; rw [if_pos h]
theorem opF_range {kd d n td tn v : Int} (h : suitsB kd td tn v = true) (hb : boundsB d n td tn v = false) : opF kd d n td tn v = 3 := by unfold opF; rw [if_neg (by rw [h]; simp), if_pos hb]
theorem opF_ok {kd d n td tn v : Int} (h : suitsB kd td tn v = true) (hb : boundsB d n td tn v = true) : opF kd d n td tn v = 0 := by unfold opF; rw [if_neg (by rw [h]; simp), if_neg (by rw [hb]; simp)]
theorem bounds_no {d n td tn v : Int} (h : ¬ ((0 ≤ d ∧ d ≤ 9) ∧ (0 ≤ td ∧ td ≤ 9) ∧ (0 ≤ n ∧ n ≤ 5) ∧ (0 ≤ tn ∧ tn ≤ 5) ∧ (0 ≤ v ∧ v ≤ 9999))) : boundsB d n td tn v = false := decide_eq_false h
set_option maxRecDepth 100000 in
set_option maxHeartbeats 2000000 in
theorem implFsOp_any (kd d n td tn v : Int) (w : World) :
    Calls Tryz.prog 22 #[.agg #[.int .i64 kd, .int .i64 d, .int .i64 n, .int .i64 td, .int .i64 tn, .int .i64 v]] w fun e w' => e = .returned (.int .i64 (opF kd d n td tn v)) ∧ Below w.heap.size w w' := by
  have HZ : Hid (Blk6 (w.alloc (.cells #[.int .i64 kd, .int .i64 d, .int .i64 n, .int .i64 td, .int .i64 tn, .int .i64 v] 26)) w.heap.size (.int .i64 kd) (.int .i64 d) (.int .i64 n) (.int .i64 td) (.int .i64 tn) (.int .i64 v)) := Blk6.new _ _ _ _ _ _ _ _
  obtain ⟨r, hr⟩ : ∃ r, suitsB kd td tn v = r := ⟨_, rfl⟩
  have HS : Hid (suitsB kd td tn v = r) := hr
  obtain ⟨o, ho⟩ : ∃ o, opF kd d n td tn v = o := ⟨_, rfl⟩
  have HO : Hid (opF kd d n td tn v = o) := ho
  rw [ho]
  clear hr ho
  go_enter Tryz.func22, Tryz.ntmps22
  go_wp2_with fail
  refine (opSuits_is kd d n td tn v r HS.out _).mono ?_
  rintro e w1 ⟨rfl, q1⟩
  have HB : Hid (Below w.heap.size w w1) := (below_alloc _ _).trans (q1.mono (by simp))
  obtain ⟨⟨z0, z1, z2, z3, z4, z5⟩, _⟩ := HZ.out.later q1
  clear q1 HZ
  cases r with
  | false =>
    obtain rfl : o = 1 := HO.out.symm.trans (opF_form HS.out)
    go_wp2
    go_ret
    exact ⟨rfl, HB.out⟩
  | true =>
  by_cases h1 : 0 ≤ d ∧ d ≤ 9
  case neg =>
    have D1 : Hid (decide (0 ≤ d ∧ d ≤ 9) = false) := decide_eq_false h1
    obtain rfl : o = 3 := HO.out.symm.trans (opF_range HS.out (bounds_no fun q => h1 q.1))
    clear h1
    go_wp2_with fail
    refine (isInodeT_is _ _ D1.out _).mono ?_
    rintro e w9 ⟨rfl, hw9⟩
    obtain rfl := hw9.symm
    go_wp2
    go_ret
    exact ⟨rfl, HB.out⟩
  have D1 : Hid (decide (0 ≤ d ∧ d ≤ 9) = true) := decide_eq_true h1
  by_cases h2 : 0 ≤ td ∧ td ≤ 9
  case neg =>
    have D2 : Hid (decide (0 ≤ td ∧ td ≤ 9) = false) := decide_eq_false h2
    obtain rfl : o = 3 := HO.out.symm.trans (opF_range HS.out (bounds_no fun q => h2 q.2.1))
    clear h1 h2
    go_wp2_with fail
    refine (isInodeT_is _ _ D1.out _).mono ?_
    rintro e w9 ⟨rfl, hw9⟩
    obtain rfl := hw9.symm
    go_wp2_with fail
    refine (isInodeT_is _ _ D2.out _).mono ?_
    rintro e w9 ⟨rfl, hw9⟩
    obtain rfl := hw9.symm
    go_wp2
    go_ret
    exact ⟨rfl, HB.out⟩
  have D2 : Hid (decide (0 ≤ td ∧ td ≤ 9) = true) := decide_eq_true h2
  by_cases h3 : 0 ≤ n ∧ n ≤ 5
  case neg =>
    have D3 : Hid (decide (0 ≤ n ∧ n ≤ 5) = false) := decide_eq_false h3
    obtain rfl : o = 3 := HO.out.symm.trans (opF_range HS.out (bounds_no fun q => h3 q.2.2.1))
    clear h1 h2 h3
    go_wp2_with fail
    refine (isInodeT_is _ _ D1.out _).mono ?_
    rintro e w9 ⟨rfl, hw9⟩
    obtain rfl := hw9.symm
    go_wp2_with fail
    refine (isInodeT_is _ _ D2.out _).mono ?_
    rintro e w9 ⟨rfl, hw9⟩
    obtain rfl := hw9.symm
    go_wp2_with fail
    refine (isNameT_is _ _ D3.out _).mono ?_
    rintro e w9 ⟨rfl, hw9⟩
    obtain rfl := hw9.symm
    go_wp2
    go_ret
    exact ⟨rfl, HB.out⟩
  have D3 : Hid (decide (0 ≤ n ∧ n ≤ 5) = true) := decide_eq_true h3
  by_cases h4 : 0 ≤ tn ∧ tn ≤ 5
  case neg =>
    have D4 : Hid (decide (0 ≤ tn ∧ tn ≤ 5) = false) := decide_eq_false h4
    obtain rfl : o = 3 := HO.out.symm.trans (opF_range HS.out (bounds_no fun q => h4 q.2.2.2.1))
    clear h1 h2 h3 h4
    go_wp2_with fail
    refine (isInodeT_is _ _ D1.out _).mono ?_
    rintro e w9 ⟨rfl, hw9⟩
    obtain rfl := hw9.symm
    go_wp2_with fail
    refine (isInodeT_is _ _ D2.out _).mono ?_
    rintro e w9 ⟨rfl, hw9⟩
    obtain rfl := hw9.symm
    go_wp2_with fail
    refine (isNameT_is _ _ D3.out _).mono ?_
    rintro e w9 ⟨rfl, hw9⟩
    obtain rfl := hw9.symm
    go_wp2_with fail
    refine (isNameT_is _ _ D4.out _).mono ?_
    rintro e w9 ⟨rfl, hw9⟩
    obtain rfl := hw9.symm
    go_wp2
    go_ret
    exact ⟨rfl, HB.out⟩
  have D4 : Hid (decide (0 ≤ tn ∧ tn ≤ 5) = true) := decide_eq_true h4
  by_cases h5 : 0 ≤ v ∧ v ≤ 9999
  case neg =>
    have D5 : Hid (decide (0 ≤ v ∧ v ≤ 9999) = false) := decide_eq_false h5
    obtain rfl : o = 3 := HO.out.symm.trans (opF_range HS.out (bounds_no fun q => h5 q.2.2.2.2))
    clear h1 h2 h3 h4 h5
    go_wp2_with fail
    refine (isInodeT_is _ _ D1.out _).mono ?_
    rintro e w9 ⟨rfl, hw9⟩
    obtain rfl := hw9.symm
    go_wp2_with fail
    refine (isInodeT_is _ _ D2.out _).mono ?_
    rintro e w9 ⟨rfl, hw9⟩
    obtain rfl := hw9.symm
    go_wp2_with fail
    refine (isNameT_is _ _ D3.out _).mono ?_
    rintro e w9 ⟨rfl, hw9⟩
    obtain rfl := hw9.symm
    go_wp2_with fail
    refine (isNameT_is _ _ D4.out _).mono ?_
    rintro e w9 ⟨rfl, hw9⟩
    obtain rfl := hw9.symm
    go_wp2_with fail
    refine (isValueT_is _ _ D5.out _).mono ?_
    rintro e w9 ⟨rfl, hw9⟩
    obtain rfl := hw9.symm
    go_wp2
    go_ret
    exact ⟨rfl, HB.out⟩
  have D5 : Hid (decide (0 ≤ v ∧ v ≤ 9999) = true) := decide_eq_true h5
  obtain rfl : o = 0 := HO.out.symm.trans (opF_ok HS.out (decide_eq_true ⟨h1, h2, h3, h4, h5⟩))
  clear h1 h2 h3 h4 h5
  go_wp2_with fail
  refine (isInodeT_is _ _ D1.out _).mono ?_
  rintro e w9 ⟨rfl, hw9⟩
  obtain rfl := hw9.symm
  go_wp2_with fail
  refine (isInodeT_is _ _ D2.out _).mono ?_
  rintro e w9 ⟨rfl, hw9⟩
  obtain rfl := hw9.symm
  go_wp2_with fail
  refine (isNameT_is _ _ D3.out _).mono ?_
  rintro e w9 ⟨rfl, hw9⟩
  obtain rfl := hw9.symm
  go_wp2_with fail
  refine (isNameT_is _ _ D4.out _).mono ?_
  rintro e w9 ⟨rfl, hw9⟩
  obtain rfl := hw9.symm
  go_wp2_with fail
  refine (isValueT_is _ _ D5.out _).mono ?_
  rintro e w9 ⟨rfl, hw9⟩
  obtain rfl := hw9.symm
  go_wp2
  go_ret
  exact ⟨rfl, HB.out⟩
set_option maxRecDepth 100000 in
set_option maxHeartbeats 2000000 in
theorem specFsOp_any (kd d n td tn v : Int) (w : World) :
    Calls Tryz.prog 25 #[.agg #[.int .i64 kd, .int .i64 d, .int .i64 n, .int .i64 td, .int .i64 tn, .int .i64 v]] w fun e w' => e = .returned (.int .i64 (opF kd d n td tn v)) ∧ Below w.heap.size w w' := by
  obtain ⟨r, hr⟩ : ∃ r, suitsB kd td tn v = r := ⟨_, rfl⟩
  have HS : Hid (suitsB kd td tn v = r) := hr
  obtain ⟨o, ho⟩ : ∃ o, opF kd d n td tn v = o := ⟨_, rfl⟩
  have HO : Hid (opF kd d n td tn v = o) := ho
  rw [ho]
  clear hr ho
  have HB : Hid (Below w.heap.size w (w.alloc (.cells #[.int .i64 kd, .int .i64 d, .int .i64 n, .int .i64 td, .int .i64 tn, .int .i64 v] 26))) := below_alloc _ _
  have HK : Hid (suitsB kd td tn v = decide ((1 ≤ kd ∧ kd ≤ 8) ∧ (kd = 4 ∨ kd = 5 ∨ (td = 0 ∧ tn = 0)) ∧ (kd = 6 ∨ v = 0))) := rfl
  by_cases h8 : 1 ≤ kd ∧ kd ≤ 8
  case neg =>
    have D8 : Hid (decide (1 ≤ kd ∧ kd ≤ 8) = false) := decide_eq_false h8
    obtain rfl : o = 1 := HO.out.symm.trans (opF_form (HK.out.trans (decide_eq_false fun q => h8 q.1)))
    clear h8
    by_cases h4 : kd = 4
    · subst h4
      go_enter Tryz.func25, Tryz.ntmps25
      go_wp2_with fail
      refine (inT_is _ _ _ _ D8.out _).mono ?_
      rintro e w9 ⟨rfl, hw9⟩
      obtain rfl := hw9.symm
      go_wp2
      go_ret
      exact ⟨rfl, HB.out⟩
    have e4 : (kd == 4) = false := beq_eq_false_iff_ne.2 h4
    by_cases h5 : kd = 5
    · subst h5
      go_enter Tryz.func25, Tryz.ntmps25
      go_wp2_with fail
      refine (inT_is _ _ _ _ D8.out _).mono ?_
      rintro e w9 ⟨rfl, hw9⟩
      obtain rfl := hw9.symm
      go_wp2
      go_ret
      exact ⟨rfl, HB.out⟩
    have e5 : (kd == 5) = false := beq_eq_false_iff_ne.2 h5
    clear h4 h5
    go_enter Tryz.func25, Tryz.ntmps25
    go_wp2_with fail
    refine (inT_is _ _ _ _ D8.out _).mono ?_
    rintro e w9 ⟨rfl, hw9⟩
    obtain rfl := hw9.symm
    go_wp2
    go_ret
    exact ⟨rfl, HB.out⟩
  have D8 : Hid (decide (1 ≤ kd ∧ kd ≤ 8) = true) := decide_eq_true h8
  by_cases h4 : kd = 4
  · subst h4
    by_cases hv : v = 0
    · subst hv
      obtain rfl : r = true := HS.out.symm.trans (HK.out.trans (decide_eq_true (by omega)))
      go_enter Tryz.func25, Tryz.ntmps25
      go_wp2_with fail
      refine (inT_is _ _ _ _ D8.out _).mono ?_
      rintro e w9 ⟨rfl, hw9⟩
      obtain rfl := hw9.symm
      by_cases b1 : 0 ≤ d ∧ d ≤ 9
      case neg =>
        have D1 : Hid (decide (0 ≤ d ∧ d ≤ 9) = false) := decide_eq_false b1
        obtain rfl : o = 3 := HO.out.symm.trans (opF_range HS.out (bounds_no fun q => b1 q.1))
        clear b1
        go_wp2_with fail
        refine (inodeS_is _ _ D1.out _).mono ?_
        rintro e w9 ⟨rfl, hw9⟩
        obtain rfl := hw9.symm
        go_wp2
        go_ret
        exact ⟨rfl, HB.out⟩
      have D1 : Hid (decide (0 ≤ d ∧ d ≤ 9) = true) := decide_eq_true b1
      by_cases b2 : 0 ≤ td ∧ td ≤ 9
      case neg =>
        have D2 : Hid (decide (0 ≤ td ∧ td ≤ 9) = false) := decide_eq_false b2
        obtain rfl : o = 3 := HO.out.symm.trans (opF_range HS.out (bounds_no fun q => b2 q.2.1))
        clear b1 b2
        go_wp2_with fail
        refine (inodeS_is _ _ D1.out _).mono ?_
        rintro e w9 ⟨rfl, hw9⟩
        obtain rfl := hw9.symm
        go_wp2_with fail
        refine (inodeS_is _ _ D2.out _).mono ?_
        rintro e w9 ⟨rfl, hw9⟩
        obtain rfl := hw9.symm
        go_wp2
        go_ret
        exact ⟨rfl, HB.out⟩
      have D2 : Hid (decide (0 ≤ td ∧ td ≤ 9) = true) := decide_eq_true b2
      by_cases b3 : 0 ≤ n ∧ n ≤ 5
      case neg =>
        have D3 : Hid (decide (0 ≤ n ∧ n ≤ 5) = false) := decide_eq_false b3
        obtain rfl : o = 3 := HO.out.symm.trans (opF_range HS.out (bounds_no fun q => b3 q.2.2.1))
        clear b1 b2 b3
        go_wp2_with fail
        refine (inodeS_is _ _ D1.out _).mono ?_
        rintro e w9 ⟨rfl, hw9⟩
        obtain rfl := hw9.symm
        go_wp2_with fail
        refine (inodeS_is _ _ D2.out _).mono ?_
        rintro e w9 ⟨rfl, hw9⟩
        obtain rfl := hw9.symm
        go_wp2_with fail
        refine (nameS_is _ _ D3.out _).mono ?_
        rintro e w9 ⟨rfl, hw9⟩
        obtain rfl := hw9.symm
        go_wp2
        go_ret
        exact ⟨rfl, HB.out⟩
      have D3 : Hid (decide (0 ≤ n ∧ n ≤ 5) = true) := decide_eq_true b3
      by_cases b4 : 0 ≤ tn ∧ tn ≤ 5
      case neg =>
        have D4 : Hid (decide (0 ≤ tn ∧ tn ≤ 5) = false) := decide_eq_false b4
        obtain rfl : o = 3 := HO.out.symm.trans (opF_range HS.out (bounds_no fun q => b4 q.2.2.2.1))
        clear b1 b2 b3 b4
        go_wp2_with fail
        refine (inodeS_is _ _ D1.out _).mono ?_
        rintro e w9 ⟨rfl, hw9⟩
        obtain rfl := hw9.symm
        go_wp2_with fail
        refine (inodeS_is _ _ D2.out _).mono ?_
        rintro e w9 ⟨rfl, hw9⟩
        obtain rfl := hw9.symm
        go_wp2_with fail
        refine (nameS_is _ _ D3.out _).mono ?_
        rintro e w9 ⟨rfl, hw9⟩
        obtain rfl := hw9.symm
        go_wp2_with fail
        refine (nameS_is _ _ D4.out _).mono ?_
        rintro e w9 ⟨rfl, hw9⟩
        obtain rfl := hw9.symm
        go_wp2
        go_ret
        exact ⟨rfl, HB.out⟩
      have D4 : Hid (decide (0 ≤ tn ∧ tn ≤ 5) = true) := decide_eq_true b4
      by_cases b5 : 0 ≤ (0 : Int) ∧ (0 : Int) ≤ 9999
      case neg =>
        have D5 : Hid (decide (0 ≤ (0 : Int) ∧ (0 : Int) ≤ 9999) = false) := decide_eq_false b5
        obtain rfl : o = 3 := HO.out.symm.trans (opF_range HS.out (bounds_no fun q => b5 q.2.2.2.2))
        clear b1 b2 b3 b4 b5
        go_wp2_with fail
        refine (inodeS_is _ _ D1.out _).mono ?_
        rintro e w9 ⟨rfl, hw9⟩
        obtain rfl := hw9.symm
        go_wp2_with fail
        refine (inodeS_is _ _ D2.out _).mono ?_
        rintro e w9 ⟨rfl, hw9⟩
        obtain rfl := hw9.symm
        go_wp2_with fail
        refine (nameS_is _ _ D3.out _).mono ?_
        rintro e w9 ⟨rfl, hw9⟩
        obtain rfl := hw9.symm
        go_wp2_with fail
        refine (nameS_is _ _ D4.out _).mono ?_
        rintro e w9 ⟨rfl, hw9⟩
        obtain rfl := hw9.symm
        go_wp2_with fail
        refine (inT_is _ _ _ _ D5.out _).mono ?_
        rintro e w9 ⟨rfl, hw9⟩
        obtain rfl := hw9.symm
        go_wp2
        go_ret
        exact ⟨rfl, HB.out⟩
      have D5 : Hid (decide (0 ≤ (0 : Int) ∧ (0 : Int) ≤ 9999) = true) := decide_eq_true b5
      obtain rfl : o = 0 := HO.out.symm.trans (opF_ok HS.out (decide_eq_true ⟨b1, b2, b3, b4, b5⟩))
      clear b1 b2 b3 b4 b5
      go_wp2_with fail
      refine (inodeS_is _ _ D1.out _).mono ?_
      rintro e w9 ⟨rfl, hw9⟩
      obtain rfl := hw9.symm
      go_wp2_with fail
      refine (inodeS_is _ _ D2.out _).mono ?_
      rintro e w9 ⟨rfl, hw9⟩
      obtain rfl := hw9.symm
      go_wp2_with fail
      refine (nameS_is _ _ D3.out _).mono ?_
      rintro e w9 ⟨rfl, hw9⟩
      obtain rfl := hw9.symm
      go_wp2_with fail
      refine (nameS_is _ _ D4.out _).mono ?_
      rintro e w9 ⟨rfl, hw9⟩
      obtain rfl := hw9.symm
      go_wp2_with fail
      refine (inT_is _ _ _ _ D5.out _).mono ?_
      rintro e w9 ⟨rfl, hw9⟩
      obtain rfl := hw9.symm
      go_wp2
      go_ret
      exact ⟨rfl, HB.out⟩
    have ev : (v != 0) = true := bne_iff_ne.2 hv
    obtain rfl : o = 1 := HO.out.symm.trans (opF_form (HK.out.trans (decide_eq_false (by omega))))
    clear hv h8
    go_enter Tryz.func25, Tryz.ntmps25
    go_wp2_with fail
    refine (inT_is _ _ _ _ D8.out _).mono ?_
    rintro e w9 ⟨rfl, hw9⟩
    obtain rfl := hw9.symm
    go_wp2
    go_ret
    exact ⟨rfl, HB.out⟩
  have e4 : (kd == 4) = false := beq_eq_false_iff_ne.2 h4
  by_cases h5 : kd = 5
  · subst h5
    by_cases hv : v = 0
    · subst hv
      obtain rfl : r = true := HS.out.symm.trans (HK.out.trans (decide_eq_true (by omega)))
      go_enter Tryz.func25, Tryz.ntmps25
      go_wp2_with fail
      refine (inT_is _ _ _ _ D8.out _).mono ?_
      rintro e w9 ⟨rfl, hw9⟩
      obtain rfl := hw9.symm
      by_cases b1 : 0 ≤ d ∧ d ≤ 9
      case neg =>
        have D1 : Hid (decide (0 ≤ d ∧ d ≤ 9) = false) := decide_eq_false b1
        obtain rfl : o = 3 := HO.out.symm.trans (opF_range HS.out (bounds_no fun q => b1 q.1))
        clear b1
        go_wp2_with fail
        refine (inodeS_is _ _ D1.out _).mono ?_
        rintro e w9 ⟨rfl, hw9⟩
        obtain rfl := hw9.symm
        go_wp2
        go_ret
        exact ⟨rfl, HB.out⟩
      have D1 : Hid (decide (0 ≤ d ∧ d ≤ 9) = true) := decide_eq_true b1
      by_cases b2 : 0 ≤ td ∧ td ≤ 9
      case neg =>
        have D2 : Hid (decide (0 ≤ td ∧ td ≤ 9) = false) := decide_eq_false b2
        obtain rfl : o = 3 := HO.out.symm.trans (opF_range HS.out (bounds_no fun q => b2 q.2.1))
        clear b1 b2
        go_wp2_with fail
        refine (inodeS_is _ _ D1.out _).mono ?_
        rintro e w9 ⟨rfl, hw9⟩
        obtain rfl := hw9.symm
        go_wp2_with fail
        refine (inodeS_is _ _ D2.out _).mono ?_
        rintro e w9 ⟨rfl, hw9⟩
        obtain rfl := hw9.symm
        go_wp2
        go_ret
        exact ⟨rfl, HB.out⟩
      have D2 : Hid (decide (0 ≤ td ∧ td ≤ 9) = true) := decide_eq_true b2
      by_cases b3 : 0 ≤ n ∧ n ≤ 5
      case neg =>
        have D3 : Hid (decide (0 ≤ n ∧ n ≤ 5) = false) := decide_eq_false b3
        obtain rfl : o = 3 := HO.out.symm.trans (opF_range HS.out (bounds_no fun q => b3 q.2.2.1))
        clear b1 b2 b3
        go_wp2_with fail
        refine (inodeS_is _ _ D1.out _).mono ?_
        rintro e w9 ⟨rfl, hw9⟩
        obtain rfl := hw9.symm
        go_wp2_with fail
        refine (inodeS_is _ _ D2.out _).mono ?_
        rintro e w9 ⟨rfl, hw9⟩
        obtain rfl := hw9.symm
        go_wp2_with fail
        refine (nameS_is _ _ D3.out _).mono ?_
        rintro e w9 ⟨rfl, hw9⟩
        obtain rfl := hw9.symm
        go_wp2
        go_ret
        exact ⟨rfl, HB.out⟩
      have D3 : Hid (decide (0 ≤ n ∧ n ≤ 5) = true) := decide_eq_true b3
      by_cases b4 : 0 ≤ tn ∧ tn ≤ 5
      case neg =>
        have D4 : Hid (decide (0 ≤ tn ∧ tn ≤ 5) = false) := decide_eq_false b4
        obtain rfl : o = 3 := HO.out.symm.trans (opF_range HS.out (bounds_no fun q => b4 q.2.2.2.1))
        clear b1 b2 b3 b4
        go_wp2_with fail
        refine (inodeS_is _ _ D1.out _).mono ?_
        rintro e w9 ⟨rfl, hw9⟩
        obtain rfl := hw9.symm
        go_wp2_with fail
        refine (inodeS_is _ _ D2.out _).mono ?_
        rintro e w9 ⟨rfl, hw9⟩
        obtain rfl := hw9.symm
        go_wp2_with fail
        refine (nameS_is _ _ D3.out _).mono ?_
        rintro e w9 ⟨rfl, hw9⟩
        obtain rfl := hw9.symm
        go_wp2_with fail
        refine (nameS_is _ _ D4.out _).mono ?_
        rintro e w9 ⟨rfl, hw9⟩
        obtain rfl := hw9.symm
        go_wp2
        go_ret
        exact ⟨rfl, HB.out⟩
      have D4 : Hid (decide (0 ≤ tn ∧ tn ≤ 5) = true) := decide_eq_true b4
      by_cases b5 : 0 ≤ (0 : Int) ∧ (0 : Int) ≤ 9999
      case neg =>
        have D5 : Hid (decide (0 ≤ (0 : Int) ∧ (0 : Int) ≤ 9999) = false) := decide_eq_false b5
        obtain rfl : o = 3 := HO.out.symm.trans (opF_range HS.out (bounds_no fun q => b5 q.2.2.2.2))
        clear b1 b2 b3 b4 b5
        go_wp2_with fail
        refine (inodeS_is _ _ D1.out _).mono ?_
        rintro e w9 ⟨rfl, hw9⟩
        obtain rfl := hw9.symm
        go_wp2_with fail
        refine (inodeS_is _ _ D2.out _).mono ?_
        rintro e w9 ⟨rfl, hw9⟩
        obtain rfl := hw9.symm
        go_wp2_with fail
        refine (nameS_is _ _ D3.out _).mono ?_
        rintro e w9 ⟨rfl, hw9⟩
        obtain rfl := hw9.symm
        go_wp2_with fail
        refine (nameS_is _ _ D4.out _).mono ?_
        rintro e w9 ⟨rfl, hw9⟩
        obtain rfl := hw9.symm
        go_wp2_with fail
        refine (inT_is _ _ _ _ D5.out _).mono ?_
        rintro e w9 ⟨rfl, hw9⟩
        obtain rfl := hw9.symm
        go_wp2
        go_ret
        exact ⟨rfl, HB.out⟩
      have D5 : Hid (decide (0 ≤ (0 : Int) ∧ (0 : Int) ≤ 9999) = true) := decide_eq_true b5
      obtain rfl : o = 0 := HO.out.symm.trans (opF_ok HS.out (decide_eq_true ⟨b1, b2, b3, b4, b5⟩))
      clear b1 b2 b3 b4 b5
      go_wp2_with fail
      refine (inodeS_is _ _ D1.out _).mono ?_
      rintro e w9 ⟨rfl, hw9⟩
      obtain rfl := hw9.symm
      go_wp2_with fail
      refine (inodeS_is _ _ D2.out _).mono ?_
      rintro e w9 ⟨rfl, hw9⟩
      obtain rfl := hw9.symm
      go_wp2_with fail
      refine (nameS_is _ _ D3.out _).mono ?_
      rintro e w9 ⟨rfl, hw9⟩
      obtain rfl := hw9.symm
      go_wp2_with fail
      refine (nameS_is _ _ D4.out _).mono ?_
      rintro e w9 ⟨rfl, hw9⟩
      obtain rfl := hw9.symm
      go_wp2_with fail
      refine (inT_is _ _ _ _ D5.out _).mono ?_
      rintro e w9 ⟨rfl, hw9⟩
      obtain rfl := hw9.symm
      go_wp2
      go_ret
      exact ⟨rfl, HB.out⟩
    have ev : (v != 0) = true := bne_iff_ne.2 hv
    obtain rfl : o = 1 := HO.out.symm.trans (opF_form (HK.out.trans (decide_eq_false (by omega))))
    clear hv h8
    go_enter Tryz.func25, Tryz.ntmps25
    go_wp2_with fail
    refine (inT_is _ _ _ _ D8.out _).mono ?_
    rintro e w9 ⟨rfl, hw9⟩
    obtain rfl := hw9.symm
    go_wp2
    go_ret
    exact ⟨rfl, HB.out⟩
  have e5 : (kd == 5) = false := beq_eq_false_iff_ne.2 h5
  by_cases ht : td = 0
  case neg =>
    have et : (td != 0) = true := bne_iff_ne.2 ht
    obtain rfl : o = 1 := HO.out.symm.trans (opF_form (HK.out.trans (decide_eq_false (by omega))))
    clear h4 h5 ht h8
    go_enter Tryz.func25, Tryz.ntmps25
    go_wp2_with fail
    refine (inT_is _ _ _ _ D8.out _).mono ?_
    rintro e w9 ⟨rfl, hw9⟩
    obtain rfl := hw9.symm
    go_wp2
    go_ret
    exact ⟨rfl, HB.out⟩
  subst ht
  by_cases hn : tn = 0
  case neg =>
    have en : (tn != 0) = true := bne_iff_ne.2 hn
    obtain rfl : o = 1 := HO.out.symm.trans (opF_form (HK.out.trans (decide_eq_false (by omega))))
    clear h4 h5 hn h8
    go_enter Tryz.func25, Tryz.ntmps25
    go_wp2_with fail
    refine (inT_is _ _ _ _ D8.out _).mono ?_
    rintro e w9 ⟨rfl, hw9⟩
    obtain rfl := hw9.symm
    go_wp2
    go_ret
    exact ⟨rfl, HB.out⟩
  subst hn
  by_cases h6 : kd = 6
  · subst h6
    obtain rfl : r = true := HS.out.symm.trans (HK.out.trans (decide_eq_true (by omega)))
    go_enter Tryz.func25, Tryz.ntmps25
    go_wp2_with fail
    refine (inT_is _ _ _ _ D8.out _).mono ?_
    rintro e w9 ⟨rfl, hw9⟩
    obtain rfl := hw9.symm
    by_cases b1 : 0 ≤ d ∧ d ≤ 9
    case neg =>
      have D1 : Hid (decide (0 ≤ d ∧ d ≤ 9) = false) := decide_eq_false b1
      obtain rfl : o = 3 := HO.out.symm.trans (opF_range HS.out (bounds_no fun q => b1 q.1))
      clear b1
      go_wp2_with fail
      refine (inodeS_is _ _ D1.out _).mono ?_
      rintro e w9 ⟨rfl, hw9⟩
      obtain rfl := hw9.symm
      go_wp2
      go_ret
      exact ⟨rfl, HB.out⟩
    have D1 : Hid (decide (0 ≤ d ∧ d ≤ 9) = true) := decide_eq_true b1
    by_cases b2 : 0 ≤ (0 : Int) ∧ (0 : Int) ≤ 9
    case neg =>
      have D2 : Hid (decide (0 ≤ (0 : Int) ∧ (0 : Int) ≤ 9) = false) := decide_eq_false b2
      obtain rfl : o = 3 := HO.out.symm.trans (opF_range HS.out (bounds_no fun q => b2 q.2.1))
      clear b1 b2
      go_wp2_with fail
      refine (inodeS_is _ _ D1.out _).mono ?_
      rintro e w9 ⟨rfl, hw9⟩
      obtain rfl := hw9.symm
      go_wp2_with fail
      refine (inodeS_is _ _ D2.out _).mono ?_
      rintro e w9 ⟨rfl, hw9⟩
      obtain rfl := hw9.symm
      go_wp2
      go_ret
      exact ⟨rfl, HB.out⟩
    have D2 : Hid (decide (0 ≤ (0 : Int) ∧ (0 : Int) ≤ 9) = true) := decide_eq_true b2
    by_cases b3 : 0 ≤ n ∧ n ≤ 5
    case neg =>
      have D3 : Hid (decide (0 ≤ n ∧ n ≤ 5) = false) := decide_eq_false b3
      obtain rfl : o = 3 := HO.out.symm.trans (opF_range HS.out (bounds_no fun q => b3 q.2.2.1))
      clear b1 b2 b3
      go_wp2_with fail
      refine (inodeS_is _ _ D1.out _).mono ?_
      rintro e w9 ⟨rfl, hw9⟩
      obtain rfl := hw9.symm
      go_wp2_with fail
      refine (inodeS_is _ _ D2.out _).mono ?_
      rintro e w9 ⟨rfl, hw9⟩
      obtain rfl := hw9.symm
      go_wp2_with fail
      refine (nameS_is _ _ D3.out _).mono ?_
      rintro e w9 ⟨rfl, hw9⟩
      obtain rfl := hw9.symm
      go_wp2
      go_ret
      exact ⟨rfl, HB.out⟩
    have D3 : Hid (decide (0 ≤ n ∧ n ≤ 5) = true) := decide_eq_true b3
    by_cases b4 : 0 ≤ (0 : Int) ∧ (0 : Int) ≤ 5
    case neg =>
      have D4 : Hid (decide (0 ≤ (0 : Int) ∧ (0 : Int) ≤ 5) = false) := decide_eq_false b4
      obtain rfl : o = 3 := HO.out.symm.trans (opF_range HS.out (bounds_no fun q => b4 q.2.2.2.1))
      clear b1 b2 b3 b4
      go_wp2_with fail
      refine (inodeS_is _ _ D1.out _).mono ?_
      rintro e w9 ⟨rfl, hw9⟩
      obtain rfl := hw9.symm
      go_wp2_with fail
      refine (inodeS_is _ _ D2.out _).mono ?_
      rintro e w9 ⟨rfl, hw9⟩
      obtain rfl := hw9.symm
      go_wp2_with fail
      refine (nameS_is _ _ D3.out _).mono ?_
      rintro e w9 ⟨rfl, hw9⟩
      obtain rfl := hw9.symm
      go_wp2_with fail
      refine (nameS_is _ _ D4.out _).mono ?_
      rintro e w9 ⟨rfl, hw9⟩
      obtain rfl := hw9.symm
      go_wp2
      go_ret
      exact ⟨rfl, HB.out⟩
    have D4 : Hid (decide (0 ≤ (0 : Int) ∧ (0 : Int) ≤ 5) = true) := decide_eq_true b4
    by_cases b5 : 0 ≤ v ∧ v ≤ 9999
    case neg =>
      have D5 : Hid (decide (0 ≤ v ∧ v ≤ 9999) = false) := decide_eq_false b5
      obtain rfl : o = 3 := HO.out.symm.trans (opF_range HS.out (bounds_no fun q => b5 q.2.2.2.2))
      clear b1 b2 b3 b4 b5
      go_wp2_with fail
      refine (inodeS_is _ _ D1.out _).mono ?_
      rintro e w9 ⟨rfl, hw9⟩
      obtain rfl := hw9.symm
      go_wp2_with fail
      refine (inodeS_is _ _ D2.out _).mono ?_
      rintro e w9 ⟨rfl, hw9⟩
      obtain rfl := hw9.symm
      go_wp2_with fail
      refine (nameS_is _ _ D3.out _).mono ?_
      rintro e w9 ⟨rfl, hw9⟩
      obtain rfl := hw9.symm
      go_wp2_with fail
      refine (nameS_is _ _ D4.out _).mono ?_
      rintro e w9 ⟨rfl, hw9⟩
      obtain rfl := hw9.symm
      go_wp2_with fail
      refine (inT_is _ _ _ _ D5.out _).mono ?_
      rintro e w9 ⟨rfl, hw9⟩
      obtain rfl := hw9.symm
      go_wp2
      go_ret
      exact ⟨rfl, HB.out⟩
    have D5 : Hid (decide (0 ≤ v ∧ v ≤ 9999) = true) := decide_eq_true b5
    obtain rfl : o = 0 := HO.out.symm.trans (opF_ok HS.out (decide_eq_true ⟨b1, b2, b3, b4, b5⟩))
    clear b1 b2 b3 b4 b5
    go_wp2_with fail
    refine (inodeS_is _ _ D1.out _).mono ?_
    rintro e w9 ⟨rfl, hw9⟩
    obtain rfl := hw9.symm
    go_wp2_with fail
    refine (inodeS_is _ _ D2.out _).mono ?_
    rintro e w9 ⟨rfl, hw9⟩
    obtain rfl := hw9.symm
    go_wp2_with fail
    refine (nameS_is _ _ D3.out _).mono ?_
    rintro e w9 ⟨rfl, hw9⟩
    obtain rfl := hw9.symm
    go_wp2_with fail
    refine (nameS_is _ _ D4.out _).mono ?_
    rintro e w9 ⟨rfl, hw9⟩
    obtain rfl := hw9.symm
    go_wp2_with fail
    refine (inT_is _ _ _ _ D5.out _).mono ?_
    rintro e w9 ⟨rfl, hw9⟩
    obtain rfl := hw9.symm
    go_wp2
    go_ret
    exact ⟨rfl, HB.out⟩
  have e6 : (kd != 6) = true := bne_iff_ne.2 h6
  by_cases hv : v = 0
  · subst hv
    obtain rfl : r = true := HS.out.symm.trans (HK.out.trans (decide_eq_true (by omega)))
    clear h4 h5 h6 h8
    go_enter Tryz.func25, Tryz.ntmps25
    go_wp2_with fail
    refine (inT_is _ _ _ _ D8.out _).mono ?_
    rintro e w9 ⟨rfl, hw9⟩
    obtain rfl := hw9.symm
    by_cases b1 : 0 ≤ d ∧ d ≤ 9
    case neg =>
      have D1 : Hid (decide (0 ≤ d ∧ d ≤ 9) = false) := decide_eq_false b1
      obtain rfl : o = 3 := HO.out.symm.trans (opF_range HS.out (bounds_no fun q => b1 q.1))
      clear b1
      go_wp2_with fail
      refine (inodeS_is _ _ D1.out _).mono ?_
      rintro e w9 ⟨rfl, hw9⟩
      obtain rfl := hw9.symm
      go_wp2
      go_ret
      exact ⟨rfl, HB.out⟩
    have D1 : Hid (decide (0 ≤ d ∧ d ≤ 9) = true) := decide_eq_true b1
    by_cases b2 : 0 ≤ (0 : Int) ∧ (0 : Int) ≤ 9
    case neg =>
      have D2 : Hid (decide (0 ≤ (0 : Int) ∧ (0 : Int) ≤ 9) = false) := decide_eq_false b2
      obtain rfl : o = 3 := HO.out.symm.trans (opF_range HS.out (bounds_no fun q => b2 q.2.1))
      clear b1 b2
      go_wp2_with fail
      refine (inodeS_is _ _ D1.out _).mono ?_
      rintro e w9 ⟨rfl, hw9⟩
      obtain rfl := hw9.symm
      go_wp2_with fail
      refine (inodeS_is _ _ D2.out _).mono ?_
      rintro e w9 ⟨rfl, hw9⟩
      obtain rfl := hw9.symm
      go_wp2
      go_ret
      exact ⟨rfl, HB.out⟩
    have D2 : Hid (decide (0 ≤ (0 : Int) ∧ (0 : Int) ≤ 9) = true) := decide_eq_true b2
    by_cases b3 : 0 ≤ n ∧ n ≤ 5
    case neg =>
      have D3 : Hid (decide (0 ≤ n ∧ n ≤ 5) = false) := decide_eq_false b3
      obtain rfl : o = 3 := HO.out.symm.trans (opF_range HS.out (bounds_no fun q => b3 q.2.2.1))
      clear b1 b2 b3
      go_wp2_with fail
      refine (inodeS_is _ _ D1.out _).mono ?_
      rintro e w9 ⟨rfl, hw9⟩
      obtain rfl := hw9.symm
      go_wp2_with fail
      refine (inodeS_is _ _ D2.out _).mono ?_
      rintro e w9 ⟨rfl, hw9⟩
      obtain rfl := hw9.symm
      go_wp2_with fail
      refine (nameS_is _ _ D3.out _).mono ?_
      rintro e w9 ⟨rfl, hw9⟩
      obtain rfl := hw9.symm
      go_wp2
      go_ret
      exact ⟨rfl, HB.out⟩
    have D3 : Hid (decide (0 ≤ n ∧ n ≤ 5) = true) := decide_eq_true b3
    by_cases b4 : 0 ≤ (0 : Int) ∧ (0 : Int) ≤ 5
    case neg =>
      have D4 : Hid (decide (0 ≤ (0 : Int) ∧ (0 : Int) ≤ 5) = false) := decide_eq_false b4
      obtain rfl : o = 3 := HO.out.symm.trans (opF_range HS.out (bounds_no fun q => b4 q.2.2.2.1))
      clear b1 b2 b3 b4
      go_wp2_with fail
      refine (inodeS_is _ _ D1.out _).mono ?_
      rintro e w9 ⟨rfl, hw9⟩
      obtain rfl := hw9.symm
      go_wp2_with fail
      refine (inodeS_is _ _ D2.out _).mono ?_
      rintro e w9 ⟨rfl, hw9⟩
      obtain rfl := hw9.symm
      go_wp2_with fail
      refine (nameS_is _ _ D3.out _).mono ?_
      rintro e w9 ⟨rfl, hw9⟩
      obtain rfl := hw9.symm
      go_wp2_with fail
      refine (nameS_is _ _ D4.out _).mono ?_
      rintro e w9 ⟨rfl, hw9⟩
      obtain rfl := hw9.symm
      go_wp2
      go_ret
      exact ⟨rfl, HB.out⟩
    have D4 : Hid (decide (0 ≤ (0 : Int) ∧ (0 : Int) ≤ 5) = true) := decide_eq_true b4
    by_cases b5 : 0 ≤ (0 : Int) ∧ (0 : Int) ≤ 9999
    case neg =>
      have D5 : Hid (decide (0 ≤ (0 : Int) ∧ (0 : Int) ≤ 9999) = false) := decide_eq_false b5
      obtain rfl : o = 3 := HO.out.symm.trans (opF_range HS.out (bounds_no fun q => b5 q.2.2.2.2))
      clear b1 b2 b3 b4 b5
      go_wp2_with fail
      refine (inodeS_is _ _ D1.out _).mono ?_
      rintro e w9 ⟨rfl, hw9⟩
      obtain rfl := hw9.symm
      go_wp2_with fail
      refine (inodeS_is _ _ D2.out _).mono ?_
      rintro e w9 ⟨rfl, hw9⟩
      obtain rfl := hw9.symm
      go_wp2_with fail
      refine (nameS_is _ _ D3.out _).mono ?_
      rintro e w9 ⟨rfl, hw9⟩
      obtain rfl := hw9.symm
      go_wp2_with fail
      refine (nameS_is _ _ D4.out _).mono ?_
      rintro e w9 ⟨rfl, hw9⟩
      obtain rfl := hw9.symm
      go_wp2_with fail
      refine (inT_is _ _ _ _ D5.out _).mono ?_
      rintro e w9 ⟨rfl, hw9⟩
      obtain rfl := hw9.symm
      go_wp2
      go_ret
      exact ⟨rfl, HB.out⟩
    have D5 : Hid (decide (0 ≤ (0 : Int) ∧ (0 : Int) ≤ 9999) = true) := decide_eq_true b5
    obtain rfl : o = 0 := HO.out.symm.trans (opF_ok HS.out (decide_eq_true ⟨b1, b2, b3, b4, b5⟩))
    clear b1 b2 b3 b4 b5
    go_wp2_with fail
    refine (inodeS_is _ _ D1.out _).mono ?_
    rintro e w9 ⟨rfl, hw9⟩
    obtain rfl := hw9.symm
    go_wp2_with fail
    refine (inodeS_is _ _ D2.out _).mono ?_
    rintro e w9 ⟨rfl, hw9⟩
    obtain rfl := hw9.symm
    go_wp2_with fail
    refine (nameS_is _ _ D3.out _).mono ?_
    rintro e w9 ⟨rfl, hw9⟩
    obtain rfl := hw9.symm
    go_wp2_with fail
    refine (nameS_is _ _ D4.out _).mono ?_
    rintro e w9 ⟨rfl, hw9⟩
    obtain rfl := hw9.symm
    go_wp2_with fail
    refine (inT_is _ _ _ _ D5.out _).mono ?_
    rintro e w9 ⟨rfl, hw9⟩
    obtain rfl := hw9.symm
    go_wp2
    go_ret
    exact ⟨rfl, HB.out⟩
  have ev : (v != 0) = true := bne_iff_ne.2 hv
  obtain rfl : o = 1 := HO.out.symm.trans (opF_form (HK.out.trans (decide_eq_false (by omega))))
  clear h4 h5 h6 h8 hv
  go_enter Tryz.func25, Tryz.ntmps25
  go_wp2_with fail
  refine (inT_is _ _ _ _ D8.out _).mono ?_
  rintro e w9 ⟨rfl, hw9⟩
  obtain rfl := hw9.symm
  go_wp2
  go_ret
  exact ⟨rfl, HB.out⟩
end Go.Proofs.YtnchaccgenfhoaaGreat

namespace Go.Proofs.YtnchaccgenfhoaaGreat
open Go.RowKit

/-- The keys of an inode, an entry, a file's bytes. -/
def kI (a : Int) : Int := 10 + a
def kE (a b : Int) : Int := 20 + 10 * a + b
def kB (a : Int) : Int := 180 + a
theorem field_int1 (c v : Int) (w : World) : (Instr.field 45 (.agg #[.int .i64 c, .int .i64 v]) 1).run Tryz.prog w = .ok (.int .i64 v) w := by kernel_rfl
theorem of_next : (ofBoth 0 0 0).2 = 0 := by decide
theorem of_inode {a : Int} (h : 0 ≤ a ∧ a ≤ 9) : (ofBoth 1 a 0).2 = kI a := by rw [ofBoth_ok (by omega) (by omega) (by omega)]; rfl
theorem of_entry {a b : Int} (h : 0 ≤ a ∧ a ≤ 9) (hb : 0 ≤ b ∧ b ≤ 5) : (ofBoth 2 a b).2 = kE a b := by rw [ofBoth_ok (by omega) (by omega) (by omega)]; rfl
theorem of_bytes {a : Int} (h : 0 ≤ a ∧ a ≤ 9) : (ofBoth 3 a 0).2 = kB a := by rw [ofBoth_ok (by omega) (by omega) (by omega)]; rfl
set_option maxRecDepth 100000 in
set_option maxHeartbeats 400000 in
theorem nextKey_is   (w : World) :
    Calls Tryz.prog 66 #[] w fun e w' => e = .returned (.int .i64 (0)) ∧ Below w.heap.size w w' := by
  have fi := fun c v w => field_int1 c v w
  go_enter Tryz.func66, Tryz.ntmps66
  go_wp2_with fail
  refine (implKeyOf_any 0 0 0 _).mono ?_
  rintro e w1 ⟨rfl, rfl⟩
  rw [of_next]
  go_wp2
  go_ret
  exact ⟨rfl, below_alloc _ _⟩
set_option maxRecDepth 100000 in
set_option maxHeartbeats 400000 in
theorem inodeKey_is (a : Int) (ha : 0 ≤ a ∧ a ≤ 9) (w : World) :
    Calls Tryz.prog 73 #[.int .i64 a] w fun e w' => e = .returned (.int .i64 (kI a)) ∧ Below w.heap.size w w' := by
  have fi := fun c v w => field_int1 c v w
  go_enter Tryz.func73, Tryz.ntmps73
  go_wp2_with fail
  refine (implKeyOf_any 1 a 0 _).mono ?_
  rintro e w1 ⟨rfl, rfl⟩
  rw [of_inode ha]
  go_wp2
  go_ret
  exact ⟨rfl, below_alloc _ _⟩
set_option maxRecDepth 100000 in
set_option maxHeartbeats 400000 in
theorem entryKey_is (a b : Int) (ha : 0 ≤ a ∧ a ≤ 9) (hb : 0 ≤ b ∧ b ≤ 5) (w : World) :
    Calls Tryz.prog 34 #[.int .i64 a, .int .i64 b] w fun e w' => e = .returned (.int .i64 (kE a b)) ∧ Below w.heap.size w w' := by
  have fi := fun c v w => field_int1 c v w
  go_enter Tryz.func34, Tryz.ntmps34
  go_wp2_with fail
  refine (implKeyOf_any 2 a b _).mono ?_
  rintro e w1 ⟨rfl, rfl⟩
  rw [of_entry ha hb]
  go_wp2
  go_ret
  exact ⟨rfl, below_alloc _ _⟩
set_option maxRecDepth 100000 in
set_option maxHeartbeats 400000 in
theorem bytesKey_is (a : Int) (ha : 0 ≤ a ∧ a ≤ 9) (w : World) :
    Calls Tryz.prog 90 #[.int .i64 a] w fun e w' => e = .returned (.int .i64 (kB a)) ∧ Below w.heap.size w w' := by
  have fi := fun c v w => field_int1 c v w
  go_enter Tryz.func90, Tryz.ntmps90
  go_wp2_with fail
  refine (implKeyOf_any 3 a 0 _).mono ?_
  rintro e w1 ⟨rfl, rfl⟩
  rw [of_bytes ha]
  go_wp2
  go_ret
  exact ⟨rfl, below_alloc _ _⟩
set_option maxHeartbeats 400000 in
theorem ofI_is (a : Int) (ha : 0 ≤ a ∧ a ≤ 9) (w : World) :
    Calls Tryz.prog 83 #[.int .i64 1, .int .i64 a, .int .i64 0] w fun e w' => e = .returned (.int .i64 (kI a)) ∧ w' = w := by
  go_enter Tryz.func83, Tryz.ntmps83
  go_wp2
  go_ret
  exact ⟨by first | rfl | (unfold kI; rfl) | (unfold kE; rfl) | (unfold kB; rfl), rfl⟩
set_option maxHeartbeats 400000 in
theorem ofE_is (a b : Int) (ha : 0 ≤ a ∧ a ≤ 9) (hb : 0 ≤ b ∧ b ≤ 5) (w : World) :
    Calls Tryz.prog 83 #[.int .i64 2, .int .i64 a, .int .i64 b] w fun e w' => e = .returned (.int .i64 (kE a b)) ∧ w' = w := by
  go_enter Tryz.func83, Tryz.ntmps83
  go_wp2
  go_ret
  exact ⟨by first | rfl | (unfold kI; rfl) | (unfold kE; rfl) | (unfold kB; rfl), rfl⟩
set_option maxHeartbeats 400000 in
theorem ofB_is (a : Int) (ha : 0 ≤ a ∧ a ≤ 9) (w : World) :
    Calls Tryz.prog 83 #[.int .i64 3, .int .i64 a, .int .i64 0] w fun e w' => e = .returned (.int .i64 (kB a)) ∧ w' = w := by
  go_enter Tryz.func83, Tryz.ntmps83
  go_wp2
  go_ret
  exact ⟨by first | rfl | (unfold kI; rfl) | (unfold kE; rfl) | (unfold kB; rfl), rfl⟩
end Go.Proofs.YtnchaccgenfhoaaGreat

namespace Go.Proofs.YtnchaccgenfhoaaGreat
open Go.RowKit

theorem ownsRow_form {w : World} {base : Nat} {e : TypeId} {size : Nat} {v : Value} {n : Nat} {xs : List Value} (h : w.ownsRow base e size v n xs) : ∃ ao cp, v = .slice ao n cp := by
  obtain ⟨_, ⟨rfl, rfl⟩ | ⟨g, cap, cur, rfl, _⟩⟩ := h
  · exact ⟨_, _, rfl⟩
  · exact ⟨_, _, rfl⟩
/-- A list of whole numbers that the call made, in new memory. -/
def Ints (w : World) (base : Nat) (v : Value) (xs : List Int) : Prop := w.ownsRow base 2 1 v xs.length (xs.map (Value.int .i64))
/-- The cell at a place of a list that the call made. -/
theorem Ints.at {w : World} {B : Nat} {ao : Option Addr} {cp : Nat} {xs : List Int} (h : Ints w B (.slice ao xs.length cp) xs) {k : Nat} (hk : k < xs.length) :
    ∃ g, ao = some ⟨g, 0, none⟩ ∧ B ≤ g ∧ w.cell? ⟨g, k, none⟩ = some (.int .i64 xs[k]) ∧ w.frozen? ⟨g, k, none⟩ = false := by
  have h0 := h
  obtain ⟨_, ⟨hv, hn⟩ | ⟨g, cap, cur, hv, hg, _⟩⟩ := h
  · omega
  · simp only [Value.slice.injEq] at hv
    obtain ⟨rfl, _, rfl⟩ := hv
    refine ⟨g, rfl, hg, ?_, World.ownsRow.frozenAt h0 k⟩
    rw [World.ownsRow.cellAt h0 k (by omega)]
    simp [hk]
theorem Ints.form {w : World} {B : Nat} {v : Value} {xs : List Int} (h : Ints w B v xs) : ∃ ao cp, v = .slice ao xs.length cp := ownsRow_form h

theorem Ints.later {w w' : World} {B : Nat} {v : Value} {xs : List Int} (h : Ints w B v xs) (hb : Below w.heap.size w w') : Ints w' B v xs := by
  obtain ⟨h1, h2⟩ := h
  refine ⟨h1, ?_⟩
  rcases h2 with h2 | ⟨g, cap, cur, hv, hg, hh, r⟩
  · exact Or.inl h2
  · have hlt : g < w.heap.size := by
      rcases Nat.lt_or_ge g w.heap.size with h | h
      · exact h
      · rw [Array.getElem?_eq_none h] at hh; cases hh
    exact Or.inr ⟨g, cap, cur, hv, hg, (hb.block g hlt).trans hh, r⟩
theorem Ints.alloc {w : World} {B : Nat} {v : Value} {xs : List Int} (h : Ints w B v xs) (o : Obj) : Ints (w.alloc o) B v xs := World.ownsRow.alloc h o
theorem Ints.mono {w : World} {B B' : Nat} {v : Value} {xs : List Int} (h : Ints w B v xs) (hb : B' ≤ B) : Ints w B' v xs := World.ownsRow.mono h hb
theorem Ints.drewN {w : World} {B : Nat} {v : Value} {xs : List Int} (h : Ints w B v xs) (n : Nat) : Ints (w.drewN n) B v xs := h
theorem Ints.lt {w : World} {B : Nat} {v : Value} {xs : List Int} (h : Ints w B v xs) : ∀ k, v.ownBlock = some k → B ≤ k ∧ k < w.heap.size := World.ownsRow.lt h
theorem Ints.grown {w w' : World} {B : Nat} {v : Value} {xs : List Int} (h : Ints w B v xs) {row : Option Nat} (hg : w.grownBy w' row) (hne : ∀ k, v.ownBlock = some k → row ≠ some k) : Ints w' B v xs :=
  World.ownsRow.kept h hg (by
    cases hv : v.ownBlock with
    | none => exact Or.inl rfl
    | some k => exact Or.inr (fun e => hne k hv e.symm))
theorem Ints.nil (w : World) (B : Nat) : Ints w B (.slice none 0 0) [] := World.ownsRow_nil w B _ 1
theorem grown_refl_alloc {w : World} (o : Obj) (row : Option Nat) : w.grownBy (w.alloc o) row := ⟨rfl, rfl, rfl, by simp, fun k hk _ => Below.heap_alloc w o k hk⟩
theorem grown_trans {a b c : World} {row : Option Nat} (h : a.grownBy b row) (k : b.grownBy c row) : a.grownBy c row :=
  ⟨k.os.trans h.os, k.tape.trans h.tape, k.output.trans h.output, Nat.le_trans h.size k.size, fun i hi hne => (k.block i (Nat.lt_of_lt_of_le hi h.size) hne).trans (h.block i hi hne)⟩

end Go.Proofs.YtnchaccgenfhoaaGreat

namespace Go.Proofs.YtnchaccgenfhoaaGreat
open Go.RowKit

def vals (F : Nat → Int) (N : Nat) : List Value := (List.range N).map fun p => .int .i64 (F p)
theorem vals_length (F : Nat → Int) (N : Nat) : (vals F N).length = N := by simp [vals]
theorem vals_at (F : Nat → Int) (N p : Nat) (h : p < N) : (vals F N)[p]? = some (.int .i64 (F p)) := by simp [vals, h]
theorem vals_one (F : Nat → Int) (N : Nat) : ∀ u ∈ vals F N, u.oneCell' = true := by
  intro u hu
  simp only [vals, List.mem_map] at hu
  obtain ⟨p, _, rfl⟩ := hu
  rfl
theorem vals_inv {F : Nat → Int} {N p : Nat} {u : Value} (h : (vals F N)[p]? = some u) : p < N ∧ u = .int .i64 (F p) := by
  have hp : p < N := by
    have := (List.getElem?_eq_some_iff.1 h).1
    rwa [vals_length] at this
  rw [vals_at F N p hp] at h
  exact ⟨hp, (Option.some.inj h).symm⟩
/-- A row that a call has made, n elements of m numbers each, with room behind them. -/
def Own (w : World) (B : Nat) (e : TypeId) (m n : Nat) (F : Nat → Int) (v : Value) : Prop := w.ownsRow B e m v n (vals F (n * m))
theorem Own.row {w : World} {B : Nat} {e : TypeId} {m n : Nat} {F : Nat → Int} {v : Value} (h : Own w B e m n F v) : Row w B m n F v ∧ Free w (n * m) v := by
  have h0 : w.ownsRow B e m v n (vals F (n * m)) := h
  rcases h.2 with ⟨rfl, rfl⟩ | ⟨g, cap, cur, rfl, hg, hw, _⟩
  · refine ⟨⟨_, _, rfl, fun q => absurd q (Nat.lt_irrefl 0)⟩, ?_⟩
    rw [Nat.zero_mul]
    exact Free.of0 _ _
  · have hgs : g < w.heap.size := (Array.getElem?_eq_some_iff.1 hw).1
    refine ⟨⟨_, _, rfl, fun _ => ⟨g, 0, rfl, hg, hgs, fun p hp => ?_⟩⟩, ?_⟩
    · rw [Nat.zero_add, World.ownsRow.cellAt h0 p hp, vals_at _ _ _ hp]
    · intro g' o' n' c' hv p hp
      simp only [Value.slice.injEq, Option.some.injEq, Addr.mk.injEq] at hv
      obtain ⟨⟨rfl, rfl, _⟩, _, _⟩ := hv
      rw [Nat.zero_add]
      exact World.ownsRow.frozenAt h0 p
theorem Own.nil (w : World) (B : Nat) (e : TypeId) (m : Nat) (F : Nat → Int) : Own w B e m 0 F (.slice none 0 0) := ⟨by rw [vals_length], Or.inl ⟨rfl, rfl⟩⟩
theorem Own.later {w w' : World} {B : Nat} {e : TypeId} {m n : Nat} {F : Nat → Int} {v : Value} (h : Own w B e m n F v) (hb : Below w.heap.size w w') : Own w' B e m n F v := by
  refine ⟨h.1, ?_⟩
  rcases h.2 with q | ⟨g, cap, cur, rfl, hg, hw, r⟩
  · exact Or.inl q
  · exact Or.inr ⟨g, cap, cur, rfl, hg, (hb.block g (Array.getElem?_eq_some_iff.1 hw).1).trans hw, r⟩
theorem Own.alloc {w : World} {B : Nat} {e : TypeId} {m n : Nat} {F : Nat → Int} {v : Value} (h : Own w B e m n F v) (o : Obj) : Own (w.alloc o) B e m n F v := h.later (below_alloc _ _)
theorem Own.mono {w : World} {B B' : Nat} {e : TypeId} {m n : Nat} {F : Nat → Int} {v : Value} (h : Own w B e m n F v) (hB : B' ≤ B) : Own w B' e m n F v := World.ownsRow.mono h hB
theorem Own.form {w : World} {B : Nat} {e : TypeId} {m n : Nat} {F : Nat → Int} {v : Value} (h : Own w B e m n F v) : ∃ ao cp, v = .slice ao n cp := h.row.1.form
theorem row_cells {w : World} {B m n : Nat} {F : Nat → Int} {a : Addr} {cp : Nat} (h : Row w B m n F (.slice (some a) n cp)) : ∀ j u, (vals F (n * m))[j]? = some u → w.cell? (a.add j) = some u := by
  intro j u hu
  obtain ⟨hj, rfl⟩ := vals_inv hu
  obtain ⟨ao, cp', hv, h⟩ := h
  have hn : 0 < n := Nat.pos_of_ne_zero (fun e => by rw [e, Nat.zero_mul] at hj; omega)
  obtain ⟨g, o, rfl, _, _, hc⟩ := h hn
  simp only [Value.slice.injEq, Option.some.injEq] at hv
  obtain ⟨rfl, _⟩ := hv
  rw [WideShapes.add_plain]
  exact hc j hj
theorem below_grownBy {B : Nat} {w x x' : World} {row : Option Nat} (h : Below B w x) (hB : B ≤ x.heap.size) (hr : ∀ b, row = some b → B ≤ b) (g : x.grownBy x' row) : Below B w x' :=
  ⟨g.os.trans h.os, g.tape.trans h.tape, g.output.trans h.output, Nat.le_trans h.size g.size, fun i hi => (g.block i (by omega) (by intro e; have := hr i e.symm; omega)).trans (h.block i hi)⟩
theorem own_empty (w : World) (e : TypeId) (m : Nat) : (w.alloc (.cells #[] e)).ownsRow w.heap.size e m (.slice (some ⟨w.heap.size, 0, none⟩) 0 0) 0 [] :=
  ⟨by simp, Or.inr ⟨w.heap.size, 0, #[], rfl, Nat.le_refl _, (MapKept.heap_alloc w _).1, Nat.le_refl _, Nat.zero_le _, by simp, by simp⟩⟩
/-- A row of structs of m numbers that a call has made, as a list of numbers. -/
def OwnM (w : World) (B : Nat) (e : TypeId) (m : Nat) (v : Value) (n : Nat) (L : List Int) : Prop := w.ownsRow B e m v n (L.map (Value.int .i64))
theorem vals_listM (L : List Int) : vals (fun p => L.getD p 0) L.length = L.map (Value.int .i64) := by
  apply List.ext_getElem?
  intro p
  rcases Nat.lt_or_ge p L.length with h | h
  · rw [vals_at _ _ _ h]
    simp [h]
  · rw [List.getElem?_eq_none (by rw [vals_length]; exact h), List.getElem?_eq_none (by simpa using h)]
theorem OwnM.own {w : World} {B : Nat} {e : TypeId} {m : Nat} {v : Value} {n : Nat} {L : List Int} (h : OwnM w B e m v n L) (hl : L.length = n * m) : Own w B e m n (fun p => L.getD p 0) v := by
  unfold Own
  rw [← hl, vals_listM]
  exact h
theorem OwnM.kept {w w' : World} {B : Nat} {e : TypeId} {m : Nat} {v : Value} {n : Nat} {L : List Int} (h : OwnM w B e m v n L) (hb : ∀ g, B ≤ g → g < w.heap.size → w'.heap[g]? = w.heap[g]?) : OwnM w' B e m v n L := by
  refine ⟨h.1, ?_⟩
  rcases h.2 with q | ⟨g, cap, cur, rfl, hg, hw, r⟩
  · exact Or.inl q
  · exact Or.inr ⟨g, cap, cur, rfl, hg, (hb g hg (Array.getElem?_eq_some_iff.1 hw).1).trans hw, r⟩
theorem OwnM.later {w w' : World} {B : Nat} {e : TypeId} {m : Nat} {v : Value} {n : Nat} {L : List Int} (h : OwnM w B e m v n L) (hb : Below w.heap.size w w') : OwnM w' B e m v n L := h.kept (fun g _ hg => hb.block g hg)
theorem OwnM.far {w : World} {B : Nat} {e : TypeId} {m : Nat} {v : Value} {n : Nat} {L : List Int} (h : OwnM w B e m v n L) {a : Addr} (ha : a.block < B) (u : Value) : OwnM (w.setCell a u) B e m v n L := h.kept (fun g hg _ => Below.heap_setCell w a u g (by omega))
theorem OwnM.nil (w : World) (B : Nat) (e : TypeId) (m : Nat) : OwnM w B e m (.slice none 0 0) 0 [] := ⟨by simp, Or.inl ⟨rfl, rfl⟩⟩
theorem OwnM.form {w : World} {B : Nat} {e : TypeId} {m : Nat} {v : Value} {n : Nat} {L : List Int} (h : OwnM w B e m v n L) : ∃ ao cp, v = .slice ao n cp := by
  rcases h.2 with ⟨rfl, rfl⟩ | ⟨g, cap, cur, rfl, _⟩
  · exact ⟨_, _, rfl⟩
  · exact ⟨_, _, rfl⟩
theorem OwnM.block {w : World} {B : Nat} {e : TypeId} {m : Nat} {v : Value} {n : Nat} {L : List Int} (h : OwnM w B e m v n L) : ∀ k, v.ownBlock = some k → B ≤ k ∧ k < w.heap.size := by
  intro k hk
  rcases h.2 with ⟨rfl, _⟩ | ⟨g, cap, cur, rfl, hg, hw, _⟩
  · simp [Value.ownBlock] at hk
  · simp [Value.ownBlock] at hk
    subst hk
    exact ⟨hg, (Array.getElem?_eq_some_iff.1 hw).1⟩
end Go.Proofs.YtnchaccgenfhoaaGreat

namespace Go.Proofs.YtnchaccgenfhoaaGreat
section
open Go.RowKit
/-- The first N numbers. -/
def nums (F : Nat → Int) (N : Nat) : List Int := (List.range N).map F
theorem nums_length (F : Nat → Int) (N : Nat) : (nums F N).length = N := by simp [nums]
theorem nums_vals (F : Nat → Int) (N : Nat) : (nums F N).map (Value.int .i64) = vals F N := by simp [nums, vals]
theorem run_app (t ty e : TypeId) (i : TypeInfo) (z : Value) (m bytes : Nat) (ht : Tryz.prog.underlying t = some (.slice e)) (hi : Tryz.prog.info? e = some i) (hz : i.zero = some z) (hsize : i.size = m) (hby : i.bytes = bytes) (hzs : z.cells.size = m) (hm : 0 < m) (hb5 : bytes ≤ 1000)
    (w : World) (base n0 : Nat) (L : List Int) (v : Value) (hown : OwnM w base e m v n0 L) (B n : Nat) (F : Nat → Int) (x : Value) (h : Row w B m n F x) (hn : n0 + n ≤ 1048576) (hbase : base ≤ w.heap.size) :
    ∃ ao cp w', (Builtin.append_ #[t, t] ty #[v, x]).run Tryz.prog w = .ok (.slice ao (n0 + n) cp) w' ∧ OwnM w' base e m (.slice ao (n0 + n) cp) (n0 + n) (L ++ nums F (n * m)) ∧ w.grownBy w' v.ownBlock := by
  have hbb : (n0 + n) * bytes ≤ 1048576 * 1000 := Nat.mul_le_mul hn hb5
  obtain ⟨ao, cp, rfl⟩ := h.form
  cases ao with
  | none =>
    have e0 : n = 0 := by
      rcases Nat.eq_zero_or_pos n with q | q
      · exact q
      · obtain ⟨g, o, hg, _⟩ := h.at q
        cases hg
    subst e0
    obtain ⟨av, cv, rfl⟩ := hown.form
    refine ⟨av, cv, w, ?_, ?_, ⟨rfl, rfl, rfl, Nat.le_refl _, fun _ _ _ => rfl⟩⟩
    · rcases hown.2 with ⟨q, _⟩ | ⟨g, cap, cur, q, _, _, hnc, _⟩
      · cases q
        simp [Builtin.append_, run_underlying ht, sizeOf, typeInfo, hi, Builtin.lenOf, Builtin.firstCells]
      · cases q
        simp [Builtin.append_, run_underlying ht, sizeOf, typeInfo, hi, Builtin.lenOf, Builtin.firstCells, hnc, storeCells]
    · simpa [nums] using hown
  | some a =>
    obtain ⟨v', w', h1, h2, h3, _⟩ := run_append_own (P := Tryz.prog) w base t ty e i z m bytes ht hi hz hsize hby hzs hm v n0 _ hown a n cp (vals F (n * m)) (vals_length _ _) (row_cells h) (vals_one _ _) (by unfold maxLen; omega) (by omega) hbase
    have h2' : OwnM w' base e m v' (n0 + n) (L ++ nums F (n * m)) := by
      unfold OwnM
      rw [List.map_append, nums_vals]
      exact h2
    obtain ⟨ao', cp', rfl⟩ := h2'.form
    exact ⟨ao', cp', w', h1, h2', h3⟩
/-- The law for the walk. -/
theorem wpList_app (e : TypeId) (i : TypeInfo) (z : Value) (m bytes : Nat) {ops : Array Oper} {rest : List Oper} {o : Oper} {a : Act} {Q : Exit → Act → World → Prop} (hgd : o.guard = none) (s x : Operand) (t : TypeId) (ho : o.op = .call { callee := .builtin .append, args := #[s, x], argTypes := #[t, t] })
    (ht : Tryz.prog.underlying t = some (.slice e)) (hi : Tryz.prog.info? e = some i) (hz : i.zero = some z) (hsize : i.size = m) (hby : i.bytes = bytes) (hzs : z.cells.size = m) (hm : 0 < m) (hb5 : bytes ≤ 1000)
    (w : World) (base n0 : Nat) (L : List Int) (v : Value) (hs : a.eval s = v) (hown : OwnM w base e m v n0 L) (B n : Nat) (F : Nat → Int) (u : Value) (hx : a.eval x = u) (h : Row w B m n F u) (hn : n0 + n ≤ 1048576) (hbase : base ≤ w.heap.size)
    (hK : ∀ ao cp w', OwnM w' base e m (.slice ao (n0 + n) cp) (n0 + n) (L ++ nums F (n * m)) → w.grownBy w' v.ownBlock → wpList Tryz.prog ops Q rest (a.put o.dst (.slice ao (n0 + n) cp)) w') : wpList Tryz.prog ops Q (o :: rest) a w := by
  refine wpList_plain hgd fun K hK' => ?_
  obtain ⟨ao, cp, w', hr, h2, h3⟩ := run_app t o.type e i z m bytes ht hi hz hsize hby hzs hm hb5 w base n0 L v hown B n F u h hn hbase
  unfold Oper.wp execOp
  simp only [ho, resolve, invoke, builtin, Sem.run_bind, Sem.run_pure, Result.andThen_ok, List.map_toArray, List.map_cons, List.map_nil, hs, hx, hr]
  exact hK' _ _ (hK ao cp w' h2 h3)
/-- .. and at one operation. -/
theorem wp_app (e : TypeId) (i : TypeInfo) (z : Value) (m bytes : Nat) {o : Oper} {a : Act} {K : Act → World → Prop} {Q : Exit → Act → World → Prop} (s x : Operand) (t : TypeId) (ho : o.op = .call { callee := .builtin .append, args := #[s, x], argTypes := #[t, t] })
    (ht : Tryz.prog.underlying t = some (.slice e)) (hi : Tryz.prog.info? e = some i) (hz : i.zero = some z) (hsize : i.size = m) (hby : i.bytes = bytes) (hzs : z.cells.size = m) (hm : 0 < m) (hb5 : bytes ≤ 1000)
    (w : World) (base n0 : Nat) (L : List Int) (v : Value) (hs : a.eval s = v) (hown : OwnM w base e m v n0 L) (B n : Nat) (F : Nat → Int) (u : Value) (hx : a.eval x = u) (h : Row w B m n F u) (hn : n0 + n ≤ 1048576) (hbase : base ≤ w.heap.size)
    (hK : ∀ ao cp w', OwnM w' base e m (.slice ao (n0 + n) cp) (n0 + n) (L ++ nums F (n * m)) → w.grownBy w' v.ownBlock → K (a.put o.dst (.slice ao (n0 + n) cp)) w') : o.wp Tryz.prog a w K Q := by
  obtain ⟨ao, cp, w', hr, h2, h3⟩ := run_app t o.type e i z m bytes ht hi hz hsize hby hzs hm hb5 w base n0 L v hown B n F u h hn hbase
  unfold Oper.wp execOp
  simp only [ho, resolve, invoke, builtin, Sem.run_bind, Sem.run_pure, Result.andThen_ok, List.map_toArray, List.map_cons, List.map_nil, hs, hx, hr]
  exact hK ao cp w' h2 h3
/-- .. and at one step of a region that draws. -/
theorem step_app (e : TypeId) (i : TypeInfo) (z : Value) (m bytes : Nat) {ops : Array Oper} {o : Oper} {a : Act} {K : Act → World → Prop} {Q : Exit → Act → World → Prop} {E : Prop} (hgd : o.guard = none) (s x : Operand) (t : TypeId) (ho : o.op = .call { callee := .builtin .append, args := #[s, x], argTypes := #[t, t] })
    (ht : Tryz.prog.underlying t = some (.slice e)) (hi : Tryz.prog.info? e = some i) (hz : i.zero = some z) (hsize : i.size = m) (hby : i.bytes = bytes) (hzs : z.cells.size = m) (hm : 0 < m) (hb5 : bytes ≤ 1000)
    (w : World) (base n0 : Nat) (L : List Int) (v : Value) (hs : a.eval s = v) (hown : OwnM w base e m v n0 L) (B n : Nat) (F : Nat → Int) (u : Value) (hx : a.eval x = u) (h : Row w B m n F u) (hn : n0 + n ≤ 1048576) (hbase : base ≤ w.heap.size)
    (hK : ∀ ao cp w', OwnM w' base e m (.slice ao (n0 + n) cp) (n0 + n) (L ++ nums F (n * m)) → w.grownBy w' v.ownBlock → K (a.put o.dst (.slice ao (n0 + n) cp)) w') :
    if Region.wanted o (yielded ops a.tmps) = true then Oper.wp Tryz.prog o a w K Q else E := by
  have hw : Region.wanted o (yielded ops a.tmps) = true := by simp [Region.wanted, hgd]
  rw [if_pos hw]
  exact wp_app e i z m bytes s x t ho ht hi hz hsize hby hzs hm hb5 w base n0 L v hs hown B n F u hx h hn hbase hK
theorem OwnM.lit0 (Y : World) (b : Nat) (e : TypeId) (m : Nat) (hb : Y.heap.size = b) : OwnM (Y.alloc (.cells #[] e)) b e m (.slice (some ⟨b, 0, none⟩) 0 0) 0 [] := by
  subst hb
  exact World.ownsRow_lit Y #[] 0 (Nat.le_refl _) (Nat.zero_le _) (by simp)
/-- The first k elements, and those from k on. -/
theorem Row.head {w : World} {B m n : Nat} {F : Nat → Int} {ao : Option Addr} {cp : Nat} (h : Row w B m n F (.slice ao n cp)) {k : Nat} (hk : k ≤ n) (c' : Nat) : Row w B m k F (.slice ao k c') := by
  obtain ⟨ao', cp', hv, h⟩ := h
  simp only [Value.slice.injEq] at hv
  obtain ⟨rfl, _, _⟩ := hv
  refine ⟨_, _, rfl, fun hn => ?_⟩
  obtain ⟨g, o, ha, hB, hg, hc⟩ := h (by omega)
  exact ⟨g, o, ha, hB, hg, fun p hp => hc p (Nat.lt_of_lt_of_le hp (Nat.mul_le_mul_right m hk))⟩
theorem Row.tail {w : World} {B m n g o : Nat} {F : Nat → Int} {cp : Nat} (h : Row w B m n F (.slice (some ⟨g, o, none⟩) n cp)) {k : Nat} (hk : k < n) (c' : Nat) : Row w B m (n - k) (fun p => F (k * m + p)) (.slice (some ⟨g, o + k * m, none⟩) (n - k) c') := by
  obtain ⟨ao', cp', hv, h⟩ := h
  obtain ⟨g', o', ha, hB, hg, hc⟩ := h (by omega)
  simp only [Value.slice.injEq] at hv
  obtain ⟨rfl, _, _⟩ := hv
  simp only [Option.some.injEq, Addr.mk.injEq] at ha
  obtain ⟨rfl, rfl, _⟩ := ha
  refine ⟨_, _, rfl, fun _ => ⟨g, o + k * m, rfl, hB, hg, fun p hp => ?_⟩⟩
  rw [Nat.add_assoc]
  refine hc _ ?_
  have e1 : (n - k) * m = n * m - k * m := Nat.sub_mul n k m
  have e2 : k * m ≤ n * m := Nat.mul_le_mul_right m (by omega)
  omega
theorem OwnM.keptB {w w' : World} {B : Nat} {e : TypeId} {m : Nat} {v : Value} {n : Nat} {L : List Int} (h : OwnM w B e m v n L) (hb : ∀ k, v.ownBlock = some k → w'.heap[k]? = w.heap[k]?) : OwnM w' B e m v n L := by
  obtain ⟨h1, h2⟩ := h
  refine ⟨h1, ?_⟩
  rcases h2 with q | ⟨g, cap, cur, rfl, q1, q2, q3⟩
  · exact Or.inl q
  · exact Or.inr ⟨g, cap, cur, rfl, q1, (hb g rfl).trans q2, q3⟩
theorem OwnM.set {w : World} {B : Nat} {e : TypeId} {m : Nat} {v : Value} {n : Nat} {L : List Int} (h : OwnM w B e m v n L) {c : Nat} (hc : ∀ k, v.ownBlock = some k → k ≠ c) (j : Nat) (u : Value) : OwnM (w.setCell ⟨c, j, none⟩ u) B e m v n L :=
  h.keptB (fun k hk => Below.heap_setCell w _ u k (hc k hk))
theorem OwnM.cap {w : World} {B : Nat} {e : TypeId} {m n : Nat} {ao : Option Addr} {cp : Nat} {L : List Int} (h : OwnM w B e m (.slice ao n cp) n L) : n ≤ cp := by
  rcases h.2 with ⟨q, e⟩ | ⟨g, cap, cur, q, _, _, hn, _⟩
  · cases q; exact Nat.le_refl _
  · cases q; exact hn
theorem run_appL (t ty e : TypeId) (i : TypeInfo) (z : Value) (m bytes : Nat) (ht : Tryz.prog.underlying t = some (.slice e)) (hi : Tryz.prog.info? e = some i) (hz : i.zero = some z) (hsize : i.size = m) (hby : i.bytes = bytes) (hzs : z.cells.size = m) (hm : 0 < m) (hb5 : bytes ≤ 1000)
    (w : World) (base n0 : Nat) (L : List Int) (v : Value) (hown : OwnM w base e m v n0 L) (B n : Nat) (F : Nat → Int) (x : Value) (h : Row w B m n F x) (hn : n0 + n ≤ 1048576) (hbase : base ≤ w.heap.size) :
    ∃ ao cp w', (Builtin.append_ #[t, t] ty #[v, x]).run Tryz.prog w = .ok (.slice ao (n0 + n) cp) w' ∧ OwnM w' base e m (.slice ao (n0 + n) cp) (n0 + n) (L ++ nums F (n * m)) ∧ w.grownBy w' v.ownBlock ∧ ((Value.slice ao (n0 + n) cp).ownBlock = v.ownBlock ∨ (Value.slice ao (n0 + n) cp).ownBlock = some w.heap.size) := by
  have hbb : (n0 + n) * bytes ≤ 1048576 * 1000 := Nat.mul_le_mul hn hb5
  obtain ⟨ao, cp, rfl⟩ := h.form
  cases ao with
  | none =>
    have e0 : n = 0 := by
      rcases Nat.eq_zero_or_pos n with q | q
      · exact q
      · obtain ⟨g, o, hg, _⟩ := h.at q
        cases hg
    subst e0
    obtain ⟨av, cv, rfl⟩ := hown.form
    refine ⟨av, cv, w, ?_, ?_, ⟨rfl, rfl, rfl, Nat.le_refl _, fun _ _ _ => rfl⟩, Or.inl rfl⟩
    · rcases hown.2 with ⟨q, _⟩ | ⟨g, cap, cur, q, _, _, hnc, _⟩
      · cases q
        simp [Builtin.append_, run_underlying ht, sizeOf, typeInfo, hi, Builtin.lenOf, Builtin.firstCells]
      · cases q
        simp [Builtin.append_, run_underlying ht, sizeOf, typeInfo, hi, Builtin.lenOf, Builtin.firstCells, hnc, storeCells]
    · simpa [nums] using hown
  | some a =>
    obtain ⟨v', w', h1, h2, h3, _, h5⟩ := run_append_own_at (P := Tryz.prog) w base t ty e i z m bytes ht hi hz hsize hby hzs hm v n0 _ hown a n cp (vals F (n * m)) (vals_length _ _) (row_cells h) (vals_one _ _) (by unfold maxLen; omega) (by omega) hbase
    have h2' : OwnM w' base e m v' (n0 + n) (L ++ nums F (n * m)) := by
      unfold OwnM
      rw [List.map_append, nums_vals]
      exact h2
    obtain ⟨ao', cp', rfl⟩ := h2'.form
    exact ⟨ao', cp', w', h1, h2', h3, h5⟩
/-- .. with the word where the new row lies, for the walk. -/
theorem wpList_appL (e : TypeId) (i : TypeInfo) (z : Value) (m bytes : Nat) {ops : Array Oper} {rest : List Oper} {o : Oper} {a : Act} {Q : Exit → Act → World → Prop} (hgd : o.guard = none) (s x : Operand) (t : TypeId) (ho : o.op = .call { callee := .builtin .append, args := #[s, x], argTypes := #[t, t] })
    (ht : Tryz.prog.underlying t = some (.slice e)) (hi : Tryz.prog.info? e = some i) (hz : i.zero = some z) (hsize : i.size = m) (hby : i.bytes = bytes) (hzs : z.cells.size = m) (hm : 0 < m) (hb5 : bytes ≤ 1000)
    (w : World) (base n0 : Nat) (L : List Int) (v : Value) (hs : a.eval s = v) (hown : OwnM w base e m v n0 L) (B n : Nat) (F : Nat → Int) (u : Value) (hx : a.eval x = u) (h : Row w B m n F u) (hn : n0 + n ≤ 1048576) (hbase : base ≤ w.heap.size)
    (hK : ∀ ao cp w', OwnM w' base e m (.slice ao (n0 + n) cp) (n0 + n) (L ++ nums F (n * m)) → w.grownBy w' v.ownBlock → ((Value.slice ao (n0 + n) cp).ownBlock = v.ownBlock ∨ (Value.slice ao (n0 + n) cp).ownBlock = some w.heap.size) → wpList Tryz.prog ops Q rest (a.put o.dst (.slice ao (n0 + n) cp)) w') : wpList Tryz.prog ops Q (o :: rest) a w := by
  refine wpList_plain hgd fun K hK' => ?_
  obtain ⟨ao, cp, w', hr, h2, h3, h5⟩ := run_appL t o.type e i z m bytes ht hi hz hsize hby hzs hm hb5 w base n0 L v hown B n F u h hn hbase
  unfold Oper.wp execOp
  simp only [ho, resolve, invoke, builtin, Sem.run_bind, Sem.run_pure, Result.andThen_ok, List.map_toArray, List.map_cons, List.map_nil, hs, hx, hr]
  exact hK' _ _ (hK ao cp w' h2 h3 h5)
theorem wp_appL (e : TypeId) (i : TypeInfo) (z : Value) (m bytes : Nat) {o : Oper} {a : Act} {K : Act → World → Prop} {Q : Exit → Act → World → Prop} (s x : Operand) (t : TypeId) (ho : o.op = .call { callee := .builtin .append, args := #[s, x], argTypes := #[t, t] })
    (ht : Tryz.prog.underlying t = some (.slice e)) (hi : Tryz.prog.info? e = some i) (hz : i.zero = some z) (hsize : i.size = m) (hby : i.bytes = bytes) (hzs : z.cells.size = m) (hm : 0 < m) (hb5 : bytes ≤ 1000)
    (w : World) (base n0 : Nat) (L : List Int) (v : Value) (hs : a.eval s = v) (hown : OwnM w base e m v n0 L) (B n : Nat) (F : Nat → Int) (u : Value) (hx : a.eval x = u) (h : Row w B m n F u) (hn : n0 + n ≤ 1048576) (hbase : base ≤ w.heap.size)
    (hK : ∀ ao cp w', OwnM w' base e m (.slice ao (n0 + n) cp) (n0 + n) (L ++ nums F (n * m)) → w.grownBy w' v.ownBlock → ((Value.slice ao (n0 + n) cp).ownBlock = v.ownBlock ∨ (Value.slice ao (n0 + n) cp).ownBlock = some w.heap.size) → K (a.put o.dst (.slice ao (n0 + n) cp)) w') : o.wp Tryz.prog a w K Q := by
  obtain ⟨ao, cp, w', hr, h2, h3, h5⟩ := run_appL t o.type e i z m bytes ht hi hz hsize hby hzs hm hb5 w base n0 L v hown B n F u h hn hbase
  unfold Oper.wp execOp
  simp only [ho, resolve, invoke, builtin, Sem.run_bind, Sem.run_pure, Result.andThen_ok, List.map_toArray, List.map_cons, List.map_nil, hs, hx, hr]
  exact hK ao cp w' h2 h3 h5
theorem step_appL (e : TypeId) (i : TypeInfo) (z : Value) (m bytes : Nat) {ops : Array Oper} {o : Oper} {a : Act} {K : Act → World → Prop} {Q : Exit → Act → World → Prop} {E : Prop} (hgd : o.guard = none) (s x : Operand) (t : TypeId) (ho : o.op = .call { callee := .builtin .append, args := #[s, x], argTypes := #[t, t] })
    (ht : Tryz.prog.underlying t = some (.slice e)) (hi : Tryz.prog.info? e = some i) (hz : i.zero = some z) (hsize : i.size = m) (hby : i.bytes = bytes) (hzs : z.cells.size = m) (hm : 0 < m) (hb5 : bytes ≤ 1000)
    (w : World) (base n0 : Nat) (L : List Int) (v : Value) (hs : a.eval s = v) (hown : OwnM w base e m v n0 L) (B n : Nat) (F : Nat → Int) (u : Value) (hx : a.eval x = u) (h : Row w B m n F u) (hn : n0 + n ≤ 1048576) (hbase : base ≤ w.heap.size)
    (hK : ∀ ao cp w', OwnM w' base e m (.slice ao (n0 + n) cp) (n0 + n) (L ++ nums F (n * m)) → w.grownBy w' v.ownBlock → ((Value.slice ao (n0 + n) cp).ownBlock = v.ownBlock ∨ (Value.slice ao (n0 + n) cp).ownBlock = some w.heap.size) → K (a.put o.dst (.slice ao (n0 + n) cp)) w') :
    if Region.wanted o (yielded ops a.tmps) = true then Oper.wp Tryz.prog o a w K Q else E := by
  have hw : Region.wanted o (yielded ops a.tmps) = true := by simp [Region.wanted, hgd]
  rw [if_pos hw]
  exact wp_appL e i z m bytes s x t ho ht hi hz hsize hby hzs hm hb5 w base n0 L v hs hown B n F u hx h hn hbase hK
end
end Go.Proofs.YtnchaccgenfhoaaGreat

namespace Go.Proofs.YtnchaccgenfhoaaGreat
open Go.RowKit

theorem run_appX (t ty e : TypeId) (i : TypeInfo) (z : Value) (m bytes : Nat) (ht : Tryz.prog.underlying t = some (.slice e)) (hi : Tryz.prog.info? e = some i) (hz : i.zero = some z) (hsize : i.size = m) (hby : i.bytes = bytes) (hzs : z.cells.size = m) (hm : 0 < m) (hb5 : bytes ≤ 1000)
    (w : World) (base n0 : Nat) (L : List Int) (v : Value) (hown : OwnM w base e m v n0 L) (B n : Nat) (F : Nat → Int) (x : Value) (h : Row w B m n F x) (hn : n0 + n ≤ 2097152) (hbase : base ≤ w.heap.size) :
    ∃ ao cp w', (Builtin.append_ #[t, t] ty #[v, x]).run Tryz.prog w = .ok (.slice ao (n0 + n) cp) w' ∧ OwnM w' base e m (.slice ao (n0 + n) cp) (n0 + n) (L ++ nums F (n * m)) ∧ w.grownBy w' v.ownBlock ∧ ((Value.slice ao (n0 + n) cp).ownBlock = v.ownBlock ∨ (Value.slice ao (n0 + n) cp).ownBlock = some w.heap.size) := by
  have hbb : (n0 + n) * bytes ≤ 2097152 * 1000 := Nat.mul_le_mul hn hb5
  obtain ⟨ao, cp, rfl⟩ := h.form
  cases ao with
  | none =>
    have e0 : n = 0 := by
      rcases Nat.eq_zero_or_pos n with q | q
      · exact q
      · obtain ⟨g, o, hg, _⟩ := h.at q
        cases hg
    subst e0
    obtain ⟨av, cv, rfl⟩ := hown.form
    refine ⟨av, cv, w, ?_, ?_, ⟨rfl, rfl, rfl, Nat.le_refl _, fun _ _ _ => rfl⟩, Or.inl rfl⟩
    · rcases hown.2 with ⟨q, _⟩ | ⟨g, cap, cur, q, _, _, hnc, _⟩
      · cases q
        simp [Builtin.append_, run_underlying ht, sizeOf, typeInfo, hi, Builtin.lenOf, Builtin.firstCells]
      · cases q
        simp [Builtin.append_, run_underlying ht, sizeOf, typeInfo, hi, Builtin.lenOf, Builtin.firstCells, hnc, storeCells]
    · simpa [nums] using hown
  | some a =>
    obtain ⟨v', w', h1, h2, h3, _, h5⟩ := run_append_own_at (P := Tryz.prog) w base t ty e i z m bytes ht hi hz hsize hby hzs hm v n0 _ hown a n cp (vals F (n * m)) (vals_length _ _) (row_cells h) (vals_one _ _) (by unfold maxLen; omega) (by omega) hbase
    have h2' : OwnM w' base e m v' (n0 + n) (L ++ nums F (n * m)) := by
      unfold OwnM
      rw [List.map_append, nums_vals]
      exact h2
    obtain ⟨ao', cp', rfl⟩ := h2'.form
    exact ⟨ao', cp', w', h1, h2', h3, h5⟩
/-- .. with the word where the new row lies, for the walk. -/
theorem wpList_appX (e : TypeId) (i : TypeInfo) (z : Value) (m bytes : Nat) {ops : Array Oper} {rest : List Oper} {o : Oper} {a : Act} {Q : Exit → Act → World → Prop} (hgd : o.guard = none) (s x : Operand) (t : TypeId) (ho : o.op = .call { callee := .builtin .append, args := #[s, x], argTypes := #[t, t] })
    (ht : Tryz.prog.underlying t = some (.slice e)) (hi : Tryz.prog.info? e = some i) (hz : i.zero = some z) (hsize : i.size = m) (hby : i.bytes = bytes) (hzs : z.cells.size = m) (hm : 0 < m) (hb5 : bytes ≤ 1000)
    (w : World) (base n0 : Nat) (L : List Int) (v : Value) (hs : a.eval s = v) (hown : OwnM w base e m v n0 L) (B n : Nat) (F : Nat → Int) (u : Value) (hx : a.eval x = u) (h : Row w B m n F u) (hn : n0 + n ≤ 2097152) (hbase : base ≤ w.heap.size)
    (hK : ∀ ao cp w', OwnM w' base e m (.slice ao (n0 + n) cp) (n0 + n) (L ++ nums F (n * m)) → w.grownBy w' v.ownBlock → ((Value.slice ao (n0 + n) cp).ownBlock = v.ownBlock ∨ (Value.slice ao (n0 + n) cp).ownBlock = some w.heap.size) → wpList Tryz.prog ops Q rest (a.put o.dst (.slice ao (n0 + n) cp)) w') : wpList Tryz.prog ops Q (o :: rest) a w := by
  refine wpList_plain hgd fun K hK' => ?_
  obtain ⟨ao, cp, w', hr, h2, h3, h5⟩ := run_appX t o.type e i z m bytes ht hi hz hsize hby hzs hm hb5 w base n0 L v hown B n F u h hn hbase
  unfold Oper.wp execOp
  simp only [ho, resolve, invoke, builtin, Sem.run_bind, Sem.run_pure, Result.andThen_ok, List.map_toArray, List.map_cons, List.map_nil, hs, hx, hr]
  exact hK' _ _ (hK ao cp w' h2 h3 h5)
end Go.Proofs.YtnchaccgenfhoaaGreat

namespace Go.Proofs.YtnchaccgenfhoaaGreat
open Go.RowKit

theorem OwnM.len {w : World} {B : Nat} {e : TypeId} {m n : Nat} {v : Value} {L : List Int} (h : OwnM w B e m v n L) : L.length = n * m := by
  have := h.1
  simpa using this
theorem OwnM.rowL {w : World} {B : Nat} {e : TypeId} {m n : Nat} {v : Value} {L : List Int} (h : OwnM w B e m v n L) : Row w B m n (fun p => L.getD p 0) v ∧ Free w (n * m) v := (h.own h.len).row
end Go.Proofs.YtnchaccgenfhoaaGreat

namespace Go.Proofs.YtnchaccgenfhoaaGreat
open Go.RowKit

/-- Block b holds five cells, none frozen: a plan. -/
def BlkP (x : World) (b : Nat) (a0 a1 a2 a3 a4 : Value) : Prop :=
  (x.cell? ⟨b, 0, none⟩ = some a0 ∧ x.cell? ⟨b, 1, none⟩ = some a1 ∧ x.cell? ⟨b, 2, none⟩ = some a2 ∧ x.cell? ⟨b, 3, none⟩ = some a3 ∧ x.cell? ⟨b, 4, none⟩ = some a4) ∧
    x.frozen? ⟨b, 0, none⟩ = false ∧ x.frozen? ⟨b, 1, none⟩ = false ∧ x.frozen? ⟨b, 2, none⟩ = false ∧ x.frozen? ⟨b, 3, none⟩ = false ∧ x.frozen? ⟨b, 4, none⟩ = false
theorem BlkP.kept {x x' : World} {b : Nat} {a0 a1 a2 a3 a4 : Value} (h : BlkP x b a0 a1 a2 a3 a4) (hb : x'.heap[b]? = x.heap[b]?) : BlkP x' b a0 a1 a2 a3 a4 := by
  obtain ⟨⟨h0, h1, h2, h3, h4⟩, f0, f1, f2, f3, f4⟩ := h
  exact ⟨⟨(World.cell?_of_block (w := x) (a := ⟨b, 0, none⟩) hb).trans h0, (World.cell?_of_block (w := x) (a := ⟨b, 1, none⟩) hb).trans h1, (World.cell?_of_block (w := x) (a := ⟨b, 2, none⟩) hb).trans h2, (World.cell?_of_block (w := x) (a := ⟨b, 3, none⟩) hb).trans h3, (World.cell?_of_block (w := x) (a := ⟨b, 4, none⟩) hb).trans h4⟩,
    (World.frozen?_of_block (w := x) (a := ⟨b, 0, none⟩) hb).trans f0, (World.frozen?_of_block (w := x) (a := ⟨b, 1, none⟩) hb).trans f1, (World.frozen?_of_block (w := x) (a := ⟨b, 2, none⟩) hb).trans f2, (World.frozen?_of_block (w := x) (a := ⟨b, 3, none⟩) hb).trans f3, (World.frozen?_of_block (w := x) (a := ⟨b, 4, none⟩) hb).trans f4⟩
theorem BlkP.lt {x : World} {b : Nat} {a0 a1 a2 a3 a4 : Value} (h : BlkP x b a0 a1 a2 a3 a4) : b < x.heap.size := World.block_lt_of_cell? x _ h.1.1
theorem BlkP.later {x x' : World} {b : Nat} {a0 a1 a2 a3 a4 : Value} (h : BlkP x b a0 a1 a2 a3 a4) (hb : Below x.heap.size x x') : BlkP x' b a0 a1 a2 a3 a4 := h.kept (hb.block b h.lt)
theorem BlkP.alloc {x : World} {b : Nat} {a0 a1 a2 a3 a4 : Value} (h : BlkP x b a0 a1 a2 a3 a4) (o : Obj) : BlkP (x.alloc o) b a0 a1 a2 a3 a4 := h.later ((Below.refl _ _).alloc (Nat.le_refl _) o)
theorem BlkP.new (w : World) (a0 a1 a2 a3 a4 : Value) (t : TypeId) : BlkP (w.alloc (.cells #[a0, a1, a2, a3, a4] t)) w.heap.size a0 a1 a2 a3 a4 := by
  refine ⟨⟨World.cell?_alloc_mark w _ _ _ 0, World.cell?_alloc_mark w _ _ _ 1, World.cell?_alloc_mark w _ _ _ 2, World.cell?_alloc_mark w _ _ _ 3, World.cell?_alloc_mark w _ _ _ 4⟩, ?_, ?_, ?_, ?_, ?_⟩ <;> simp
theorem BlkP.putAll {x : World} {b : Nat} {a0 a1 a2 a3 a4 : Value} (h : BlkP x b a0 a1 a2 a3 a4) (c0 c1 c2 c3 c4 : Value) : BlkP (((((x.setCell ⟨b, 0, none⟩ c0).setCell ⟨b, 1, none⟩ c1).setCell ⟨b, 2, none⟩ c2).setCell ⟨b, 3, none⟩ c3).setCell ⟨b, 4, none⟩ c4) b c0 c1 c2 c3 c4 := by
  obtain ⟨⟨h0, h1, h2, h3, h4⟩, f0, f1, f2, f3, f4⟩ := h
  refine ⟨⟨?_, ?_, ?_, ?_, ?_⟩, ?_, ?_, ?_, ?_, ?_⟩ <;> go_simp
theorem BlkP.far {x : World} {b : Nat} {a0 a1 a2 a3 a4 : Value} (h : BlkP x b a0 a1 a2 a3 a4) {p : Addr} (hp : b ≠ p.block) (u : Value) : BlkP (x.setCell p u) b a0 a1 a2 a3 a4 := h.kept (Below.heap_setCell x p u b hp)
theorem run_items2 (a0 a1 a2 b0 b1 b2 : Int) (w : World) : (Instr.buildSlice 79 2 #[(0, .agg #[.int .i64 a0, .int .i64 a1, .int .i64 a2]), (1, .agg #[.int .i64 b0, .int .i64 b1, .int .i64 b2])]).run Tryz.prog w = .ok (.slice (some ⟨w.heap.size, 0, none⟩) 2 2) (w.alloc (.cells #[.int .i64 a0, .int .i64 a1, .int .i64 a2, .int .i64 b0, .int .i64 b1, .int .i64 b2] 132)) := by
  first | kernel_rfl | rfl
/-- A list literal lies in its own block. -/
theorem OwnM.lit (Y : World) (e : TypeId) (m n : Nat) (L : List Int) (cs : Array Value) (hcs : cs = (L.map (Value.int .i64)).toArray) (hl : L.length = n * m) (hn : n ≤ maxLen) : OwnM (Y.alloc (.cells cs e)) Y.heap.size e m (.slice (some ⟨Y.heap.size, 0, none⟩) n n) n L := by
  subst hcs
  have := World.ownsRow_lit (e := e) Y (L.map (Value.int .i64)).toArray n (Nat.le_refl _) hn (size := m) (by simp [hl])
  simpa [OwnM] using this
theorem OwnM.monoP {w : World} {B B' : Nat} {e : TypeId} {m n : Nat} {v : Value} {L : List Int} (h : OwnM w B e m v n L) (hB : B' ≤ B) : OwnM w B' e m v n L := World.ownsRow.mono h hB
set_option maxRecDepth 100000 in
theorem results_plan {fn : Func} {tmps : Array Value} {w : World} {t b : Nat} {a0 a1 a2 a3 a4 : Value} (hr : fn.results = #[.cell t 81]) (ht : tmps[t]?.getD undef = .pointer (some ⟨b, 0, none⟩)) (h : BlkP w b a0 a1 a2 a3 a4) : (results fn tmps).run Tryz.prog w = .ok (.agg #[a0, a1, a2, a3, a4]) w := by
  obtain ⟨⟨h0, h1, h2, h3, h4⟩, _⟩ := h
  simp [results, hr, ht, go_sem, h0, h1, h2, h3, h4]
/-- Block b is one that a plan lies in. -/
def PBk (x : World) (b : Nat) : Prop := ∃ old : Array Value, x.heap[b]? = some (.cells old 81 (0, 0)) ∧ old.size = 5
theorem PBk.lt {x : World} {b : Nat} (h : PBk x b) : b < x.heap.size := by
  obtain ⟨old, h, _⟩ := h
  exact (Array.getElem?_eq_some_iff.1 h).1
theorem PBk.kept {x x' : World} {b : Nat} (h : PBk x b) (hb : x'.heap[b]? = x.heap[b]?) : PBk x' b := by
  obtain ⟨old, h, hs⟩ := h
  exact ⟨old, hb.trans h, hs⟩
theorem PBk.later {x x' : World} {b : Nat} (h : PBk x b) (hb : Below x.heap.size x x') : PBk x' b := h.kept (hb.block b h.lt)
theorem PBk.alloc {x : World} {b : Nat} (h : PBk x b) (o : Obj) : PBk (x.alloc o) b := h.later (below_alloc _ _)
theorem PBk.new (w : World) (a0 a1 a2 a3 a4 : Value) : PBk (w.alloc (.cells #[a0, a1, a2, a3, a4] 81)) w.heap.size := ⟨_, heap_alloc_new w _, rfl⟩
theorem heap_setRow (x : World) (b : Nat) (cs : Array Value) (k : Nat) (hk : k ≠ b) : (x.setRow b cs).heap[k]? = x.heap[k]? := by simp [World.setRow, Array.getElem?_modify]; omega
theorem size_setRow (x : World) (b : Nat) (cs : Array Value) : (x.setRow b cs).heap.size = x.heap.size := by simp [World.setRow]
theorem below_row {B : Nat} {w z : World} (h : Below B w z) {g : Nat} (hg : B ≤ g) (cs : Array Value) : Below B w (z.setRow g cs) :=
  ⟨h.os, h.tape, h.output, by simpa [World.setRow] using h.size, fun k hk => (heap_setRow z g cs k (by omega)).trans (h.block k hk)⟩
theorem wpList_storeP {ops : Array Oper} {rest : List Oper} {o : Oper} {a : Act} {w : World} {Q : Exit → Act → World → Prop} (hgd : o.guard = none) (x y : Operand) (ho : o.op = .store 81 x y)
    (g : Nat) (a0 a1 a2 a3 a4 : Value) (hx : a.eval x = .pointer (some ⟨g, 0, none⟩)) (hy : a.eval y = .agg #[a0, a1, a2, a3, a4]) (hP : PBk w g) (h1 : (#[a0, a1, a2, a3, a4] : Array Value).all (·.oneCell') = true)
    (h : wpList Tryz.prog ops Q rest (a.put o.dst undef) (w.setRow g #[a0, a1, a2, a3, a4])) : wpList Tryz.prog ops Q (o :: rest) a w := by
  obtain ⟨old, hg, hs⟩ := hP
  exact wpList_store_row hgd 81 x y ho g #[a0, a1, a2, a3, a4] hx hy 81 old hg (by kernel_rfl) hs h1 h
theorem results_pl {fn : Func} {p : Tmp} (h : fn.results = #[.cell p 81]) (tmps : Array Value) (w : World) (g : Nat) (a0 a1 a2 a3 a4 : Value) (hp : tmps.getD p undef = .pointer (some ⟨g, 0, none⟩)) (hP : PBk w g) : (results fn tmps).run Tryz.prog (w.setRow g #[a0, a1, a2, a3, a4]) = .ok (.agg #[a0, a1, a2, a3, a4]) (w.setRow g #[a0, a1, a2, a3, a4]) := by
  obtain ⟨old, hg, _⟩ := hP
  exact results_cell_row h tmps _ g 81 #[a0, a1, a2, a3, a4] (0, 0) _ hp (by simp [World.setRow, Array.getElem?_modify, hg]) Tryz.underlying81 rfl (by kernel_rfl)
/-- What a call answers that tells a plan: its numbers, its reads, its writes. -/
def ResPlan (w : World) (c r v : Int) (xs : List Int) (m : Nat) (L : List Int) (e : Ending) (w' : World) : Prop :=
  ∃ vr vw, e = .returned (.agg #[.int .i64 c, .int .i64 r, .int .i64 v, vr, vw]) ∧ (Ints w' w.heap.size vr xs ∧ OwnM w' w.heap.size 132 3 vw m L ∧ ∀ k, vr.ownBlock = some k → vw.ownBlock ≠ some k) ∧ Below w.heap.size w w'
set_option maxHeartbeats 400000 in
theorem putTo_is (k v : Int) (w : World) : Calls Tryz.prog 128 #[.int .i64 k, .int .i64 v] w fun e w' => e = .returned (.agg #[.int .i64 k, .int .i64 1, .int .i64 v]) ∧ Below w.heap.size w w' := by
  go_enter Tryz.func128, Tryz.ntmps128
  go_wp2
  refine bodyPost_ret (v := .agg #[.int .i64 k, .int .i64 1, .int .i64 v]) (by simp [results, Tryz.results128, go_sem]) rfl ⟨rfl, ?_⟩
  repeat (first | exact Below.refl _ _ | refine Below.setCell ?_ (by first | omega | (simp <;> omega)) _ | refine Below.alloc ?_ (by first | omega | (simp <;> omega)) _)
/-- What EmptyFs answers. -/
def EmpAns (x c : Int) (m : Nat) (L : List Int) : Prop := (¬ (1 ≤ x ∧ x ≤ 10) ∧ c = 3 ∧ m = 0 ∧ L = []) ∨ ((1 ≤ x ∧ x ≤ 10) ∧ c = 0 ∧ m = 2 ∧ L = [0, 1, x, 10, 1, 1000])
theorem EmpAns.get (x : Int) : ∃ c m L, EmpAns x c m L := by
  by_cases h : 1 ≤ x ∧ x ≤ 10
  · exact ⟨_, _, _, Or.inr ⟨h, rfl, rfl, rfl⟩⟩
  · exact ⟨_, _, _, Or.inl ⟨h, rfl, rfl, rfl⟩⟩
set_option maxRecDepth 100000 in
set_option maxHeartbeats 2000000 in
theorem specEmpty_is (x c : Int) (m : Nat) (L : List Int) (w : World) (ha : EmpAns x c m L) : Calls Tryz.prog 98 #[.int .i64 x] w (ResPlan w c 0 0 [] m L) := by
  have hit := fun a0 a1 a2 b0 b1 b2 w => run_items2 a0 a1 a2 b0 b1 b2 w
  rcases ha with ⟨h1, rfl, rfl, rfl⟩ | ⟨h1, rfl, rfl, rfl⟩
  · have D : Hid (decide (1 ≤ x ∧ x ≤ 10) = false) := decide_eq_false h1
    clear h1
    go_enter Tryz.func98, Tryz.ntmps98
    go_wp2_with fail
    refine (inT_is _ _ _ _ D.out _).mono ?_
    rintro e w9 ⟨rfl, hw9⟩
    obtain rfl := hw9.symm
    go_wp2
    refine bodyPost_ret (v := .agg #[.int .i64 3, .int .i64 0, .int .i64 0, .slice none 0 0, .slice none 0 0]) (results_plan Tryz.results98 rfl (BlkP.new _ _ _ _ _ _ _)) rfl ⟨_, _, rfl, ⟨Ints.nil _ _, ?_, fun k hk => by cases hk⟩, ?_⟩
    · exact OwnM.nil _ _ _ _
    repeat (first | exact Below.refl _ _ | refine Below.setCell ?_ (by first | omega | (simp <;> omega)) _ | refine Below.alloc ?_ (by first | omega | (simp <;> omega)) _)
  · have D : Hid (decide (1 ≤ x ∧ x ≤ 10) = true) := decide_eq_true h1
    clear h1
    go_enter Tryz.func98, Tryz.ntmps98
    go_wp2_with fail
    refine (inT_is _ _ _ _ D.out _).mono ?_
    rintro e w9 ⟨rfl, hw9⟩
    obtain rfl := hw9.symm
    go_wp2
    refine bodyPost_ret (v := .agg #[.int .i64 0, .int .i64 0, .int .i64 0, .slice none 0 0, .slice (some ⟨w.heap.size + 1, 0, none⟩) 2 2]) (results_plan Tryz.results98 rfl (BlkP.alloc (BlkP.new _ _ _ _ _ _ _) _)) rfl ⟨_, _, rfl, ⟨Ints.nil _ _, ?_, fun k hk => by cases hk⟩, ?_⟩
    · have hl := OwnM.lit (w.alloc (.cells #[.int .i64 0, .int .i64 0, .int .i64 0, .slice none 0 0, .slice (some ⟨w.heap.size + 1, 0, none⟩) 2 2] 81)) 132 3 2 [0, 1, x, 10, 1, 1000] #[.int .i64 0, .int .i64 1, .int .i64 x, .int .i64 10, .int .i64 1, .int .i64 1000] (by simp) rfl (by unfold maxLen; omega)
      rw [World.size_alloc] at hl
      exact OwnM.monoP hl (Nat.le_succ _)
    repeat (first | exact Below.refl _ _ | refine Below.setCell ?_ (by first | omega | (simp <;> omega)) _ | refine Below.alloc ?_ (by first | omega | (simp <;> omega)) _)
end Go.Proofs.YtnchaccgenfhoaaGreat

namespace Go.Proofs.YtnchaccgenfhoaaGreat
open Go.RowKit

theorem Row.at2 {w : World} {B n : Nat} {F : Nat → Int} {ao : Option Addr} {cp : Nat} (h : Row w B 2 n F (.slice ao n cp)) {k : Nat} (hk : k < n) :
    ∃ g o, ao = some ⟨g, o, none⟩ ∧ B ≤ g ∧ g < w.heap.size ∧ w.cell? ⟨g, o + k * 2, none⟩ = some (.int .i64 (F (k * 2))) ∧ w.cell? ⟨g, o + k * 2 + 1, none⟩ = some (.int .i64 (F (k * 2 + 1))) := by
  obtain ⟨g, o, ha, hB, hg, hc⟩ := h.at hk
  exact ⟨g, o, ha, hB, hg, hc 0 (by omega), hc 1 (by omega)⟩
/-- x' is x but for blocks from B on below E, and new ones. -/
structure Within (B E : Nat) (x x' : World) : Prop where
  os : x'.os = x.os
  tape : x'.tape = x.tape
  output : x'.output = x.output
  size : x.heap.size ≤ x'.heap.size
  block : ∀ k, k < x.heap.size → k < B ∨ E ≤ k → x'.heap[k]? = x.heap[k]?
theorem Within.refl (B E : Nat) (x : World) : Within B E x x := ⟨rfl, rfl, rfl, Nat.le_refl _, fun _ _ _ => rfl⟩
theorem Within.trans {B E : Nat} {a b c : World} (h : Within B E a b) (k : Within B E b c) : Within B E a c :=
  ⟨k.os.trans h.os, k.tape.trans h.tape, k.output.trans h.output, Nat.le_trans h.size k.size, fun i hi hr => (k.block i (Nat.lt_of_lt_of_le hi h.size) hr).trans (h.block i hi hr)⟩
theorem Within.grow {B E : Nat} {x x' : World} (h : Below x.heap.size x x') : Within B E x x' := ⟨h.os, h.tape, h.output, h.size, fun k hk _ => h.block k hk⟩
theorem Within.below {B E : Nat} {w x x' : World} (h : Within B E x x') (hw : Below w.heap.size w x) (hB : w.heap.size ≤ B) : Below w.heap.size w x' :=
  ⟨h.os.trans hw.os, h.tape.trans hw.tape, h.output.trans hw.output, Nat.le_trans hw.size h.size, fun k hk => (h.block k (Nat.lt_of_lt_of_le hk hw.size) (Or.inl (by omega))).trans (hw.block k hk)⟩
theorem Within.mono {B E B' E' : Nat} {x x' : World} (h : Within B E x x') (hB : B' ≤ B) (hE : E ≤ E') : Within B' E' x x' := ⟨h.os, h.tape, h.output, h.size, fun k hk ho => h.block k hk (by omega)⟩
theorem Row.within {x x' : World} {C m n B E : Nat} {F : Nat → Int} {v : Value} (h : Row x C m n F v) (hw : Within B E x x') (ho : 0 < n → ∀ k, v.ownBlock = some k → k < B ∨ E ≤ k) : Row x' C m n F v := by
  rcases Nat.eq_zero_or_pos n with e | e
  · subst e
    obtain ⟨ao, cp, rfl, _⟩ := h
    exact ⟨ao, cp, rfl, fun q => absurd q (Nat.lt_irrefl 0)⟩
  · exact h.kept hw.size (fun k hk hlt => hw.block k hlt (ho e k hk))
theorem Free.within {x x' : World} {C m n B E : Nat} {F : Nat → Int} {v : Value} (h : Free x (n * m) v) (hr : Row x C m n F v) (hw : Within B E x x') (ho : 0 < n → ∀ k, v.ownBlock = some k → k < B ∨ E ≤ k) : Free x' (n * m) v := by
  rcases Nat.eq_zero_or_pos n with e | e
  · subst e; rw [Nat.zero_mul]; exact Free.of0 _ _
  · intro g o n' c hv p hp
    rw [World.frozen?_of_block (w := x) (a := ⟨g, o + p, none⟩) (hw.block g (hr.lt e g (by rw [hv]; rfl)).2 (ho e g (by rw [hv]; rfl)))]
    exact h g o n' c hv p hp
theorem Blk3.within {x x' : World} {b B E : Nat} {a0 a1 a2 : Value} (h : Blk3 x b a0 a1 a2) (hw : Within B E x x') (ho : b < B ∨ E ≤ b) : Blk3 x' b a0 a1 a2 := h.kept (hw.block b h.lt ho)
/-- The block that is turned by numbering: none, if there is nothing. -/
def turn (n : Nat) (v : Value) : Option Nat := if n = 0 then none else v.ownBlock
end Go.Proofs.YtnchaccgenfhoaaGreat

namespace Go.Proofs.YtnchaccgenfhoaaGreat
open Go.RowKit

/-- The lists of a plan lie in memory from B on, apart. -/
def PlanAt (w : World) (B : Nat) (xs : List Int) (m : Nat) (L : List Int) (vr vw : Value) : Prop := Ints w B vr xs ∧ OwnM w B 132 3 vw m L ∧ ∀ k, vr.ownBlock = some k → vw.ownBlock ≠ some k
theorem PlanAt.later {w w' : World} {B : Nat} {xs : List Int} {m : Nat} {L : List Int} {vr vw : Value} (h : PlanAt w B xs m L vr vw) (hb : Below w.heap.size w w') : PlanAt w' B xs m L vr vw := ⟨h.1.later hb, OwnM.later h.2.1 hb, h.2.2⟩
theorem PlanAt.alloc {w : World} {B : Nat} {xs : List Int} {m : Nat} {L : List Int} {vr vw : Value} (h : PlanAt w B xs m L vr vw) (o : Obj) : PlanAt (w.alloc o) B xs m L vr vw := h.later (below_alloc _ _)
theorem PlanAt.up {w : World} {B B' : Nat} {xs : List Int} {m : Nat} {L : List Int} {vr vw : Value} (h : PlanAt w B xs m L vr vw) (hB : B' ≤ B) : PlanAt w B' xs m L vr vw := ⟨h.1.mono hB, OwnM.monoP h.2.1 hB, h.2.2⟩
theorem PlanAt.lt {w : World} {B : Nat} {xs : List Int} {m : Nat} {L : List Int} {vr vw : Value} (h : PlanAt w B xs m L vr vw) : (∀ k, vr.ownBlock = some k → k < w.heap.size) ∧ (∀ k, vw.ownBlock = some k → k < w.heap.size) := ⟨fun k hk => (h.1.lt k hk).2, fun k hk => (OwnM.block h.2.1 k hk).2⟩
theorem PlanAt.form {w : World} {B : Nat} {xs : List Int} {m : Nat} {L : List Int} {vr vw : Value} (h : PlanAt w B xs m L vr vw) : (∃ ao cp, vr = .slice ao xs.length cp) ∧ ∃ bo cq, vw = .slice bo m cq := ⟨h.1.form, OwnM.form h.2.1⟩
theorem PlanAt.rows {w : World} {B : Nat} {xs : List Int} {m : Nat} {L : List Int} {vr vw : Value} (h : PlanAt w B xs m L vr vw) : Row w B 3 m (fun p => L.getD p 0) vw ∧ Free w (m * 3) vw := OwnM.rowL h.2.1
end Go.Proofs.YtnchaccgenfhoaaGreat

namespace Go.Proofs.YtnchaccgenfhoaaGreat
open Go.RowKit

/-- The box of the law's store, and that nothing old has turned; and one box more. -/
def One (w : World) (v0 v1 v2 : Value) (x : World) : Prop := Below w.heap.size w x ∧ Blk3 x w.heap.size v0 v1 v2
theorem One.later {w x x' : World} {v0 v1 v2 : Value} (h : One w v0 v1 v2 x) (hb : Below x.heap.size x x') : One w v0 v1 v2 x' := ⟨h.1.trans (hb.mono h.1.size), h.2.later hb⟩
def Two (w : World) (v0 v1 v2 : Value) (g : Nat) (x0 x1 x2 : Value) (x : World) : Prop := One w v0 v1 v2 x ∧ Blk3 x g x0 x1 x2
theorem Two.later {w x x' : World} {v0 v1 v2 : Value} {g : Nat} {x0 x1 x2 : Value} (h : Two w v0 v1 v2 g x0 x1 x2 x) (hb : Below x.heap.size x x') : Two w v0 v1 v2 g x0 x1 x2 x' := ⟨h.1.later hb, h.2.later hb⟩
end Go.Proofs.YtnchaccgenfhoaaGreat

namespace Go.Proofs.YtnchaccgenfhoaaGreat
open Go.RowKit

/-- Block b holds two cells, none frozen. -/
def Blk2 (x : World) (b : Nat) (a0 a1 : Value) : Prop :=
  (x.cell? ⟨b, 0, none⟩ = some a0 ∧ x.cell? ⟨b, 1, none⟩ = some a1) ∧ x.frozen? ⟨b, 0, none⟩ = false ∧ x.frozen? ⟨b, 1, none⟩ = false
theorem Blk2.kept {x x' : World} {b : Nat} {a0 a1 : Value} (h : Blk2 x b a0 a1) (hb : x'.heap[b]? = x.heap[b]?) : Blk2 x' b a0 a1 := by
  obtain ⟨⟨h0, h1⟩, f0, f1⟩ := h
  exact ⟨⟨(World.cell?_of_block (w := x) (a := ⟨b, 0, none⟩) hb).trans h0, (World.cell?_of_block (w := x) (a := ⟨b, 1, none⟩) hb).trans h1⟩,
    (World.frozen?_of_block (w := x) (a := ⟨b, 0, none⟩) hb).trans f0, (World.frozen?_of_block (w := x) (a := ⟨b, 1, none⟩) hb).trans f1⟩
theorem Blk2.lt {x : World} {b : Nat} {a0 a1 : Value} (h : Blk2 x b a0 a1) : b < x.heap.size := World.block_lt_of_cell? x _ h.1.1
theorem Blk2.later {x x' : World} {b : Nat} {a0 a1 : Value} (h : Blk2 x b a0 a1) (hb : Below x.heap.size x x') : Blk2 x' b a0 a1 := h.kept (hb.block b h.lt)
theorem Blk2.alloc {x : World} {b : Nat} {a0 a1 : Value} (h : Blk2 x b a0 a1) (o : Obj) : Blk2 (x.alloc o) b a0 a1 := h.later ((Below.refl _ _).alloc (Nat.le_refl _) o)
theorem Blk2.new (w : World) (a0 a1 : Value) (t : TypeId) : Blk2 (w.alloc (.cells #[a0, a1] t)) w.heap.size a0 a1 := by
  refine ⟨⟨World.cell?_alloc_mark w _ _ _ 0, World.cell?_alloc_mark w _ _ _ 1⟩, ?_, ?_⟩ <;> simp
theorem Blk2.put {x : World} {b : Nat} {a0 a1 : Value} (h : Blk2 x b a0 a1) (c v : Value) : Blk2 ((x.setCell ⟨b, 0, none⟩ c).setCell ⟨b, 1, none⟩ v) b c v := by
  obtain ⟨⟨h0, h1⟩, f0, f1⟩ := h
  refine ⟨⟨(World.cell?_setCell_other _ _ _ _ (by simp)).trans (World.cell?_setCell_same _ _ _ h0), World.cell?_setCell_same _ _ _ ((World.cell?_setCell_other _ _ _ _ (by simp)).trans h1)⟩, by simpa using f0, by simpa using f1⟩
/-- A code, and a new row of n structs of m numbers each. -/
def ResRow (m : Nat) (w : World) (c : Int) (n : Nat) (F : Nat → Int) (e : Ending) (w' : World) : Prop := ∃ ao cp, e = .returned (.agg #[.int .i64 c, .slice ao n cp]) ∧ Row w' w.heap.size m n F (.slice ao n cp) ∧ Free w' (n * m) (.slice ao n cp) ∧ Below w.heap.size w w'
end Go.Proofs.YtnchaccgenfhoaaGreat

namespace Go.Proofs.YtnchaccgenfhoaaGreat
open Go.RowKit

/-- A row that a call has made and has done with: its block lies from lo on below hi. -/
def Done (x : World) (lo hi m n : Nat) (F : Nat → Int) (u : Value) : Prop := (Row x lo m n F u ∧ Free x (n * m) u) ∧ (0 < n → ∀ k, u.ownBlock = some k → k < hi)
theorem OwnM.done {w : World} {B : Nat} {e : TypeId} {m : Nat} {v : Value} {n : Nat} {L : List Int} (h : OwnM w B e m v n L) (hl : L.length = n * m) : Done w B w.heap.size m n (fun p => L.getD p 0) v := ⟨(h.own hl).row, fun _ k hk => (h.block k hk).2⟩
theorem Done.within {x x' : World} {lo hi m n B E : Nat} {F : Nat → Int} {u : Value} (h : Done x lo hi m n F u) (hw : Within B E x x') (hB : hi ≤ B) : Done x' lo hi m n F u :=
  ⟨⟨h.1.1.within hw (fun h0 k hk => Or.inl (Nat.lt_of_lt_of_le (h.2 h0 k hk) hB)), h.1.2.within h.1.1 hw (fun h0 k hk => Or.inl (Nat.lt_of_lt_of_le (h.2 h0 k hk) hB))⟩, h.2⟩
theorem Done.later {x x' : World} {lo hi m n : Nat} {F : Nat → Int} {u : Value} (h : Done x lo hi m n F u) (hb : Below x.heap.size x x') : Done x' lo hi m n F u := h.within (Within.grow (B := hi) (E := hi) hb) (Nat.le_refl _)
theorem Done.far {x : World} {lo hi m n : Nat} {F : Nat → Int} {u : Value} (h : Done x lo hi m n F u) {a : Addr} (ha : a.block < lo) (v : Value) : Done (x.setCell a v) lo hi m n F u := ⟨⟨h.1.1.far (Or.inl ha) v, h.1.2.far a v⟩, h.2⟩
theorem Done.mono {x : World} {lo hi lo' hi' m n : Nat} {F : Nat → Int} {u : Value} (h : Done x lo hi m n F u) (h1 : lo' ≤ lo) (h2 : hi ≤ hi') : Done x lo' hi' m n F u := ⟨⟨h.1.1.mono h1, h.1.2⟩, fun h0 k hk => Nat.lt_of_lt_of_le (h.2 h0 k hk) h2⟩
end Go.Proofs.YtnchaccgenfhoaaGreat

namespace Go.Proofs.YtnchaccgenfhoaaGreat
open Go.RowKit

def writeIs (k : Nat → Int) (a b : Int) (i : Nat) : Prop := k (i * 4) = a ∧ k (i * 4 + 2) = b
instance (c : Nat → Int) (a b : Int) (i : Nat) : Decidable (writeIs c a b i) := by unfold writeIs; exact inferInstance
def hasWrite (S : Sto) (n : Nat) (a b : Int) : Prop := ∃ i, i < n ∧ writeIs S.k a b i
def onceW (S : Sto) (i : Nat) : Prop := ¬ hasWrite S i (S.k (i * 4)) (S.k (i * 4 + 2))
def onceL (S : Sto) (i : Nat) : Prop := ¬ hasWrite S S.nw (S.l (i * 5)) (S.l (i * 5 + 1))
def once (S : Sto) : Prop := (∀ i, i < S.nw → onceW S i) ∧ ∀ i, i < S.nl → onceL S i
end Go.Proofs.YtnchaccgenfhoaaGreat

namespace Go.Proofs.YtnchaccgenfhoaaGreat
open Go.RowKit

theorem isLockKind_is (v : Int) (r : Bool) (hr : decide (1 ≤ v ∧ v ≤ 3) = r) (w : World) :
    Calls Tryz.prog 102 #[.int .i64 v] w fun e w' => e = .returned (.bool r) ∧ w' = w := by
  by_cases h1 : 1 ≤ v
  · by_cases h2 : v ≤ 3
    · have d : decide (v ≤ 3) = true := decide_eq_true h2
      rw [decide_eq_true (show 1 ≤ v ∧ v ≤ 3 from ⟨h1, h2⟩)] at hr
      subst hr
      go_enter Tryz.func102, Tryz.ntmps102
      go_wp2
      go_ret
      exact ⟨rfl, rfl⟩
    · have d : decide (v ≤ 3) = false := decide_eq_false h2
      rw [decide_eq_false (show ¬ (1 ≤ v ∧ v ≤ 3) from fun h => h2 h.2)] at hr
      subst hr
      go_enter Tryz.func102, Tryz.ntmps102
      go_wp2
      go_ret
      exact ⟨rfl, rfl⟩
  · have d : decide (1 ≤ v) = false := decide_eq_false h1
    rw [decide_eq_false (show ¬ (1 ≤ v ∧ v ≤ 3) from fun h => h1 h.1)] at hr
    subst hr
    go_enter Tryz.func102, Tryz.ntmps102
    go_wp2
    go_ret
    exact ⟨rfl, rfl⟩

/-- How two numbers stand to each other: -1, 0 or 1. -/
def cmpOf (a b : Int) : Int := if a < b then -1 else if b < a then 1 else 0
theorem compare_is (a b r : Int) (hr : cmpOf a b = r) (w : World) :
    Calls Tryz.prog 89 #[.int .i64 a, .int .i64 b] w fun e w' => e = .returned (.int .i64 r) ∧ w' = w := by
  unfold cmpOf at hr
  by_cases h1 : a < b
  · rw [if_pos h1] at hr
    subst hr
    go_enter Tryz.func89, Tryz.ntmps89
    go_wp2
    go_ret
    exact ⟨rfl, rfl⟩
  · rw [if_neg h1] at hr
    have d1 : decide (a < b) = false := decide_eq_false h1
    by_cases h2 : b < a
    · rw [if_pos h2] at hr
      subst hr
      clear h1
      go_enter Tryz.func89, Tryz.ntmps89
      go_wp2
      go_ret
      exact ⟨rfl, rfl⟩
    · rw [if_neg h2] at hr
      subst hr
      have d2 : decide (b < a) = false := decide_eq_false h2
      clear h1 h2
      go_enter Tryz.func89, Tryz.ntmps89
      go_wp2
      go_ret
      exact ⟨rfl, rfl⟩
end Go.Proofs.YtnchaccgenfhoaaGreat

namespace Go.Proofs.YtnchaccgenfhoaaGreat
open Go.RowKit

theorem below_dn {B : Nat} {a w : World} (h : Below B a w) (q : Nat) : Below B a (w.drewN q) := ⟨h.os, h.tape, h.output, h.size, h.block⟩
end Go.Proofs.YtnchaccgenfhoaaGreat

namespace Go.Proofs.YtnchaccgenfhoaaGreat
open Go.RowKit Go.Maps

def place (a b : Int) : Value := .agg #[.int .i64 a, .int .i64 b]
def kp (a b : Int) : Lit := .string (keyBytes [.int .i64 a, .int .i64 b])
end Go.Proofs.YtnchaccgenfhoaaGreat

namespace Go.Proofs.YtnchaccgenfhoaaGreat
open Go.RowKit

theorem l1In_is (v lo hi : Int) (r : Bool) (hr : decide (lo ≤ v ∧ v ≤ hi) = r) (w : World) :
    Calls Tryz.prog 54 #[.int .i64 v, .int .i64 lo, .int .i64 hi] w fun e w' => e = .returned (.bool r) ∧ w' = w := by
  by_cases h1 : lo ≤ v
  · by_cases h2 : v ≤ hi
    · have d : decide (v ≤ hi) = true := decide_eq_true h2
      rw [decide_eq_true (show lo ≤ v ∧ v ≤ hi from ⟨h1, h2⟩)] at hr
      subst hr
      go_enter Tryz.func54, Tryz.ntmps54
      go_wp2
      go_ret
      exact ⟨rfl, rfl⟩
    · have d : decide (v ≤ hi) = false := decide_eq_false h2
      rw [decide_eq_false (show ¬ (lo ≤ v ∧ v ≤ hi) from fun h => h2 h.2)] at hr
      subst hr
      go_enter Tryz.func54, Tryz.ntmps54
      go_wp2
      go_ret
      exact ⟨rfl, rfl⟩
  · have d : decide (lo ≤ v) = false := decide_eq_false h1
    rw [decide_eq_false (show ¬ (lo ≤ v ∧ v ≤ hi) from fun h => h1 h.1)] at hr
    subst hr
    go_enter Tryz.func54, Tryz.ntmps54
    go_wp2
    go_ret
    exact ⟨rfl, rfl⟩
end Go.Proofs.YtnchaccgenfhoaaGreat

namespace Go.Proofs.YtnchaccgenfhoaaGreat
section
open Go.RowKit Go.Lib
/-- Block g is a row of N cells of type e. -/
def Blkk (x : World) (g : Nat) (e : TypeId) (N : Nat) : Prop := ∃ cur, x.heap[g]? = some (.cells cur e) ∧ cur.size = N
theorem Blkk.kept {x x' : World} {g : Nat} {e : TypeId} {N : Nat} (h : Blkk x g e N) (hb : x'.heap[g]? = x.heap[g]?) : Blkk x' g e N := by
  obtain ⟨cur, h1, h2⟩ := h
  exact ⟨cur, hb.trans h1, h2⟩
theorem Blkk.lt {x : World} {g : Nat} {e : TypeId} {N : Nat} (h : Blkk x g e N) : g < x.heap.size := by
  obtain ⟨cur, h1, _⟩ := h
  exact (Array.getElem?_eq_some_iff.1 h1).1
theorem Blkk.set {x : World} {g : Nat} {e : TypeId} {N : Nat} (h : Blkk x g e N) (o : Nat) (u : Value) : Blkk (x.setCell ⟨g, o, none⟩ u) g e N := by
  obtain ⟨cur, h1, h2⟩ := h
  refine ⟨cur.setIfInBounds o u, ?_, by simpa using h2⟩
  simp [World.setCell, Array.getElem?_modify, h1]
theorem Blkk.sets {g : Nat} {e : TypeId} {N : Nat} : ∀ (vs : List Value) (o : Nat) (x : World), Blkk x g e N → Blkk (x.setCells g o vs) g e N
  | [], _, _, h => h
  | v :: r, o, _, h => Blkk.sets r (o + 1) _ (h.set o v)
theorem Blkk.cell {x : World} {g : Nat} {e : TypeId} {N : Nat} (h : Blkk x g e N) {p : Nat} (hp : p < N) : (∃ u, x.cell? ⟨g, p, none⟩ = some u) ∧ x.frozen? ⟨g, p, none⟩ = false := by
  obtain ⟨cur, h1, h2⟩ := h
  refine ⟨⟨cur[p]'(by omega), ?_⟩, ?_⟩
  · simp [World.cell?, h1]
  · simp [World.frozen?, h1]
theorem own_of {x : World} {B g : Nat} {e : TypeId} {m n cap : Nat} {F : Nat → Int} (h : Blkk x g e (cap * m)) (hB : B ≤ g) (hn : n ≤ cap) (hc : cap ≤ maxLen) (hF : ∀ p, p < n * m → x.cell? ⟨g, p, none⟩ = some (.int .i64 (F p))) : Own x B e m n F (.slice (some ⟨g, 0, none⟩) n cap) := by
  obtain ⟨cur, h1, h2⟩ := h
  refine ⟨vals_length _ _, Or.inr ⟨g, cap, cur, rfl, hB, h1, hn, hc, h2, ?_⟩⟩
  apply List.ext_getElem?
  intro p
  rcases Nat.lt_or_ge p (n * m) with hp | hp
  · rw [vals_at F _ p hp]
    have hle : n * m ≤ cap * m := Nat.mul_le_mul_right m hn
    have := hF p hp
    have hps : p < cur.size := by omega
    simp [World.cell?, h1, hps] at this
    rw [List.getElem?_take, if_pos hp]
    simp [hps, this]
  · rw [List.getElem?_eq_none (by rw [List.length_take]; omega), List.getElem?_eq_none (by rw [vals_length]; exact hp)]
theorem Own.parts {x : World} {B : Nat} {e : TypeId} {m n : Nat} {F : Nat → Int} {v : Value} (h : Own x B e m n F v) : (v = .slice none 0 0 ∧ n = 0) ∨ ∃ g cap, v = .slice (some ⟨g, 0, none⟩) n cap ∧ B ≤ g ∧ n ≤ cap ∧ cap ≤ maxLen ∧ Blkk x g e (cap * m) ∧ ∀ p, p < n * m → x.cell? ⟨g, p, none⟩ = some (.int .i64 (F p)) := by
  have hr := h.row.1
  rcases h.2 with q | ⟨g, cap, cur, rfl, hg, hw, h1, h2, h3, _⟩
  · exact Or.inl q
  · refine Or.inr ⟨g, cap, rfl, hg, h1, h2, ⟨cur, hw, h3⟩, fun p hp => ?_⟩
    have hn : 0 < n := Nat.pos_of_ne_zero (fun e => by subst e; simp at hp)
    obtain ⟨ao, cp, hv, hr⟩ := hr
    obtain ⟨g', o', e, _, _, hc⟩ := hr hn
    simp at hv
    obtain ⟨rfl, rfl⟩ := hv
    simp at e
    obtain ⟨rfl, rfl⟩ := e
    have := hc p hp
    rwa [Nat.zero_add] at this
theorem grown_sets (g : Nat) : ∀ (vs : List Value) (o : Nat) (w : World), w.grownBy (w.setCells g o vs) (some g)
  | [], _, _ => ⟨rfl, rfl, rfl, Nat.le_refl _, fun _ _ _ => rfl⟩
  | v :: r, o, w => by
    have ih := grown_sets g r (o + 1) (w.setCell ⟨g, o, none⟩ v)
    refine ⟨ih.os, ih.tape, ih.output, Nat.le_trans (by simp) ih.size, fun i hi hne => (ih.block i (by simpa using hi) hne).trans (Below.heap_setCell w _ _ i (fun e => hne (by rw [e])))⟩
/-- 'clear(s[i:])' at a slice of structs. -/
theorem run_clear_row (t e : TypeId) (z : Value) (m : Nat) (ht : Tryz.prog.underlying t = some (.slice e)) (hv : ∀ w, (zeroValue e).run Tryz.prog w = .ok z w) (hz : z.cells.size = m) (h1 : ∀ v ∈ z.cells.toList, v.oneCell' = true) (w : World) (g a k c N : Nat) (hb : Blkk w g e N) (hN : a + k * m ≤ N) (hk : 0 < k) (hm : 0 < m) :
    ∃ w', (∀ ty, (Builtin.clear_ #[t] ty #[.slice (some ⟨g, a, none⟩) k c]).run Tryz.prog w = .ok (.tuple #[]) w') ∧ (Blkk w' g e N ∧ ∀ p, p < a → w'.cell? ⟨g, p, none⟩ = w.cell? ⟨g, p, none⟩) ∧ w.grownBy w' (some g) := by
  have hzl : (Builtin.zeroCells z.cells k).toList.length = k * m := by simp [Builtin.zeroCells, hz]
  refine ⟨w.setCells g a (Builtin.zeroCells z.cells k).toList, fun ty => ?_, ⟨hb.sets _ _ _, fun p hp => World.cell?_setCells_out g _ a w _ (fun _ _ => Or.inl hp)⟩, ?_⟩
  · have hst := run_storeCells_cells (P := Tryz.prog) g a (Builtin.zeroCells z.cells k).toList 0 w (fun j hj => by rw [Nat.add_zero]; obtain ⟨u, hu⟩ := (hb.cell (p := a + j) (by omega)).1; rw [hu]; rfl) (fun j hj => by rw [Nat.add_zero]; exact (hb.cell (p := a + j) (by omega)).2) (fun v hv' => by
      simp only [Builtin.zeroCells, Array.toList_map, List.mem_map] at hv'
      obtain ⟨i, _, rfl⟩ := hv'
      have hi : i % z.cells.size < z.cells.size := Nat.mod_lt _ (by omega)
      rw [getElem!_pos z.cells _ hi]
      exact h1 _ (Array.getElem_mem_toList hi))
    simp only [Nat.add_zero] at hst
    obtain ⟨q, rfl⟩ : ∃ q, k = q + 1 := ⟨k - 1, by omega⟩
    simp [Builtin.clear_, run_underlying ht, hv, hst]
  · exact grown_sets g _ a w
end

section
open Go.RowKit Go.Lib
theorem Own.congr {x : World} {B : Nat} {e : TypeId} {m n : Nat} {F G : Nat → Int} {v : Value} (h : Own x B e m n F v) (hF : ∀ p, p < n * m → F p = G p) : Own x B e m n G v := by
  have hv : vals F (n * m) = vals G (n * m) := by
    unfold vals
    refine List.map_congr_left (fun p hp => ?_)
    rw [hF p (List.mem_range.1 hp)]
  unfold Own at *
  rw [← hv]
  exact h
end
end Go.Proofs.YtnchaccgenfhoaaGreat

namespace Go.Proofs.YtnchaccgenfhoaaGreat
open Go.RowKit Go.Maps

theorem own_in {w : World} {B : Nat} {e : TypeId} {m n : Nat} {F : Nat → Int} {v : Value} (h : Own w B e m n F v) : ∀ k, v.ownBlock = some k → B ≤ k ∧ k < w.heap.size := by
  intro k hk
  rcases h.2 with ⟨rfl, _⟩ | ⟨g, cap, cur, rfl, hg, hw, _⟩
  · simp [Value.ownBlock] at hk
  · simp [Value.ownBlock] at hk
    subst hk
    exact ⟨hg, (Array.getElem?_eq_some_iff.1 hw).1⟩
end Go.Proofs.YtnchaccgenfhoaaGreat

namespace Go.Proofs.YtnchaccgenfhoaaGreat
open Go.RowKit

theorem own_kept {w w' : World} {B : Nat} {e : TypeId} {m n : Nat} {F : Nat → Int} {v : Value} (h : Own w B e m n F v) (hb : ∀ k, v.ownBlock = some k → w'.heap[k]? = w.heap[k]?) : Own w' B e m n F v := by
  refine ⟨h.1, ?_⟩
  rcases h.2 with q | ⟨g, cap, cur, rfl, hg, hw, r⟩
  · exact Or.inl q
  · exact Or.inr ⟨g, cap, cur, rfl, hg, (hb g rfl).trans hw, r⟩
theorem Blk3.grown {c c' : World} {b q : Nat} {a0 a1 a2 : Value} (h : Blk3 c b a0 a1 a2) (hg : c.grownBy c' (some q)) (hne : b ≠ q) : Blk3 c' b a0 a1 a2 := h.kept (hg.block b h.lt (by simp; exact hne))
end Go.Proofs.YtnchaccgenfhoaaGreat

namespace Go.Proofs.YtnchaccgenfhoaaGreat
section
open Go.RowKit
end

section
open Go.RowKit
/-- One more struct in its place. -/
def insF (F : Nat → Int) (m n k : Nat) (xs : List Int) : Nat → Int := fun p => (nums F (k * m) ++ xs ++ nums (fun p => F (k * m + p)) ((n - k) * m)).getD p 0
end
section
open Go.RowKit
end
section
open Go.RowKit
end
end Go.Proofs.YtnchaccgenfhoaaGreat

