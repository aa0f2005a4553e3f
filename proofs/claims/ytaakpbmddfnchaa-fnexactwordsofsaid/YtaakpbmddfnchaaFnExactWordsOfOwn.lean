/-
  What is proved: at every text the law FnExactWordsOf returns true, which says that impl.WordsOf answers as spec.WordsOf, that what it answers is memory of its own and that a second call answers the same; no condition.
-/
import Derived.Test.YtaakpbmddfnchaaRows
import Derived.WalkKit
import Derived.ProofKit
import Derived.OpenShut
import Derived.ShutString
import Derived.Test.YtaakpbmddfnchaaWrdD
namespace Go.Proofs.Ytaakpbmddfnchaa.fnExactWordsOf
open Go.ChangeShapes Go.WideShapes Go.ChangeAt Go.RowKit
open Go.ChangeMaps (open_string shut_string)
set_option linter.unusedVariables false

theorem own : ownKnob Try.prog.godebug = none := by kernel_rfl

theorem walk (a0 : ByteArray) (w0 : a0.size ≤ maxLen) (w : World) :
    Calls Try.prog 3 #[.string a0] w fun e w' => e = .returned (.bool true) ∧ Below w.heap.size w w' := by
  unfold maxLen at w0
  by_cases hbig : 1048576 < (a0.size : Int)
  · go_enter Try.func3, Try.ntmps3
    go_wp2
    go_ret
    exact ⟨rfl, Below.refl _ _⟩
  · have hS : Hid (∀ w, Calls Try.prog 4 #[.string a0] w fun e w' => ∃ v, e = .returned (.agg #[.int .i64 0, v]) ∧ Stgs w' w.heap.size v (wordsB a0) ∧ Below w.heap.size w w') := fun w => specWordsOf_is a0 w (by omega)
    have hI : Hid (∀ w, Calls Try.prog 5 #[.string a0] w fun e w' => ∃ v, e = .returned (.agg #[.int .i64 0, v]) ∧ Stgs w' w.heap.size v (wordsB a0) ∧ Below w.heap.size w w') := fun w => (implWordsOf_is a0 w (by omega)).mono (by
      rintro e w' ⟨v, h1, h2, h3⟩
      exact ⟨v, h1, h2.mono (by omega), h3⟩)
    have hL : (wordsB a0).length ≤ 1048577 := Nat.le_trans (wordsB_length a0) (by omega)
    generalize wordsB a0 = L at *
    go_enter Try.func3, Try.ntmps3
    go_wp2_with fail
    refine (hS.out _).mono ?_
    rintro e w1 ⟨v0, rfl, i1, b1⟩
    obtain ⟨o0, c0, rfl⟩ := i1.form
    have I1 : Hid (Stgs w1 w.heap.size (.slice o0 L.length c0) L) := i1
    have B1 : Hid (Below w.heap.size w w1) := b1
    clear i1 b1
    go_wp2_with fail
    refine (hI.out _).mono ?_
    rintro e w3 ⟨vg, rfl, i3, b3⟩
    obtain ⟨og, cg, rfl⟩ := i3.form
    simp only [World.size_alloc] at i3 b3
    have z3 : w1.heap.size < w3.heap.size := by have := b3.size; simp at this; omega
    have t50 : w3.cell? ⟨w1.heap.size, 0, none⟩ = some (.int .i64 0) := by rw [b3.cell (by simp)]; exact World.cell?_alloc_mark w1 _ _ _ 0
    have t51 : w3.cell? ⟨w1.heap.size, 1, none⟩ = some (.slice o0 L.length c0) := by rw [b3.cell (by simp)]; exact World.cell?_alloc_mark w1 _ _ _ 1
    have I3 : Hid (Stgs w3 (w1.heap.size + 1) (.slice og L.length cg) L) := i3
    have B3 : Hid (Below w1.heap.size w1 w3) := ((Below.refl _ _).alloc (Nat.le_refl _) _).trans (b3.mono (by omega))
    clear i3 b3
    have J3 : Hid (Stgs w3 w.heap.size (.slice o0 L.length c0) L) := I1.out.later B3.out
    go_wp2_with fail
    refine (eqWordsR_any 0 _ _ _ _ L _ (I3.out.alloc _) (J3.out.alloc _) (by omega)).mono ?_
    rintro e w5 ⟨rfl, b5⟩
    simp only [World.size_alloc] at b5
    have B5 : Hid (Below w3.heap.size w3 w5) := ((Below.refl _ _).alloc (Nat.le_refl _) _).trans (b5.mono (by omega))
    have z5 : w3.heap.size < w5.heap.size := by have := b5.size; simp at this; omega
    have t60 : w5.cell? ⟨w3.heap.size, 0, none⟩ = some (.int .i64 0) := by rw [b5.cell (by simp)]; exact World.cell?_alloc_mark w3 _ _ _ 0
    have t61 : w5.cell? ⟨w3.heap.size, 1, none⟩ = some (.slice og L.length cg) := by rw [b5.cell (by simp)]; exact World.cell?_alloc_mark w3 _ _ _ 1
    have s50 : w5.cell? ⟨w1.heap.size, 0, none⟩ = some (.int .i64 0) := (B5.out.cell (p := ⟨w1.heap.size, 0, none⟩) z3).trans t50
    have s51 : w5.cell? ⟨w1.heap.size, 1, none⟩ = some (.slice o0 L.length c0) := (B5.out.cell (p := ⟨w1.heap.size, 1, none⟩) z3).trans t51
    have I5 : Hid (Stgs w5 (w1.heap.size + 1) (.slice og L.length cg) L) := I3.out.later B5.out
    have J5 : Hid (Stgs w5 w.heap.size (.slice o0 L.length c0) L) := J3.out.later B5.out
    clear b5 t50 t51
    go_wp2_with fail
    refine (markWordsR_any 0 _ _ L _ I5.out (by omega)).mono ?_
    rintro e w6 ⟨rfl, i6, g6⟩
    have hg : ∀ k, (Value.slice og L.length cg).ownBlock = some k → w1.heap.size + 1 ≤ k ∧ k < w3.heap.size := I3.out.lt
    have h0 : ∀ k, (Value.slice o0 L.length c0).ownBlock = some k → w.heap.size ≤ k ∧ k < w1.heap.size := I1.out.lt
    have r60 : w6.cell? ⟨w3.heap.size, 0, none⟩ = some (.int .i64 0) := g6.cell t60 (fun e => by have := hg _ e.symm; simp at this)
    have r61 : w6.cell? ⟨w3.heap.size, 1, none⟩ = some (.slice og L.length cg) := g6.cell t61 (fun e => by have := hg _ e.symm; simp at this)
    have r50 : w6.cell? ⟨w1.heap.size, 0, none⟩ = some (.int .i64 0) := g6.cell s50 (fun e => by have := hg _ e.symm; simp at this; omega)
    have r51 : w6.cell? ⟨w1.heap.size, 1, none⟩ = some (.slice o0 L.length c0) := g6.cell s51 (fun e => by have := hg _ e.symm; simp at this; omega)
    have I6 : Hid (Stgs w6 (w1.heap.size + 1) (.slice og L.length cg) (marksT 1 L.length)) := i6
    have J6 : Hid (Stgs w6 w.heap.size (.slice o0 L.length c0) L) := J5.out.grown g6 (fun k hk e => by have := hg k e; have := h0 k hk; omega)
    have B6 : Hid (Below w.heap.size w w6) := ((B1.out.trans (B3.out.mono B1.out.size)).trans (B5.out.mono (by have := B1.out.size; omega))).grown g6 (by have := B1.out.size; omega) (fun k hk => by have := hg k hk; have := B1.out.size; omega)
    have z6 : w3.heap.size < w6.heap.size := Nat.lt_of_lt_of_le z5 g6.size
    clear i6 g6 t60 t61 s50 s51 z5 hg h0
    go_wp2_with fail
    refine (heldWordsR_any 0 _ _ L.length _ I6.out (by omega)).mono ?_
    rintro e w7 ⟨rfl, b7⟩
    have u60 : w7.cell? ⟨w3.heap.size, 0, none⟩ = some (.int .i64 0) := (b7.cell (p := ⟨w3.heap.size, 0, none⟩) z6).trans r60
    have u61 : w7.cell? ⟨w3.heap.size, 1, none⟩ = some (.slice og L.length cg) := (b7.cell (p := ⟨w3.heap.size, 1, none⟩) z6).trans r61
    have u50 : w7.cell? ⟨w1.heap.size, 0, none⟩ = some (.int .i64 0) := (b7.cell (p := ⟨w1.heap.size, 0, none⟩) (Nat.lt_trans z3 z6)).trans r50
    have u51 : w7.cell? ⟨w1.heap.size, 1, none⟩ = some (.slice o0 L.length c0) := (b7.cell (p := ⟨w1.heap.size, 1, none⟩) (Nat.lt_trans z3 z6)).trans r51
    have I7 : Hid (Stgs w7 (w1.heap.size + 1) (.slice og L.length cg) (marksT 1 L.length)) := I6.out.later b7
    have J7 : Hid (Stgs w7 w.heap.size (.slice o0 L.length c0) L) := J6.out.later b7
    have z7 : w3.heap.size < w7.heap.size := Nat.lt_of_lt_of_le z6 b7.size
    have B7 : Hid (Below w.heap.size w w7) := B6.out.trans (b7.mono B6.out.size)
    clear b7 r60 r61 r50 r51
    go_wp2_with fail
    refine (hI.out _).mono ?_
    rintro e w8 ⟨vh, rfl, i8, b8⟩
    obtain ⟨oh, ch, rfl⟩ := i8.form
    have p60 : w8.cell? ⟨w3.heap.size, 0, none⟩ = some (.int .i64 0) := (b8.cell (p := ⟨w3.heap.size, 0, none⟩) z7).trans u60
    have p61 : w8.cell? ⟨w3.heap.size, 1, none⟩ = some (.slice og L.length cg) := (b8.cell (p := ⟨w3.heap.size, 1, none⟩) z7).trans u61
    have p50 : w8.cell? ⟨w1.heap.size, 0, none⟩ = some (.int .i64 0) := (b8.cell (p := ⟨w1.heap.size, 0, none⟩) (Nat.lt_trans z3 z7)).trans u50
    have p51 : w8.cell? ⟨w1.heap.size, 1, none⟩ = some (.slice o0 L.length c0) := (b8.cell (p := ⟨w1.heap.size, 1, none⟩) (Nat.lt_trans z3 z7)).trans u51
    have I8 : Hid (Stgs w8 (w1.heap.size + 1) (.slice og L.length cg) (marksT 1 L.length)) := I7.out.later b8
    have J8 : Hid (Stgs w8 w.heap.size (.slice o0 L.length c0) L) := J7.out.later b8
    have H8 : Hid (Stgs w8 w7.heap.size (.slice oh L.length ch) L) := i8
    have z8 : w3.heap.size < w8.heap.size := Nat.lt_of_lt_of_le z7 b8.size
    have z81 : w1.heap.size < w8.heap.size := Nat.lt_trans z3 z8
    have B8 : Hid (Below w.heap.size w w8) := B7.out.trans (b8.mono B7.out.size)
    clear b8 i8 u60 u61 u50 u51
    go_wp2_with fail
    refine (eqWordsR_any 0 _ _ _ _ L _ (H8.out.alloc _) (J8.out.alloc _) (by omega)).mono ?_
    rintro e w9 ⟨rfl, b9⟩
    simp only [World.size_alloc] at b9
    have B9 : Hid (Below w8.heap.size w8 w9) := ((Below.refl _ _).alloc (Nat.le_refl _) _).trans (b9.mono (by omega))
    have q60 : w9.cell? ⟨w3.heap.size, 0, none⟩ = some (.int .i64 0) := (B9.out.cell (p := ⟨w3.heap.size, 0, none⟩) z8).trans p60
    have q61 : w9.cell? ⟨w3.heap.size, 1, none⟩ = some (.slice og L.length cg) := (B9.out.cell (p := ⟨w3.heap.size, 1, none⟩) z8).trans p61
    have I9 : Hid (Stgs w9 (w1.heap.size + 1) (.slice og L.length cg) (marksT 1 L.length)) := I8.out.later B9.out
    clear b9 p60 p61 p50 p51
    go_wp2_with fail
    refine (heldWordsR_any 0 _ _ L.length _ I9.out (by omega)).mono ?_
    rintro e w10 ⟨rfl, b10⟩
    have B10 : Hid (Below w.heap.size w w10) := (B8.out.trans (B9.out.mono B8.out.size)).trans (b10.mono (Nat.le_trans B8.out.size B9.out.size))
    clear b10 q60 q61
    go_wp2
    go_ret
    exact ⟨rfl, B10.out⟩

set_option maxRecDepth 100000 in
theorem lifted (os : Os) (started : os.Started) (H : Type) (enc : TypeId × Value → H) :
    ReturnsInHanded {} Try.checked os 3 .any (Rows.fnExactWordsOfSpec.pre6 enc Try.prog Try.f3 Rows.fnExactWordsOfRow.domain false) (Rows.fnExactWordsOfSpec.post enc Try.prog Try.f3 false true false false) := by
  refine returnsInHanded_of_change (C := Try.checked) own started (by kernel_rfl) Try.func3
    (ChangeSpec.witness6 (enc := enc) (C := Try.checked) false ⟨#[], #[.string ByteArray.empty], []⟩ 8 (by kernel_rfl) (by kernel_rfl) (by kernel_rfl) (by kernel_rfl)) ?_
  intro W base args ds gs before hval0 hW hcnd _
  have hval : ∀ (j : Nat) t v, Try.f3.params[j]? = some t → args[j]? = some v → Value.okWide Try.prog W .any base t v := hval0
  have hW' := hW
  obtain ⟨p, q, hA0, hV, rfl, hfz, hnd⟩ := hW
  have hA : DataW.TrodAll enc Try.prog W 0 (fun _ => true) true Try.f3.params.toList args.toList ds p := hA0
  rw [Try.params3] at hA hval
  obtain ⟨v0, vs0, d0, ds0, p0, q0, hargs, rfl, rfl, h0, r0⟩ := trodAll_cons hA
  obtain ⟨rfl, rfl, rfl⟩ := trodAll_nil r0
  obtain rfl : args = #[v0] := by cases args; simp_all
  obtain ⟨rfl, rfl⟩ := trodVars_none hV
  obtain ⟨a0, rfl, rfl, rfl, w0⟩ := open_string Try.underlying9 (hval 0 9 v0 rfl rfl) h0
  clear hA0 hval0
  simp only [List.append_nil] at hW'
  refine (walk a0 w0 W).mono fun e W' ⟨he, hg⟩ => ?_
  subst he
  exact ⟨_, rfl, _, _, _, [], [], [], hW', (trodAll_cons_mk (shut_bool Try.underlying4 _) trodAll_mk0), (trodAll_cons_mk (shut_string Try.underlying9 w0) trodAll_mk0), rfl, hg.frame _, fun h => by cases h⟩

theorem over : Rows.fnExactWordsOfRow.holds Try.pinned (OpenSpec.ofChange Rows.fnExactWordsOfSpec) :=
  OpenClaim.holds_of_wide 3 Try.f3 rfl rfl rfl rfl rfl rfl rfl ⟨rfl, rfl, rfl, rfl, rfl⟩ rfl rfl rfl rfl rfl (by kernel_rfl) Try.func3 (by kernel_rfl)
    (of_decide_eq_true (by kernel_rfl)) (by unfold Func.isWrapper; first | (rw [if_pos (by decide +kernel)]; kernel_rfl) | (rw [if_neg (by decide +kernel)]; exact ⟨rfl, rfl⟩))
    (fun os started H enc _ => lifted os started H enc)

theorem proved : Rows.FnExactWordsOfSaid :=
  over
#print axioms proved
end Go.Proofs.Ytaakpbmddfnchaa.fnExactWordsOf
