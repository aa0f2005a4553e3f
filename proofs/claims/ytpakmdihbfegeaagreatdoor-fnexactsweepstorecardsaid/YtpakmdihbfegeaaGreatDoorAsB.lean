/-
  Own text. The code that the program tells of an error of its own, and of none.
-/
import Derived.Test.YtpakmdihbfegeaaGreatDoorAsA
namespace Go.Proofs.YtpakmdihbfegeaaGreatDoor
open Go.RowKit

/-- The package variable that errors.As asks is laid as the program's text lays it. -/
def Laid (w : World) : Prop := w.cell? ⟨0, 0, none⟩ = some (.iface 179 (.agg #[.pointer (some ⟨1, 68, none⟩)]))
theorem Laid.later {w x : World} (h : Laid w) (hb : Below w.heap.size w x) : Laid x := (hb.cell (p := ⟨0, 0, none⟩) (World.block_lt_of_cell? w _ h)).trans h
def codeOf (k c : Int) : Prop := (k = 0 ∧ c = 8) ∨ (k = 1 ∧ c = 7) ∨ (k = 2 ∧ c = 4) ∨ (k = 5 ∧ c = 2) ∨ (k = 3 ∧ c = 6) ∨ (k = 4 ∧ c = 6)
set_option maxHeartbeats 1000000 in
theorem code_is (k c : Int) (h : codeOf k c) (w : World) :
    Calls Tryz.prog 111 #[.agg #[.int .i64 k]] w fun e w' => e = .returned (.int .i64 c) ∧ Below w.heap.size w w' := by
  rcases h with ⟨rfl, rfl⟩ | ⟨rfl, rfl⟩ | ⟨rfl, rfl⟩ | ⟨rfl, rfl⟩ | ⟨rfl, rfl⟩ | ⟨rfl, rfl⟩
  all_goals
    go_enter Tryz.func111, Tryz.ntmps111
    go_wp2
    go_ret
    exact ⟨rfl, below_alloc _ _⟩
set_option maxHeartbeats 1000000 in
theorem refusalCode_nil (w : World) :
    Calls Tryz.prog 74 #[.nilIface] w fun e w' => e = .returned (.int .i64 0) ∧ Below w.heap.size w w' := by
  go_enter Tryz.func74, Tryz.ntmps74
  go_wp2_with fail
  refine (as_nil _ _).mono ?_
  rintro e w1 ⟨rfl, rfl⟩
  go_wp2
  go_ret
  exact ⟨rfl, below_alloc _ _⟩
set_option maxRecDepth 100000 in
set_option maxHeartbeats 1000000 in
theorem refusalCode_hit (k c : Int) (h : codeOf k c) (w : World) (hL : Laid w) :
    Calls Tryz.prog 74 #[.iface 115 (.agg #[.int .i64 k])] w fun e w' => e = .returned (.int .i64 c) ∧ Below w.heap.size w w' := by
  have HL : Hid (Laid w) := hL
  have HC : Hid (codeOf k c) := h
  clear h hL
  go_enter Tryz.func74, Tryz.ntmps74
  go_wp2_with fail
  refine (as_hit k ⟨w.heap.size, 0, none⟩ (.int .i64 0) _ (HL.out.later (below_alloc _ _)) (World.cell?_alloc_mark w _ _ _ 0) (by simp)).mono ?_
  rintro e w1 ⟨rfl, hw1⟩
  have c0 : w1.cell? ⟨w.heap.size, 0, none⟩ = some (.int .i64 k) := by
    rw [hw1]
    refine World.cell?_setCell_same _ _ _ (u := .int .i64 0) ?_
    rw [World.cell?_alloc_lt _ _ _ (by simp; omega), World.cell?_alloc_lt _ _ _ (by simp; omega), World.cell?_alloc_lt _ _ _ (by simp; omega), World.cell?_alloc_lt _ _ _ (by simp)]
    exact World.cell?_alloc_mark w _ _ _ 0
  have B1 : Hid (Below w.heap.size w w1) := by
    unfold Hid
    rw [hw1]
    exact (((((below_alloc w _).alloc (by simp) _).alloc (by simp; omega) _).alloc (by simp; omega) _).alloc (by simp; omega) _).setCell (Nat.le_refl _) _
  clear hw1
  go_wp2_with fail
  refine (code_is k c HC.out _).mono ?_
  rintro e w2 ⟨rfl, q2⟩
  have B2 : Hid (Below w.heap.size w w2) := B1.out.trans (q2.mono B1.out.size)
  clear q2 c0
  go_wp2
  go_ret
  exact ⟨rfl, B2.out⟩
end Go.Proofs.YtpakmdihbfegeaaGreatDoor
