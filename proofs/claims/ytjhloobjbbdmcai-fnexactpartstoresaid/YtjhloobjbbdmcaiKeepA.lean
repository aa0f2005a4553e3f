/-
  Own text. The program's closures of keepKeys: whether a key lies outside a range.
-/
import Derived.Test.YtjhloobjbbdmcaiColsA
import Derived.Test.YtjhloobjbbdmcaiKeysA
namespace Go.Proofs.Ytjhloobjbbdmcai
open Go.RowKit

/-- 'gone', as a value: it has two variables, in blocks of their own. -/
def goneV (b1 b2 : Nat) : Value := .func (.func 50) #[] #[.pointer (some ⟨b1, 0, none⟩), .pointer (some ⟨b2, 0, none⟩)]
theorem gone_is (key fr to : Int) (b1 b2 : Nat) (r : Bool) (hr : decide (key < fr ∨ to ≤ key) = r) (w : World) (h1 : w.cell? ⟨b1, 0, none⟩ = some (.int .i64 fr)) (h2 : w.cell? ⟨b2, 0, none⟩ = some (.int .i64 to)) :
    Calls Try.prog 50 #[.int .i64 key, .pointer (some ⟨b1, 0, none⟩), .pointer (some ⟨b2, 0, none⟩)] w fun e w' => e = .returned (.bool r) ∧ w' = w := by
  by_cases ha : key < fr
  · have hr' : r = true := by rw [← hr]; exact decide_eq_true (Or.inl ha)
    subst hr'
    clear hr
    go_enter Try.func50, Try.ntmps50
    go_wp2
    go_ret
    exact ⟨rfl, rfl⟩
  · have d1 : decide (key < fr) = false := decide_eq_false ha
    by_cases hb : to ≤ key
    · have hr' : r = true := by rw [← hr]; exact decide_eq_true (Or.inr hb)
      subst hr'
      clear hr ha
      go_enter Try.func50, Try.ntmps50
      go_wp2
      go_ret
      exact ⟨rfl, rfl⟩
    · have hr' : r = false := by rw [← hr]; exact decide_eq_false (by omega)
      subst hr'
      have d2 : decide (to ≤ key) = false := decide_eq_false hb
      clear hr ha hb
      go_enter Try.func50, Try.ntmps50
      go_wp2
      go_ret
      exact ⟨rfl, rfl⟩
theorem goneLock_is (x0 x1 x2 x3 x4 : Int) (fr to : Int) (bg b1 b2 : Nat) (r : Bool) (hr : decide (x0 < fr ∨ to ≤ x0) = r) (w : World) (hg : w.cell? ⟨bg, 0, none⟩ = some (goneV b1 b2)) (h1 : w.cell? ⟨b1, 0, none⟩ = some (.int .i64 fr)) (h2 : w.cell? ⟨b2, 0, none⟩ = some (.int .i64 to)) :
    Calls Try.prog 52 #[.agg #[.int .i64 x0, .int .i64 x1, .int .i64 x2, .int .i64 x3, .int .i64 x4], .pointer (some ⟨bg, 0, none⟩)] w fun e w' => e = .returned (.bool r) ∧ w' = w.alloc (.cells #[.int .i64 x0, .int .i64 x1, .int .i64 x2, .int .i64 x3, .int .i64 x4] 68) := by
  have l0 := World.block_lt_of_cell? w _ hg
  have l1 := World.block_lt_of_cell? w _ h1
  have l2 := World.block_lt_of_cell? w _ h2
  have HC : Hid (∀ x : World, x.cell? ⟨b1, 0, none⟩ = some (.int .i64 fr) → x.cell? ⟨b2, 0, none⟩ = some (.int .i64 to) → Calls Try.prog 50 #[.int .i64 x0, .pointer (some ⟨b1, 0, none⟩), .pointer (some ⟨b2, 0, none⟩)] x fun e w' => e = .returned (.bool r) ∧ w' = x) := fun x a b => gone_is x0 fr to b1 b2 r hr x a b
  have q1 : (w.alloc (.cells #[.int .i64 x0, .int .i64 x1, .int .i64 x2, .int .i64 x3, .int .i64 x4] 68)).cell? ⟨b1, 0, none⟩ = some (.int .i64 fr) := ((below_alloc _ _).cell (p := ⟨b1, 0, none⟩) l1).trans h1
  have q2 : (w.alloc (.cells #[.int .i64 x0, .int .i64 x1, .int .i64 x2, .int .i64 x3, .int .i64 x4] 68)).cell? ⟨b2, 0, none⟩ = some (.int .i64 to) := ((below_alloc _ _).cell (p := ⟨b2, 0, none⟩) l2).trans h2
  clear hr
  unfold goneV at hg
  go_enter Try.func52, Try.ntmps52
  go_wp2_with fail
  refine (HC.out _ q1 q2).mono ?_
  rintro e w1 ⟨rfl, rfl⟩
  go_wp2
  go_ret
  exact ⟨rfl, rfl⟩
theorem goneWrite_is (x0 x1 x2 x3 : Int) (fr to : Int) (bg b1 b2 : Nat) (r : Bool) (hr : decide (x0 < fr ∨ to ≤ x0) = r) (w : World) (hg : w.cell? ⟨bg, 0, none⟩ = some (goneV b1 b2)) (h1 : w.cell? ⟨b1, 0, none⟩ = some (.int .i64 fr)) (h2 : w.cell? ⟨b2, 0, none⟩ = some (.int .i64 to)) :
    Calls Try.prog 54 #[.agg #[.int .i64 x0, .int .i64 x1, .int .i64 x2, .int .i64 x3], .pointer (some ⟨bg, 0, none⟩)] w fun e w' => e = .returned (.bool r) ∧ w' = w.alloc (.cells #[.int .i64 x0, .int .i64 x1, .int .i64 x2, .int .i64 x3] 70) := by
  have l0 := World.block_lt_of_cell? w _ hg
  have l1 := World.block_lt_of_cell? w _ h1
  have l2 := World.block_lt_of_cell? w _ h2
  have HC : Hid (∀ x : World, x.cell? ⟨b1, 0, none⟩ = some (.int .i64 fr) → x.cell? ⟨b2, 0, none⟩ = some (.int .i64 to) → Calls Try.prog 50 #[.int .i64 x0, .pointer (some ⟨b1, 0, none⟩), .pointer (some ⟨b2, 0, none⟩)] x fun e w' => e = .returned (.bool r) ∧ w' = x) := fun x a b => gone_is x0 fr to b1 b2 r hr x a b
  have q1 : (w.alloc (.cells #[.int .i64 x0, .int .i64 x1, .int .i64 x2, .int .i64 x3] 70)).cell? ⟨b1, 0, none⟩ = some (.int .i64 fr) := ((below_alloc _ _).cell (p := ⟨b1, 0, none⟩) l1).trans h1
  have q2 : (w.alloc (.cells #[.int .i64 x0, .int .i64 x1, .int .i64 x2, .int .i64 x3] 70)).cell? ⟨b2, 0, none⟩ = some (.int .i64 to) := ((below_alloc _ _).cell (p := ⟨b2, 0, none⟩) l2).trans h2
  clear hr
  unfold goneV at hg
  go_enter Try.func54, Try.ntmps54
  go_wp2_with fail
  refine (HC.out _ q1 q2).mono ?_
  rintro e w1 ⟨rfl, rfl⟩
  go_wp2
  go_ret
  exact ⟨rfl, rfl⟩
end Go.Proofs.Ytjhloobjbbdmcai
