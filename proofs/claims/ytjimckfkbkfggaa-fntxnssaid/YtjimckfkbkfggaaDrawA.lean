/-
  Own text. The source of drawn numbers (spec.l1Source, spec.l1Next): each draw lies in its bounds, and turns nothing but the source's own count.
-/
import Derived.Test.YtjimckfkbkfggaaRows
import Derived.WalkKit
import Derived.WalkLawsBesides
import Derived.ProofKit
import Derived.OpenShut
import Derived.BigQuiet
import Derived.Deep.QuietTactic
import Derived.Laws.OwnMore
namespace Go.Proofs.Ytjimckfkbkfggaa
open Go.RowKit

/-- A source at block b: the bytes that it draws from, and how often it drew. -/
structure Src (w : World) (b : Nat) (o : Option Addr) (len cap : Nat) (at' : Int) : Prop where
  code : w.cell? ⟨b, 0, none⟩ = some (.slice o len cap)
  count : w.cell? ⟨b, 1, none⟩ = some (.int .i64 at')
  live : w.frozen? ⟨b, 1, none⟩ = false
  pos : 0 ≤ at'
  bytes : ∀ j, j < len → ∃ (g off : Nat) (n : Int), o = some ⟨g, off, none⟩ ∧ g ≠ b ∧ w.cell? ⟨g, off + j, none⟩ = some (.int .u8 n) ∧ 0 ≤ n ∧ n < 256

theorem Src.next {w : World} {b : Nat} {o : Option Addr} {len cap : Nat} {a : Int} (h : Src w b o len cap a) : Src (w.setCell ⟨b, 1, none⟩ (.int .i64 (a + 1))) b o len cap (a + 1) where
  code := (World.cell?_setCell_other _ _ _ _ (by simp)).trans h.code
  count := World.cell?_setCell_same _ _ _ h.count
  live := (World.frozen?_setCell _ _ _ _).trans h.live
  pos := by have := h.pos; omega
  bytes := fun j hj => by
    obtain ⟨g, off, n, e1, e2, e3, e4⟩ := h.bytes j hj
    exact ⟨g, off, n, e1, e2, (World.cell?_setCell_other _ _ _ _ (fun e => e2 (congrArg Addr.block e).symm)).trans e3, e4⟩
theorem Src.drewN {w : World} {b : Nat} {o : Option Addr} {len cap : Nat} {a : Int} (h : Src w b o len cap a) (n : Nat) : Src (w.drewN n) b o len cap a := ⟨h.code, h.count, h.live, h.pos, h.bytes⟩
/-- The world but for block b is as it was. -/
def But (b : Nat) (w w' : World) : Prop := w.grownBy w' (some b)
theorem But.next (w : World) (b : Nat) (v : Value) : But b w (w.setCell ⟨b, 1, none⟩ v) :=
  ⟨rfl, rfl, rfl, by simp [World.setCell], fun k _ hk => Below.heap_setCell w ⟨b, 1, none⟩ v k (fun e => hk (by simp [e]))⟩

set_option maxHeartbeats 400000 in
theorem l1Next_less (w : World) (b : Nat) (o : Option Addr) (len cap : Nat) (a n : Int) (h : Src w b o len cap a) (ha : a ≤ 1000000) (hn : n < 1) :
    Calls Try.prog 39 #[.pointer (some ⟨b, 0, none⟩), .int .i64 n] w fun e w' => e = .returned (.int .i64 0) ∧ w' = w.setCell ⟨b, 1, none⟩ (.int .i64 (a + 1)) := by
  have h1 := h.count
  have h2 := h.live
  have h3 := h.pos
  clear h
  go_enter Try.func39, Try.ntmps39
  go_wp2
  go_ret
  exact ⟨rfl, rfl⟩
set_option maxHeartbeats 400000 in
theorem l1Next_none (w : World) (b : Nat) (o : Option Addr) (cap : Nat) (a n : Int) (h : Src w b o 0 cap a) (ha : a ≤ 1000000) (hn : 1 ≤ n) :
    Calls Try.prog 39 #[.pointer (some ⟨b, 0, none⟩), .int .i64 n] w fun e w' => e = .returned (.int .i64 ((a * 7) % n)) ∧ w' = w.setCell ⟨b, 1, none⟩ (.int .i64 (a + 1)) := by
  have g0 := h.next.code
  have g1 := h.next.count
  have h1 := h.count
  have h2 := h.live
  have h3 := h.pos
  clear h
  go_enter Try.func39, Try.ntmps39
  go_wp2
  go_ret
  exact ⟨rfl, rfl⟩
set_option maxHeartbeats 400000 in
theorem l1Next_some (w : World) (b g off : Nat) (len cap : Nat) (a n x : Int) (h : Src w b (some ⟨g, off, none⟩) len cap a) (ha : a ≤ 1000000) (hl : 0 < len) (hl2 : len ≤ 1048576) (hn : 1 ≤ n) (hn2 : n ≤ 200)
    (hc : w.cell? ⟨g, off + (a % len).toNat, none⟩ = some (.int .u8 x)) (hg : g ≠ b) (x0 : 0 ≤ x) (x1 : x < 256) :
    Calls Try.prog 39 #[.pointer (some ⟨b, 0, none⟩), .int .i64 n] w fun e w' => e = .returned (.int .i64 ((x + a / len * 37) % n)) ∧ ∃ m, w' = (w.setCell ⟨b, 1, none⟩ (.int .i64 (a + 1))).drewN m := by
  have g0 := h.next.code
  have g1 := h.next.count
  have gc : (w.setCell ⟨b, 1, none⟩ (.int .i64 (a + 1))).cell? ⟨g, off + (a % len).toNat, none⟩ = some (.int .u8 x) := (World.cell?_setCell_other _ _ _ _ (fun e => hg (congrArg Addr.block e).symm)).trans hc
  have h1 := h.count
  have h2 := h.live
  have h3 := h.pos
  clear h hc
  have q0 : 0 ≤ a / len := Int.ediv_nonneg h3 (by omega)
  have q1 : a / len ≤ a := Int.ediv_le_self _ h3
  have r0 : 0 ≤ a % len := Int.emod_nonneg _ (by omega)
  have r1 : a % len < len := Int.emod_lt_of_pos _ (by omega)
  have hl0 : ((len : Int) == 0) = false := beq_eq_false_iff_ne.2 (by omega)
  go_enter Try.func39, Try.ntmps39
  go_wp2
  go_quiet (fail)
  go_wp2
  go_ret
  exact ⟨rfl, _, rfl⟩
set_option maxHeartbeats 400000 in
theorem l1Next_big (w : World) (b g off : Nat) (len cap : Nat) (a n x y : Int) (h : Src w b (some ⟨g, off, none⟩) len cap a) (ha : a ≤ 1000000) (hl : 0 < len) (hl2 : len ≤ 1048576) (hn : 200 < n)
    (hc : w.cell? ⟨g, off + (a % len).toNat, none⟩ = some (.int .u8 x)) (hd : w.cell? ⟨g, off + ((a + 1) % len).toNat, none⟩ = some (.int .u8 y)) (hg : g ≠ b) (x0 : 0 ≤ x) (x1 : x < 256) (y0 : 0 ≤ y) (y1 : y < 256) :
    Calls Try.prog 39 #[.pointer (some ⟨b, 0, none⟩), .int .i64 n] w fun e w' => e = .returned (.int .i64 (((x + a / len * 37) * 251 + y * 13 + a) % n)) ∧ ∃ m, w' = (w.setCell ⟨b, 1, none⟩ (.int .i64 (a + 1))).drewN m := by
  have g0 := h.next.code
  have g1 := h.next.count
  have gc : (w.setCell ⟨b, 1, none⟩ (.int .i64 (a + 1))).cell? ⟨g, off + (a % len).toNat, none⟩ = some (.int .u8 x) := (World.cell?_setCell_other _ _ _ _ (fun e => hg (congrArg Addr.block e).symm)).trans hc
  have gd : (w.setCell ⟨b, 1, none⟩ (.int .i64 (a + 1))).cell? ⟨g, off + ((a + 1) % len).toNat, none⟩ = some (.int .u8 y) := (World.cell?_setCell_other _ _ _ _ (fun e => hg (congrArg Addr.block e).symm)).trans hd
  have h1 := h.count
  have h2 := h.live
  have h3 := h.pos
  clear h hc hd
  have q0 : 0 ≤ a / len := Int.ediv_nonneg h3 (by omega)
  have q1 : a / len ≤ a := Int.ediv_le_self _ h3
  have r0 : 0 ≤ a % len := Int.emod_nonneg _ (by omega)
  have r1 : a % len < len := Int.emod_lt_of_pos _ (by omega)
  have s0 : 0 ≤ (a + 1) % len := Int.emod_nonneg _ (by omega)
  have s1 : (a + 1) % len < len := Int.emod_lt_of_pos _ (by omega)
  have hl0 : ((len : Int) == 0) = false := beq_eq_false_iff_ne.2 (by omega)
  go_enter Try.func39, Try.ntmps39
  go_wp2
  go_quiet (fail)
  go_wp2
  go_quiet (fail)
  go_wp2
  go_ret
  exact ⟨rfl, _, rfl⟩

theorem But.drewN {b : Nat} {w w' : World} (h : But b w w') (n : Nat) : But b w (w'.drewN n) := ⟨h.os, h.tape, h.output, h.size, h.block⟩
/-- Whatever it draws from: a number in its bounds; its count goes on by one; all else stays. -/
theorem l1Next_any (w : World) (b : Nat) (o : Option Addr) (len cap : Nat) (a n : Int) (h : Src w b o len cap a) (ha : a ≤ 1000000) (hl : len ≤ 1048576) :
    Calls Try.prog 39 #[.pointer (some ⟨b, 0, none⟩), .int .i64 n] w fun e w' => ∃ r : Int, e = .returned (.int .i64 r) ∧ 0 ≤ r ∧ (1 ≤ n → r < n) ∧ Src w' b o len cap (a + 1) ∧ But b w w' := by
  by_cases hn : n < 1
  · exact (l1Next_less w b o len cap a n h ha hn).mono fun e w' ⟨he, hw⟩ => ⟨0, he, Int.le_refl _, fun h1 => by omega, hw ▸ h.next, hw ▸ But.next _ _ _⟩
  by_cases h0 : len = 0
  · subst h0
    exact (l1Next_none w b o cap a n h ha (by omega)).mono fun e w' ⟨he, hw⟩ => ⟨_, he, Int.emod_nonneg _ (by omega), fun _ => Int.emod_lt_of_pos _ (by omega), hw ▸ h.next, hw ▸ But.next _ _ _⟩
  · have h3 := h.pos
    have r0 : 0 ≤ a % len := Int.emod_nonneg _ (by omega)
    have r1 : a % len < len := Int.emod_lt_of_pos _ (by omega)
    have s0 : 0 ≤ (a + 1) % len := Int.emod_nonneg _ (by omega)
    have s1 : (a + 1) % len < len := Int.emod_lt_of_pos _ (by omega)
    obtain ⟨g, off, x, rfl, hg, hx, x0, x1⟩ := h.bytes (a % len).toNat (by omega)
    obtain ⟨g', off', y, he', hg', hy, y0, y1⟩ := h.bytes ((a + 1) % len).toNat (by omega)
    simp only [Option.some.injEq, Addr.mk.injEq, and_true] at he'
    obtain ⟨rfl, rfl⟩ := he'
    by_cases h2 : 200 < n
    · exact (l1Next_big w b g off len cap a n x y h ha (by omega) hl h2 hx hy hg x0 x1 y0 y1).mono fun e w' ⟨he, m, hw⟩ => ⟨_, he, Int.emod_nonneg _ (by omega), fun _ => Int.emod_lt_of_pos _ (by omega), hw ▸ h.next.drewN m, hw ▸ (But.next _ _ _).drewN m⟩
    · exact (l1Next_some w b g off len cap a n x h ha (by omega) hl (by omega) (by omega) hx hg x0 x1).mono fun e w' ⟨he, m, hw⟩ => ⟨_, he, Int.emod_nonneg _ (by omega), fun _ => Int.emod_lt_of_pos _ (by omega), hw ▸ h.next.drewN m, hw ▸ (But.next _ _ _).drewN m⟩
end Go.Proofs.Ytjimckfkbkfggaa
