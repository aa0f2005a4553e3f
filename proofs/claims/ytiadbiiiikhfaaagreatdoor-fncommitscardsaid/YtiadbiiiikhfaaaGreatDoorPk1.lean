/-
 Own text, merged of RegT, DrawA, IntsA, DrawB, KeysA, DrawC, RegP, ColsA, LawE, ColsB, MarkA, StorQ, MarkS, LawT, AsB, ColsP, ColsM, SrtP, Lay, ColsZ, PartA.
-/
import Derived.Test.YtiadbiiiikhfaaaGreatDoorRows
import Derived.Test.YtiadbiiiikhfaaaGreatDoorCards
import Derived.Test.YtiadbiiiikhfaaaGreatDoorTie
import Derived.Deep.RegionHeld
import Derived.WalkKit
import Derived.RowKitTokens
import Derived.WalkLawsBesides
import Derived.ProofKit
import Derived.OpenShut
import Derived.BigQuiet
import Derived.Deep.QuietTactic
import Derived.Laws.OwnMore
import Derived.Handy
import Derived.Deep.Onto
import Derived.Great.Frames
import Derived.Deep.Slices
import Derived.Lib.SmallJoins
import Derived.LaidEql
import Derived.Stop.Asserts
import Derived.Shelf.SlGeneric
import Derived.Shelf.SlSortCmp.NoneTotal
import Derived.Ground.SlsfProg
import Derived.OwnWalk
import Derived.Laws.AppendOwn
import Derived.Maps.OwnSet
import Derived.DeepKeys4
import Derived.Lib.SliceRun
import Derived.Deep.AppendLies
import Derived.Laws.AppendOwnNone
import Derived.Deep.DeepCutAuto
import Derived.Laws.IdiomCopy
import Derived.Laws.Externs
import Derived.Lib.Overlaps
import Derived.Lib.AppendZerosOnto
import Derived.Deep.RegionLaw
import Derived.ArgAppend
import Derived.Deep.AppendSrc
import Derived.Maps.RangeWalk
import Derived.Deep.Cut
import Derived.Deep.CutRange
import Derived.Deep.CutBlock
import Derived.Laws.StructEq
import Derived.LaidMore
import Derived.LaidLaws
import Derived.LaidHandle
import Derived.Stop.Joined
import Derived.SevenTiedAt
import Derived.ShutString
import Derived.ChangeOld
import Derived.Below
namespace Go.Proofs.YtiadbiiiikhfaaaGreatDoor
open Go.RowKit
theorem tkH {P : Program} {ops : Array Oper} {Q : Exit → Act → World → Prop} {md : Region.Mode} {S : World → Prop} (i : Nat) {oi : Oper} (v : Value) {fuel : Nat} {listed : Array Bool} {a : Act} {w : World} (hS : S w) (hy : ∀ w, S w → (execOp a.eval oi).run P w = .ok (.value v) w) (h : wpAnyH P md ops Q S fuel (listed.setIfInBounds i true) (a.put oi.dst v) w) (hi : ops[i]? = some oi := by exact rfl) (hs : Region.noSelect ops = true := by as_aux_lemma => kernel_rfl) (hf : Region.free md ops listed i = true := by as_aux_lemma => kernel_rfl) (hr : (Region.ready md ops listed).contains i = true := by as_aux_lemma => kernel_rfl) (hQ : ∀ c a w, Q (.panic c) (a.put oi.dst v) w → Q (.panic c) a w := by exact fun _ _ _ h => h) (hw : Region.wanted oi (yielded ops a.tmps) = true := by kernel_rfl) : wpAnyH P md ops Q S (fuel + 1) listed a w :=
 wpAnyH_take hi hs hf hr hQ (Or.inl ⟨hw, hy⟩) hS h
theorem noH {P : Program} {ops : Array Oper} {Q : Exit → Act → World → Prop} {md : Region.Mode} {S : World → Prop} (i : Nat) {oi : Oper} {fuel : Nat} {listed : Array Bool} {a : Act} {w : World} (hS : S w) (h : wpAnyH P md ops Q S fuel (listed.setIfInBounds i true) (a.put oi.dst undef) w) (hi : ops[i]? = some oi := by exact rfl) (hs : Region.noSelect ops = true := by as_aux_lemma => kernel_rfl) (hf : Region.free md ops listed i = true := by as_aux_lemma => kernel_rfl) (hr : (Region.ready md ops listed).contains i = true := by as_aux_lemma => kernel_rfl) (hQ : ∀ c a w, Q (.panic c) (a.put oi.dst undef) w → Q (.panic c) a w := by exact fun _ _ _ h => h) (hw : Region.wanted oi (yielded ops a.tmps) = false := by kernel_rfl) : wpAnyH P md ops Q S (fuel + 1) listed a w :=
 wpAnyH_take hi hs hf hr hQ (Or.inr ⟨hw, rfl⟩) hS h
theorem rdH {P : Program} {ops : Array Oper} {Q : Exit → Act → World → Prop} {md : Region.Mode} {S : World → Prop} (i : Nat) {o : Oper} {fuel : Nat} {listed : Array Bool} {a : Act} {w : World} (h : ∀ K' : Act → World → Prop, Shut (∀ a w, S w → (S w → wpAnyH P md ops Q S fuel (listed.setIfInBounds i true) a w) → K' a w) → if Region.wanted o (yielded ops a.tmps) = true then Oper.wp P o a w K' Q else K' (a.put o.dst undef) w) (ho : ops[i]? = some o := by exact rfl) (hr : Region.ready md ops listed = [i] := by as_aux_lemma => kernel_rfl) : wpAnyH P md ops Q S (fuel + 1) listed a w :=
 wpAnyH_ready hr (List.cons_ne_nil _ _) (AllReadyH.cons ho h AllReadyH.nil)
end Go.Proofs.YtiadbiiiikhfaaaGreatDoor

namespace Go.Proofs.YtiadbiiiikhfaaaGreatDoor
open Go.RowKit

/-- A source at block b: the bytes that it draws from, and how often it drew. -/
structure Src (w : World) (b : Nat) (o : Option Addr) (len cap : Nat) (at' : Int) : Prop where
 code : w.cell? ⟨b, 0, none⟩ = some (.slice o len cap)
 count : w.cell? ⟨b, 1, none⟩ = some (.int .i64 at')
 live : w.frozen? ⟨b, 1, none⟩ = false
 pos : 0 ≤ at'
 bytes : ∀ j, j < len → ∃ (g off : Nat) (n : Int), o = some ⟨g, off, none⟩ ∧ g ≠ b ∧ w.cell? ⟨g, off + j, none⟩ = some (.int .u8 n) ∧ 0 ≤ n ∧ n < 256

theorem Src.next {w : World} {b : Nat} {o : Option Addr} {len cap : Nat} {a : Int} (h : Src w b o len cap a) : Src (w.setCell ⟨b, 1, none⟩ (.int .i64 (a + 1))) b o len cap (a + 1) where
 code := (World.cell?_setCell_other _ _ _ _ (by simp)).trans h.code
 count := World.cell?_setCell_same _ _ _ h.count
 live := (World.frozen?_setCell _ _ _ _).trans h.live
 pos := by have := h.pos; omega
 bytes := fun j hj => by
  obtain ⟨g, off, n, e1, e2, e3, e4⟩ := h.bytes j hj
  exact ⟨g, off, n, e1, e2, (World.cell?_setCell_other _ _ _ _ (fun e => e2 (congrArg Addr.block e).symm)).trans e3, e4⟩
theorem Src.drewN {w : World} {b : Nat} {o : Option Addr} {len cap : Nat} {a : Int} (h : Src w b o len cap a) (n : Nat) : Src (w.drewN n) b o len cap a := ⟨h.code, h.count, h.live, h.pos, h.bytes⟩
/-- The world but for block b is as it was. -/
def But (b : Nat) (w w' : World) : Prop := w.grownBy w' (some b)
theorem But.next (w : World) (b : Nat) (v : Value) : But b w (w.setCell ⟨b, 1, none⟩ v) :=
 ⟨rfl, rfl, rfl, by simp [World.setCell], fun k _ hk => Below.heap_setCell w ⟨b, 1, none⟩ v k (fun e => hk (by simp [e]))⟩

set_option maxHeartbeats 400000 in
theorem l1Next_less (w : World) (b : Nat) (o : Option Addr) (len cap : Nat) (a n : Int) (h : Src w b o len cap a) (ha : a ≤ 1000000) (hn : n < 1) :
  Calls Tryz.prog 30 #[.pointer (some ⟨b, 0, none⟩), .int .i64 n] w fun e w' => e = .returned (.int .i64 0) ∧ w' = w.setCell ⟨b, 1, none⟩ (.int .i64 (a + 1)) := by
 have h1 := h.count
 have h2 := h.live
 have h3 := h.pos
 clear h
 go_enter Tryz.func30, Tryz.ntmps30
 go_wp2
 go_ret
 exact ⟨rfl, rfl⟩
set_option maxHeartbeats 400000 in
theorem l1Next_none (w : World) (b : Nat) (o : Option Addr) (cap : Nat) (a n : Int) (h : Src w b o 0 cap a) (ha : a ≤ 1000000) (hn : 1 ≤ n) :
  Calls Tryz.prog 30 #[.pointer (some ⟨b, 0, none⟩), .int .i64 n] w fun e w' => e = .returned (.int .i64 ((a * 7) % n)) ∧ w' = w.setCell ⟨b, 1, none⟩ (.int .i64 (a + 1)) := by
 have g0 := h.next.code
 have g1 := h.next.count
 have h1 := h.count
 have h2 := h.live
 have h3 := h.pos
 clear h
 go_enter Tryz.func30, Tryz.ntmps30
 go_wp2
 go_ret
 exact ⟨rfl, rfl⟩
set_option maxHeartbeats 400000 in
theorem l1Next_some (w : World) (b g off : Nat) (len cap : Nat) (a n x : Int) (h : Src w b (some ⟨g, off, none⟩) len cap a) (ha : a ≤ 1000000) (hl : 0 < len) (hl2 : len ≤ 1048580) (hn : 1 ≤ n) (hn2 : n ≤ 200)
  (hc : w.cell? ⟨g, off + (a % len).toNat, none⟩ = some (.int .u8 x)) (hg : g ≠ b) (x0 : 0 ≤ x) (x1 : x < 256) :
  Calls Tryz.prog 30 #[.pointer (some ⟨b, 0, none⟩), .int .i64 n] w fun e w' => e = .returned (.int .i64 ((x + a / len * 37) % n)) ∧ ∃ m, w' = (w.setCell ⟨b, 1, none⟩ (.int .i64 (a + 1))).drewN m := by
 have g0 := h.next.code
 have g1 := h.next.count
 have gc : (w.setCell ⟨b, 1, none⟩ (.int .i64 (a + 1))).cell? ⟨g, off + (a % len).toNat, none⟩ = some (.int .u8 x) := (World.cell?_setCell_other _ _ _ _ (fun e => hg (congrArg Addr.block e).symm)).trans hc
 have h1 := h.count
 have h2 := h.live
 have h3 := h.pos
 clear h hc
 have q0 : 0 ≤ a / len := Int.ediv_nonneg h3 (by omega)
 have q1 : a / len ≤ a := Int.ediv_le_self _ h3
 have r0 : 0 ≤ a % len := Int.emod_nonneg _ (by omega)
 have r1 : a % len < len := Int.emod_lt_of_pos _ (by omega)
 have hl0 : ((len : Int) == 0) = false := beq_eq_false_iff_ne.2 (by omega)
 go_enter Tryz.func30, Tryz.ntmps30
 go_wp2
 go_quiet (fail)
 go_wp2
 go_ret
 exact ⟨rfl, _, rfl⟩
set_option maxHeartbeats 400000 in
theorem l1Next_big (w : World) (b g off : Nat) (len cap : Nat) (a n x y : Int) (h : Src w b (some ⟨g, off, none⟩) len cap a) (ha : a ≤ 1000000) (hl : 0 < len) (hl2 : len ≤ 1048580) (hn : 200 < n)
  (hc : w.cell? ⟨g, off + (a % len).toNat, none⟩ = some (.int .u8 x)) (hd : w.cell? ⟨g, off + ((a + 1) % len).toNat, none⟩ = some (.int .u8 y)) (hg : g ≠ b) (x0 : 0 ≤ x) (x1 : x < 256) (y0 : 0 ≤ y) (y1 : y < 256) :
  Calls Tryz.prog 30 #[.pointer (some ⟨b, 0, none⟩), .int .i64 n] w fun e w' => e = .returned (.int .i64 (((x + a / len * 37) * 251 + y * 13 + a) % n)) ∧ ∃ m, w' = (w.setCell ⟨b, 1, none⟩ (.int .i64 (a + 1))).drewN m := by
 have g0 := h.next.code
 have g1 := h.next.count
 have gc : (w.setCell ⟨b, 1, none⟩ (.int .i64 (a + 1))).cell? ⟨g, off + (a % len).toNat, none⟩ = some (.int .u8 x) := (World.cell?_setCell_other _ _ _ _ (fun e => hg (congrArg Addr.block e).symm)).trans hc
 have gd : (w.setCell ⟨b, 1, none⟩ (.int .i64 (a + 1))).cell? ⟨g, off + ((a + 1) % len).toNat, none⟩ = some (.int .u8 y) := (World.cell?_setCell_other _ _ _ _ (fun e => hg (congrArg Addr.block e).symm)).trans hd
 have h1 := h.count
 have h2 := h.live
 have h3 := h.pos
 clear h hc hd
 have q0 : 0 ≤ a / len := Int.ediv_nonneg h3 (by omega)
 have q1 : a / len ≤ a := Int.ediv_le_self _ h3
 have r0 : 0 ≤ a % len := Int.emod_nonneg _ (by omega)
 have r1 : a % len < len := Int.emod_lt_of_pos _ (by omega)
 have s0 : 0 ≤ (a + 1) % len := Int.emod_nonneg _ (by omega)
 have s1 : (a + 1) % len < len := Int.emod_lt_of_pos _ (by omega)
 have hl0 : ((len : Int) == 0) = false := beq_eq_false_iff_ne.2 (by omega)
 go_enter Tryz.func30, Tryz.ntmps30
 go_wp2
 go_quiet (fail)
 go_wp2
 go_quiet (fail)
 go_wp2
 go_ret
 exact ⟨rfl, _, rfl⟩

theorem But.drewN {b : Nat} {w w' : World} (h : But b w w') (n : Nat) : But b w (w'.drewN n) := ⟨h.os, h.tape, h.output, h.size, h.block⟩
/-- Whatever it draws from: a number in its bounds; its count goes on by one; all else stays. -/
theorem l1Next_anyX (w : World) (b : Nat) (o : Option Addr) (len cap : Nat) (a n : Int) (h : Src w b o len cap a) (ha : a ≤ 1000000) (hl : len ≤ 1048580) :
  Calls Tryz.prog 30 #[.pointer (some ⟨b, 0, none⟩), .int .i64 n] w fun e w' => ∃ r : Int, e = .returned (.int .i64 r) ∧ 0 ≤ r ∧ (1 ≤ n → r < n) ∧ Src w' b o len cap (a + 1) ∧ But b w w' := by
 by_cases hn : n < 1
 ·exact (l1Next_less w b o len cap a n h ha hn).mono fun e w' ⟨he, hw⟩ => ⟨0, he, Int.le_refl _, fun h1 => by omega, hw ▸ h.next, hw ▸ But.next _ _ _⟩
 by_cases h0 : len = 0
 ·subst h0
  exact (l1Next_none w b o cap a n h ha (by omega)).mono fun e w' ⟨he, hw⟩ => ⟨_, he, Int.emod_nonneg _ (by omega), fun _ => Int.emod_lt_of_pos _ (by omega), hw ▸ h.next, hw ▸ But.next _ _ _⟩
 ·have h3 := h.pos
  have r0 : 0 ≤ a % len := Int.emod_nonneg _ (by omega)
  have r1 : a % len < len := Int.emod_lt_of_pos _ (by omega)
  have s0 : 0 ≤ (a + 1) % len := Int.emod_nonneg _ (by omega)
  have s1 : (a + 1) % len < len := Int.emod_lt_of_pos _ (by omega)
  obtain ⟨g, off, x, rfl, hg, hx, x0, x1⟩ := h.bytes (a % len).toNat (by omega)
  obtain ⟨g', off', y, he', hg', hy, y0, y1⟩ := h.bytes ((a + 1) % len).toNat (by omega)
  simp only [Option.some.injEq, Addr.mk.injEq, and_true] at he'
  obtain ⟨rfl, rfl⟩ := he'
  by_cases h2 : 200 < n
  ·exact (l1Next_big w b g off len cap a n x y h ha (by omega) hl h2 hx hy hg x0 x1 y0 y1).mono fun e w' ⟨he, m, hw⟩ => ⟨_, he, Int.emod_nonneg _ (by omega), fun _ => Int.emod_lt_of_pos _ (by omega), hw ▸ h.next.drewN m, hw ▸ (But.next _ _ _).drewN m⟩
  ·exact (l1Next_some w b g off len cap a n x h ha (by omega) hl (by omega) (by omega) hx hg x0 x1).mono fun e w' ⟨he, m, hw⟩ => ⟨_, he, Int.emod_nonneg _ (by omega), fun _ => Int.emod_lt_of_pos _ (by omega), hw ▸ h.next.drewN m, hw ▸ (But.next _ _ _).drewN m⟩
theorem l1Next_any (w : World) (b : Nat) (o : Option Addr) (len cap : Nat) (a n : Int) (h : Src w b o len cap a) (ha : a ≤ 1000000) (hl : len ≤ 1048576) :
  Calls Tryz.prog 30 #[.pointer (some ⟨b, 0, none⟩), .int .i64 n] w fun e w' => ∃ r : Int, e = .returned (.int .i64 r) ∧ 0 ≤ r ∧ (1 ≤ n → r < n) ∧ Src w' b o len cap (a + 1) ∧ But b w w' := l1Next_anyX w b o len cap a n h ha (by omega)
end Go.Proofs.YtiadbiiiikhfaaaGreatDoor

namespace Go.Proofs.YtiadbiiiikhfaaaGreatDoor
open Go.RowKit

theorem ownsRow_form {w : World} {base : Nat} {e : TypeId} {size : Nat} {v : Value} {n : Nat} {xs : List Value} (h : w.ownsRow base e size v n xs) : ∃ ao cp, v = .slice ao n cp := by
 obtain ⟨_, ⟨rfl, rfl⟩ | ⟨g, cap, cur, rfl, _⟩⟩ := h
 ·exact ⟨_, _, rfl⟩
 ·exact ⟨_, _, rfl⟩
/-- A list of whole numbers that the call made, in new memory. -/
def Ints (w : World) (base : Nat) (v : Value) (xs : List Int) : Prop := w.ownsRow base 2 1 v xs.length (xs.map (Value.int .i64))
/-- The cell at a place of a list that the call made. -/
theorem Ints.at {w : World} {B : Nat} {ao : Option Addr} {cp : Nat} {xs : List Int} (h : Ints w B (.slice ao xs.length cp) xs) {k : Nat} (hk : k < xs.length) :
  ∃ g, ao = some ⟨g, 0, none⟩ ∧ B ≤ g ∧ w.cell? ⟨g, k, none⟩ = some (.int .i64 xs[k]) ∧ w.frozen? ⟨g, k, none⟩ = false := by
 have h0 := h
 obtain ⟨_, ⟨hv, hn⟩ | ⟨g, cap, cur, hv, hg, _⟩⟩ := h
 ·omega
 ·simp only [Value.slice.injEq] at hv
  obtain ⟨rfl, _, rfl⟩ := hv
  refine ⟨g, rfl, hg, ?_, World.ownsRow.frozenAt h0 k⟩
  rw [World.ownsRow.cellAt h0 k (by omega)]
  simp [hk]
theorem Ints.form {w : World} {B : Nat} {v : Value} {xs : List Int} (h : Ints w B v xs) : ∃ ao cp, v = .slice ao xs.length cp := ownsRow_form h

theorem Ints.later {w w' : World} {B : Nat} {v : Value} {xs : List Int} (h : Ints w B v xs) (hb : Below w.heap.size w w') : Ints w' B v xs := by
 obtain ⟨h1, h2⟩ := h
 refine ⟨h1, ?_⟩
 rcases h2 with h2 | ⟨g, cap, cur, hv, hg, hh, r⟩
 ·exact Or.inl h2
 ·have hlt : g < w.heap.size := by
   rcases Nat.lt_or_ge g w.heap.size with h | h
   ·exact h
   ·rw [Array.getElem?_eq_none h] at hh; cases hh
  exact Or.inr ⟨g, cap, cur, hv, hg, (hb.block g hlt).trans hh, r⟩
theorem Ints.alloc {w : World} {B : Nat} {v : Value} {xs : List Int} (h : Ints w B v xs) (o : Obj) : Ints (w.alloc o) B v xs := World.ownsRow.alloc h o
theorem Ints.mono {w : World} {B B' : Nat} {v : Value} {xs : List Int} (h : Ints w B v xs) (hb : B' ≤ B) : Ints w B' v xs := World.ownsRow.mono h hb
theorem Ints.drewN {w : World} {B : Nat} {v : Value} {xs : List Int} (h : Ints w B v xs) (n : Nat) : Ints (w.drewN n) B v xs := h
theorem Ints.lt {w : World} {B : Nat} {v : Value} {xs : List Int} (h : Ints w B v xs) : ∀ k, v.ownBlock = some k → B ≤ k ∧ k < w.heap.size := World.ownsRow.lt h
theorem Ints.grown {w w' : World} {B : Nat} {v : Value} {xs : List Int} (h : Ints w B v xs) {row : Option Nat} (hg : w.grownBy w' row) (hne : ∀ k, v.ownBlock = some k → row ≠ some k) : Ints w' B v xs :=
 World.ownsRow.kept h hg (by
  cases hv : v.ownBlock with
  | none => exact Or.inl rfl
  | some k => exact Or.inr (fun e => hne k hv e.symm))
theorem Ints.nil (w : World) (B : Nat) : Ints w B (.slice none 0 0) [] := World.ownsRow_nil w B _ 1
theorem grown_refl_alloc {w : World} (o : Obj) (row : Option Nat) : w.grownBy (w.alloc o) row := ⟨rfl, rfl, rfl, by simp, fun k hk _ => Below.heap_alloc w o k hk⟩
theorem grown_trans {a b c : World} {row : Option Nat} (h : a.grownBy b row) (k : b.grownBy c row) : a.grownBy c row :=
 ⟨k.os.trans h.os, k.tape.trans h.tape, k.output.trans h.output, Nat.le_trans h.size k.size, fun i hi hne => (k.block i (Nat.lt_of_lt_of_le hi h.size) hne).trans (h.block i hi hne)⟩

/-- n numbers from k on. -/
def up (k : Int) (n : Nat) : List Int := (List.range n).map (fun j => k + (j : Nat))
end Go.Proofs.YtiadbiiiikhfaaaGreatDoor

namespace Go.Proofs.YtiadbiiiikhfaaaGreatDoor
open Go.RowKit

theorem lt_of_cell {w : World} {b off : Nat} {v : Value} (h : w.cell? ⟨b, off, none⟩ = some v) : b < w.heap.size := World.block_lt_of_cell? w ⟨b, off, none⟩ h
theorem Src.lt {w : World} {b : Nat} {o : Option Addr} {len cap : Nat} {a : Int} (h : Src w b o len cap a) : b < w.heap.size := lt_of_cell h.code
theorem Src.later {w w' : World} {b : Nat} {o : Option Addr} {len cap : Nat} {a : Int} (h : Src w b o len cap a) (hb : Below w.heap.size w w') : Src w' b o len cap a where
 code := (hb.cell (p := ⟨b, 0, none⟩) h.lt).trans h.code
 count := (hb.cell (p := ⟨b, 1, none⟩) h.lt).trans h.count
 live := (hb.frozen (p := ⟨b, 1, none⟩) h.lt).trans h.live
 pos := h.pos
 bytes := fun j hj => by
  obtain ⟨g, off, n, e1, e2, e3, e4⟩ := h.bytes j hj
  exact ⟨g, off, n, e1, e2, (hb.cell (p := ⟨g, off + j, none⟩) (lt_of_cell e3)).trans e3, e4⟩
theorem Src.alloc {w : World} {b : Nat} {o : Option Addr} {len cap : Nat} {a : Int} (h : Src w b o len cap a) (x : Obj) : Src (w.alloc x) b o len cap a := h.later ((Below.refl _ _).alloc (Nat.le_refl _) _)
theorem But.refl (b : Nat) (w : World) : But b w w := ⟨rfl, rfl, rfl, Nat.le_refl _, fun _ _ _ => rfl⟩
theorem But.trans {b : Nat} {a c d : World} (h : But b a c) (k : But b c d) : But b a d := grown_trans h k
theorem But.alloc {b : Nat} {a c : World} (h : But b a c) (x : Obj) : But b a (c.alloc x) := grown_trans h (grown_refl_alloc x _)
theorem But.below {b : Nat} {a c d : World} (h : But b a c) (k : Below c.heap.size c d) : But b a d := grown_trans h ⟨k.os, k.tape, k.output, k.size, fun i hi _ => k.block i hi⟩
theorem But.cell {b : Nat} {w w' : World} (h : But b w w') {g off : Nat} {v : Value} (hc : w.cell? ⟨g, off, none⟩ = some v) (hg : g ≠ b) : w'.cell? ⟨g, off, none⟩ = some v := World.grownBy.cell h (a := ⟨g, off, none⟩) hc (by simp; exact hg)
theorem But.frozen {b : Nat} {w w' : World} (h : But b w w') {g off : Nat} (hl : g < w.heap.size) (hg : g ≠ b) : w'.frozen? ⟨g, off, none⟩ = w.frozen? ⟨g, off, none⟩ := World.frozen?_of_block (w := w) (h.block g hl (by simp; exact hg))
theorem But.ints {b B : Nat} {w w' : World} {v : Value} {xs : List Int} (h : But b w w') (hI : Ints w B v xs) (hb : b < B) : Ints w' B v xs := hI.grown h (fun k hk e => by have := (hI.lt k hk).1; simp at e; omega)
/-- What the source drew leaves all that was there ahead of it as it was. -/
theorem Below.but {B b : Nat} {a w w' : World} (h : Below B a w) (k : But b w w') (hB : B ≤ w.heap.size) (hb : B ≤ b) : Below B a w' := h.grown k hB (fun j e => by simp at e; omega)

/-- The bytes that come in. -/
def Code (w : World) (o : Option Addr) (len : Nat) : Prop := ∀ j, j < len → ∃ (g off : Nat) (n : Int), o = some ⟨g, off, none⟩ ∧ w.cell? ⟨g, off + j, none⟩ = some (.int .u8 n) ∧ 0 ≤ n ∧ n < 256
theorem Code.later {w w' : World} {o : Option Addr} {len : Nat} (h : Code w o len) (hb : Below w.heap.size w w') : Code w' o len := fun j hj => by
 obtain ⟨g, off, n, e1, e3, e4⟩ := h j hj
 exact ⟨g, off, n, e1, (hb.cell (p := ⟨g, off + j, none⟩) (lt_of_cell e3)).trans e3, e4⟩
set_option maxHeartbeats 400000 in
theorem l1Source_any (w : World) (o : Option Addr) (len cap : Nat) (h : Code w o len) :
  Calls Tryz.prog 27 #[.slice o len cap] w fun e w' => e = .returned (.pointer (some ⟨w.heap.size, 0, none⟩)) ∧ Src w' w.heap.size o len cap 0 ∧ Below w.heap.size w w' ∧ w'.heap.size = w.heap.size + 1 := by
 have HS : Hid (Src (w.alloc (.cells #[.slice o len cap, .int .i64 0] 110)) w.heap.size o len cap 0) := {
  code := World.cell?_alloc_mark w _ _ _ 0
  count := World.cell?_alloc_mark w _ _ _ 1
  live := by simp
  pos := Int.le_refl _
  bytes := fun j hj => by
   obtain ⟨g, off, n, e1, e3, e4⟩ := h j hj
   have hl := lt_of_cell e3
   exact ⟨g, off, n, e1, by omega, (World.cell?_alloc_lt _ _ _ hl).trans e3, e4⟩ }
 clear h
 go_enter Tryz.func27, Tryz.ntmps27
 go_wp2
 go_ret
 exact ⟨rfl, HS.out, (Below.refl _ _).alloc (Nat.le_refl _) _, by simp⟩

set_option maxHeartbeats 400000 in
theorem l1Pick_anyX (w : World) (b : Nat) (o : Option Addr) (len cap : Nat) (a : Int) (v : Value) (B : Nat) (xs : List Int) (h : Src w b o len cap a) (ha : a ≤ 1000000) (hl : len ≤ 1048580)
  (hI : Ints w B v xs) (hB : b < B) (hx : 0 < xs.length) (hx2 : xs.length ≤ 1000) :
  Calls Tryz.prog 28 #[.pointer (some ⟨b, 0, none⟩), v] w fun e w' => ∃ r : Int, e = .returned (.int .i64 r) ∧ r ∈ xs ∧ Src w' b o len cap (a + 1) ∧ But b w w' := by
 obtain ⟨ao, cp, rfl⟩ := hI.form
 have HN : Hid (Calls Tryz.prog 30 #[.pointer (some ⟨b, 0, none⟩), .int .i64 xs.length] w fun e w' => ∃ r : Int, e = .returned (.int .i64 r) ∧ 0 ≤ r ∧ (1 ≤ (xs.length : Int) → r < xs.length) ∧ Src w' b o len cap (a + 1) ∧ But b w w') := l1Next_anyX w b o len cap a xs.length h ha hl
 have HI : Hid (Ints w B (.slice ao xs.length cp) xs) := hI
 clear h hI
 go_enter Tryz.func28, Tryz.ntmps28
 go_wp2_with fail
 refine HN.out.mono ?_
 rintro e w1 ⟨r, rfl, r0, r1, hS, hT⟩
 have r1' : r < xs.length := r1 (by omega)
 clear r1
 have I1 : Ints w1 B (.slice ao xs.length cp) xs := hT.ints HI.out hB
 obtain ⟨k, rfl⟩ := Int.eq_ofNat_of_zero_le r0
 have hk : k < xs.length := by omega
 obtain ⟨g, rfl, _, hc, _⟩ := I1.at hk
 have HR : Hid (xs[k] ∈ xs ∧ Src w1 b o len cap (a + 1) ∧ But b w w1) := ⟨List.getElem_mem hk, hS, hT⟩
 clear hS hT I1
 go_wp2
 go_ret
 exact ⟨_, rfl, HR.out⟩
theorem l1Pick_any (w : World) (b : Nat) (o : Option Addr) (len cap : Nat) (a : Int) (v : Value) (B : Nat) (xs : List Int) (h : Src w b o len cap a) (ha : a ≤ 1000000) (hl : len ≤ 1048576)
  (hI : Ints w B v xs) (hB : b < B) (hx : 0 < xs.length) (hx2 : xs.length ≤ 1000) :
  Calls Tryz.prog 28 #[.pointer (some ⟨b, 0, none⟩), v] w fun e w' => ∃ r : Int, e = .returned (.int .i64 r) ∧ r ∈ xs ∧ Src w' b o len cap (a + 1) ∧ But b w w' := l1Pick_anyX w b o len cap a v B xs h ha (by omega) hI hB hx hx2
end Go.Proofs.YtiadbiiiikhfaaaGreatDoor

namespace Go.Proofs.YtiadbiiiikhfaaaGreatDoor
open Go.RowKit

theorem fl_back_fin : ∀ n : Fin 200, floatToIntVal .f64 (floatOfInt .f64 (n.val : Int)) .i64 = some (n.val : Int) := by decide +kernel
theorem fl_back (n : Int) (h0 : 0 ≤ n) (h1 : n ≤ 199) : floatToIntVal .f64 (floatOfInt .f64 n) .i64 = some n := by
 have := fl_back_fin ⟨n.toNat, by omega⟩
 simpa [Int.toNat_of_nonneg h0] using this
/-- A small number comes back out of its float. -/
theorem run_to_int (n : Int) (h0 : 0 ≤ n) (h1 : n ≤ 199) (w : World) : (convert 146 2 (.float .f64 (floatOfInt .f64 n))).run Tryz.prog w = .ok (.int .i64 n) w :=
 run_convert_float_int w _ _ _ _ _ _ (by rw [Tryz.underlying146]; rfl) Tryz.underlying2 (fl_back n h0 h1)

/-- What is told of a key: 0 it stands for something, 1 for nothing, 3 it leaves its bounds. -/
def faultOf (key : Int) : Int :=
 if key < 0 ∨ 199 < key then 3
 else if key = 0 ∨ (10 ≤ key ∧ key ≤ 19) ∨ (180 ≤ key ∧ key ≤ 189) ∨ (20 ≤ key ∧ key ≤ 119 ∧ key % 10 ≤ 5) then 0 else 1
theorem faultOf_range {key : Int} (h : key < 0 ∨ 199 < key) : faultOf key = 3 := by unfold faultOf; rw [if_pos h]
theorem faultOf_ok {key : Int} (h : key = 0 ∨ (10 ≤ key ∧ key ≤ 19) ∨ (180 ≤ key ∧ key ≤ 189) ∨ (20 ≤ key ∧ key ≤ 119 ∧ key % 10 ≤ 5)) : faultOf key = 0 := by
 unfold faultOf; rw [if_neg (by omega), if_pos h]
theorem faultOf_form {key : Int} (h0 : 0 ≤ key) (h1 : key ≤ 199) (h : ¬ (key = 0 ∨ (10 ≤ key ∧ key ≤ 19) ∨ (180 ≤ key ∧ key ≤ 189) ∨ (20 ≤ key ∧ key ≤ 119 ∧ key % 10 ≤ 5))) : faultOf key = 1 := by
 unfold faultOf; rw [if_neg (by omega), if_neg h]
set_option maxHeartbeats 400000 in
theorem l1Fault_any (key : Int) (w : World) :
  Calls Tryz.prog 42 #[.int .i64 key] w fun e w' => e = .returned (.int .i64 (faultOf key)) ∧ w' = w := by
 by_cases hlo : key < 0
 ·rw [faultOf_range (Or.inl hlo)]
  go_enter Tryz.func42, Tryz.ntmps42
  go_wp2
  go_ret
  exact ⟨rfl, rfl⟩
 by_cases hhi : 199 < key
 ·rw [faultOf_range (Or.inr hhi)]
  have d1 : decide (key ≤ 199) = false := decide_eq_false (by omega)
  go_enter Tryz.func42, Tryz.ntmps42
  go_wp2
  go_ret
  exact ⟨rfl, rfl⟩
 have d1 : decide (key ≤ 199) = true := decide_eq_true (by omega)
 by_cases hz : key = 0
 ·subst hz
  rw [faultOf_ok (Or.inl rfl)]
  go_enter Tryz.func42, Tryz.ntmps42
  go_wp2
  go_ret
  exact ⟨rfl, rfl⟩
 have d0 : (key == 0) = false := beq_eq_false_iff_ne.2 hz
 by_cases h9 : key < 10
 ·rw [faultOf_form (by omega) (by omega) (by omega)]
  go_enter Tryz.func42, Tryz.ntmps42
  go_wp2
  go_ret
  exact ⟨rfl, rfl⟩
 by_cases h19 : key < 20
 ·rw [faultOf_ok (by omega)]
  have d2 : decide (key ≤ 19) = true := decide_eq_true (by omega)
  go_enter Tryz.func42, Tryz.ntmps42
  go_wp2
  go_ret
  exact ⟨rfl, rfl⟩
 have d2 : decide (key ≤ 19) = false := decide_eq_false (by omega)
 by_cases h119 : key < 120
 ·have d4 : decide (key ≤ 119) = true := decide_eq_true (by omega)
  by_cases h5 : key % 10 ≤ 5
  ·rw [faultOf_ok (by omega)]
   have d5 : decide (key % 10 ≤ 5) = true := decide_eq_true h5
   go_enter Tryz.func42, Tryz.ntmps42
   go_wp2
   go_ret
   exact ⟨rfl, rfl⟩
  ·rw [faultOf_form (by omega) (by omega) (by omega)]
   have d5 : decide (key % 10 ≤ 5) = false := decide_eq_false h5
   go_enter Tryz.func42, Tryz.ntmps42
   go_wp2
   go_ret
   exact ⟨rfl, rfl⟩
 have d4 : decide (key ≤ 119) = false := decide_eq_false (by omega)
 by_cases h179 : key < 180
 ·rw [faultOf_form (by omega) (by omega) (by omega)]
  go_enter Tryz.func42, Tryz.ntmps42
  go_wp2
  go_ret
  exact ⟨rfl, rfl⟩
 by_cases h189 : key < 190
 ·rw [faultOf_ok (by omega)]
  have d6 : decide (key ≤ 189) = true := decide_eq_true (by omega)
  go_enter Tryz.func42, Tryz.ntmps42
  go_wp2
  go_ret
  exact ⟨rfl, rfl⟩
 have d6 : decide (key ≤ 189) = false := decide_eq_false (by omega)
 rw [faultOf_form (by omega) (by omega) (by omega)]
 go_enter Tryz.func42, Tryz.ntmps42
 go_wp2
 go_ret
 exact ⟨rfl, rfl⟩
end Go.Proofs.YtiadbiiiikhfaaaGreatDoor

namespace Go.Proofs.YtiadbiiiikhfaaaGreatDoor
open Go.RowKit

set_option maxHeartbeats 1000000 in
theorem l1Key_any (w : World) (b : Nat) (o : Option Addr) (len cap : Nat) (a : Int) (h : Src w b o len cap a) (ha : a ≤ 900000) (hl : len ≤ 1048576) :
  Calls Tryz.prog 69 #[.pointer (some ⟨b, 0, none⟩)] w fun e w' => ∃ r : Int, e = .returned (.int .i64 r) ∧ faultOf r = 0 ∧ Src w' b o len cap (a + 5) ∧ But b w w' := by
 have H0 : Hid (Src w b o len cap a) := h
 have hp := h.pos
 clear h
 go_enter Tryz.func69, Tryz.ntmps69
 go_wp2_with fail
 refine (l1Next_any _ b o len cap a 4 H0.out (by omega) hl).mono ?_
 rintro e w1 ⟨r, rfl, r0, r1, hS, hT⟩
 have r4 : r < 4 := r1 (by omega)
 have H1 : Hid (Src w1 b o len cap (a + 1) ∧ But b w w1) := ⟨hS, hT⟩
 clear r1 hS hT
 go_wp2_with fail
 refine (l1Next_any _ b o len cap (a + 1) 3 H1.out.1 (by omega) hl).mono ?_
 rintro e w2 ⟨s, rfl, s0, s1, hS, hT⟩
 have s3 : s < 3 := s1 (by omega)
 have H2 : Hid (Src w2 b o len cap (a + 1 + 1) ∧ But b w w2) := ⟨hS, H1.out.2.trans hT⟩
 clear s1 hS hT H1
 go_wp2_with fail
 refine (l1Next_any _ b o len cap (a + 1 + 1) 3 H2.out.1 (by omega) hl).mono ?_
 rintro e w3 ⟨t, rfl, t0, t1, hS, hT⟩
 have t3 : t < 3 := t1 (by omega)
 have H3 : Hid (Src w3 b o len cap (a + 1 + 1 + 1) ∧ But b w w3) := ⟨hS, H2.out.2.trans hT⟩
 clear t1 hS hT H2
 go_wp2_with fail
 refine (l1Next_any _ b o len cap (a + 1 + 1 + 1) 3 H3.out.1 (by omega) hl).mono ?_
 rintro e w4 ⟨u, rfl, u0, u1, hS, hT⟩
 have u3 : u < 3 := u1 (by omega)
 have H4 : Hid (Src w4 b o len cap (a + 1 + 1 + 1 + 1) ∧ But b w w4) := ⟨hS, H3.out.2.trans hT⟩
 clear u1 hS hT H3
 go_wp2_with fail
 have hI : Ints (w4.alloc (.cells #[.int .i64 0, .int .i64 (10 + r), .int .i64 (20 + 10 * s + t), .int .i64 (180 + u)] 2)) w4.heap.size (.slice (some ⟨w4.heap.size, 0, none⟩) 4 4) [0, 10 + r, 20 + 10 * s + t, 180 + u] := World.ownsRow_lit w4 #[.int .i64 0, .int .i64 (10 + r), .int .i64 (20 + 10 * s + t), .int .i64 (180 + u)] 4 (Nat.le_refl _) (by decide) rfl
 refine (l1Pick_any _ b o len cap (a + 1 + 1 + 1 + 1) _ w4.heap.size [0, 10 + r, 20 + 10 * s + t, 180 + u] (H4.out.1.alloc _) (by omega) hl hI H4.out.1.lt (by simp) (by simp)).mono ?_
 rintro e w5 ⟨k, rfl, hk, hS, hT⟩
 have HR : Hid (faultOf k = 0 ∧ Src w5 b o len cap (a + 5) ∧ But b w w5) := by
  refine ⟨?_, ?_, (H4.out.2.alloc _).trans hT⟩
  ·simp only [List.mem_cons, List.not_mem_nil, or_false] at hk
   apply faultOf_ok
   omega
  ·have e5 : a + 1 + 1 + 1 + 1 + 1 = a + 5 := by omega
   rw [e5] at hS; exact hS
 clear hk hS hT hI H4
 go_wp2
 go_ret
 exact ⟨_, rfl, HR.out⟩
theorem fault_zero' {key : Int} (h : faultOf key = 0) : 0 ≤ key ∧ key ≤ 199 := by
 constructor
 ·apply Classical.byContradiction; intro hn
  rw [faultOf_range (Or.inl (by omega))] at h; omega
 ·apply Classical.byContradiction; intro hn
  rw [faultOf_range (Or.inr (by omega))] at h; omega

set_option maxHeartbeats 1000000 in
theorem l1Bent_any (w : World) (b : Nat) (o : Option Addr) (len cap : Nat) (a : Int) (h : Src w b o len cap a) (ha : a ≤ 800000) (hl : len ≤ 1048576) :
  Calls Tryz.prog 70 #[.pointer (some ⟨b, 0, none⟩)] w fun e w' => ∃ r : Int, e = .returned (.int .i64 r) ∧ -1 ≤ r ∧ r ≤ 200 ∧ Src w' b o len cap (a + 17) ∧ But b w w' := by
 have H0 : Hid (Src w b o len cap a ∧ But b w w) := ⟨h, But.refl _ _⟩
 have hp := h.pos
 clear h
 go_enter Tryz.func70, Tryz.ntmps70
 go_wp2_with fail
 refine (l1Key_any _ b o len cap (a) H0.out.1 (by omega) hl).mono ?_
 rintro e w1 ⟨k1, rfl, f1, hS, hT⟩
 have H1 : Hid (Src w1 b o len cap (a + 5) ∧ But b w w1) := ⟨hS, H0.out.2.trans hT⟩
 have g1 := fault_zero' f1
 clear hS hT H0 f1
 go_wp2_with fail
 refine (l1Key_any _ b o len cap (a + 5) H1.out.1 (by omega) hl).mono ?_
 rintro e w2 ⟨k2, rfl, f2, hS, hT⟩
 have H2 : Hid (Src w2 b o len cap (a + 5 + 5) ∧ But b w w2) := ⟨hS, H1.out.2.trans hT⟩
 have g2 := fault_zero' f2
 clear hS hT H1 f2
 go_wp2_with fail
 refine (l1Key_any _ b o len cap (a + 5 + 5) H2.out.1 (by omega) hl).mono ?_
 rintro e w3 ⟨k3, rfl, f3, hS, hT⟩
 have H3 : Hid (Src w3 b o len cap (a + 5 + 5 + 5) ∧ But b w w3) := ⟨hS, H2.out.2.trans hT⟩
 have g3 := fault_zero' f3
 clear hS hT H2 f3
 go_wp2_with fail
 refine (l1Next_any _ b o len cap (a + 5 + 5 + 5) 200 H3.out.1 (by omega) hl).mono ?_
 rintro e w4 ⟨u, rfl, u0, u1, hS, hT⟩
 have u2 : u < 200 := u1 (by omega)
 have H4 : Hid (Src w4 b o len cap (a + 5 + 5 + 5 + 1) ∧ But b w w4) := ⟨hS, H3.out.2.trans hT⟩
 clear u1 hS hT H3
 go_wp2_with fail
 have hI : Ints (w4.alloc (.cells #[.int .i64 k1, .int .i64 k2, .int .i64 k3, .int .i64 u, .int .i64 (-1), .int .i64 200] 2)) w4.heap.size (.slice (some ⟨w4.heap.size, 0, none⟩) 6 6) [k1, k2, k3, u, -1, 200] := World.ownsRow_lit w4 #[.int .i64 k1, .int .i64 k2, .int .i64 k3, .int .i64 u, .int .i64 (-1), .int .i64 200] 6 (Nat.le_refl _) (by decide) rfl
 refine (l1Pick_any _ b o len cap (a + 5 + 5 + 5 + 1) _ w4.heap.size [k1, k2, k3, u, -1, 200] (H4.out.1.alloc _) (by omega) hl hI H4.out.1.lt (by simp) (by simp)).mono ?_
 rintro e w5 ⟨k, rfl, hk, hS, hT⟩
 have HR : Hid (-1 ≤ k ∧ k ≤ 200 ∧ Src w5 b o len cap (a + 17) ∧ But b w w5) := by
  simp only [List.mem_cons, List.not_mem_nil, or_false] at hk
  have e5 : a + 5 + 5 + 5 + 1 + 1 = a + 17 := by omega
  rw [e5] at hS
  exact ⟨by omega, by omega, hS, (H4.out.2.alloc _).trans hT⟩
 clear hk hS hT hI H4
 go_wp2
 go_ret
 exact ⟨_, rfl, HR.out⟩

end Go.Proofs.YtiadbiiiikhfaaaGreatDoor

namespace Go.Proofs.YtiadbiiiikhfaaaGreatDoor
open Go.RowKit

/-- A literal row and the call that picks from it: the numbers of the operations, the slots, what the row holds; s: the slot of the source. -/
structure Pk where
 L : Nat
 dL : Nat
 C : Nat
 dC : Nat
 s : Nat
 X : List Int
/-- A load that may come up at any time: its number, its slot, what it yields. -/
structure Ld where
 I : Nat
 d : Nat
 v : Value
def Pk.row (p : Pk) (g : Nat) : Value := .slice (some ⟨g, 0, none⟩) p.X.length p.X.length
def allB : Nat → List (List Bool)
 | 0 => [[]]
 | n + 1 => (allB n).flatMap fun A => [false :: A, true :: A]
theorem mem_allB : ∀ (n : Nat) (A : List Bool), A.length = n → A ∈ allB n
 | 0, [], _ => by simp [allB]
 | 0, _ :: _, h => by simp at h
 | _ + 1, [], h => by simp at h
 | n + 1, x :: A, h => by
  have h1 := mem_allB n A (by simpa using h)
  simp only [allB, List.mem_flatMap]
  exact ⟨A, h1, by cases x <;> simp⟩
/-- Which operations are done: the load, the literals of A, the first k calls. -/
def mkL (ps : List Pk) (l : Ld) (l0 : Array Bool) (A : List Bool) (e : Bool) (k : Nat) : Array Bool :=
 (fun x : Array Bool => if e then x.setIfInBounds l.I true else x) <|
 (List.range ps.length).foldl (fun l i => match ps[i]? with
  | none => l
  | some p => if i < k then (if A.getD i false then l.setIfInBounds p.L true else l).setIfInBounds p.C true else if A.getD i false then l.setIfInBounds p.L true else l) l0
def left (e : Bool) : Nat := if e then 0 else 1
def rem (m : Nat) (A : List Bool) (e : Bool) (k : Nat) : Nat := A.countP (fun x => !x) + (m - k) + left e
def isL (ps : List Pk) (A : List Bool) (j : Nat) : Bool := (List.range ps.length).any fun i => (ps[i]?.map (·.L)) == some j && A.getD i true == false
def chk1 (md : Region.Mode) (ops : Array Oper) (ps : List Pk) (l : Ld) (l0 : Array Bool) (A : List Bool) (e : Bool) (k : Nat) : Bool :=
 !((List.range k).all fun i => A.getD i false) ||
 (if k == ps.length then A == List.replicate ps.length true
  else (!(Region.ready md ops (mkL ps l l0 A e k)).isEmpty) &&
  ((Region.ready md ops (mkL ps l l0 A e k)).all fun j => isL ps A j || (l.I == j && !e) || ((ps[k]?.map (·.C)) == some j && A.getD k false)) &&
  ((List.range ps.length).all fun i => A.getD i true || (match ps[i]? with
   | some p => (mkL ps l l0 A e k).setIfInBounds p.L true == mkL ps l l0 (A.set i true) e k && rem ps.length (A.set i true) e k + 1 == rem ps.length A e k
   | none => true)) &&
  (e || ((mkL ps l l0 A e k).setIfInBounds l.I true == mkL ps l l0 A true k)) &&
  (!A.getD k false || (match ps[k]? with
   | some p => (mkL ps l l0 A e k).setIfInBounds p.C true == mkL ps l l0 A e (k + 1) && rem ps.length A e (k + 1) + 1 == rem ps.length A e k
   | none => true)))
def chk (md : Region.Mode) (ops : Array Oper) (ps : List Pk) (l : Ld) (l0 : Array Bool) : Bool :=
 (allB ps.length).all fun A => (List.range (ps.length + 1)).all fun k => chk1 md ops ps l l0 A false k && chk1 md ops ps l l0 A true k
def putE (l : Ld) (e : Bool) (a : Act) : Act := if e then a.put (some l.d) l.v else a
def putAll (x : Pk → Value) (r : Pk → Int) : List Pk → Act → Act
 | [], a => a
 | p :: ps, a => putAll x r ps ((a.put (some p.dL) (x p)).put (some p.dC) (.int .i64 (r p)))
theorem act_ext {a b : Act} (hs : a.tmps.size = b.tmps.size) (hd : a.defers = b.defers) (he : ∀ t, a.eval (.tmp t) = b.eval (.tmp t)) : a = b := by
 obtain ⟨ta, da⟩ := a
 obtain ⟨tb, db⟩ := b
 simp only at hs hd
 subst hd
 have : ta = tb := by
  apply Array.ext hs
  intro i h1 h2
  have := he i
  simpa [Act.eval, Array.getD, h1, h2] using this
 rw [this]
theorem size_put (a : Act) (d : Option Tmp) (v : Value) : (a.put d v).tmps.size = a.tmps.size := by cases d <;> simp [Act.put]
theorem defers_put (a : Act) (d : Option Tmp) (v : Value) : (a.put d v).defers = a.defers := by cases d <;> rfl
theorem putAll_is (x : Pk → Value) (r : Pk → Int) : ∀ (ps : List Pk) (a a' : Act), (∀ p ∈ ps, p.dL ≠ p.dC ∧ p.dL < a.tmps.size ∧ p.dC < a.tmps.size) → a'.tmps.size = a.tmps.size → a'.defers = a.defers →
  (∀ t, (∀ p ∈ ps, t ≠ p.dL ∧ t ≠ p.dC) → a'.eval (.tmp t) = a.eval (.tmp t)) → (∀ p ∈ ps, a'.eval (.tmp p.dL) = x p ∧ a'.eval (.tmp p.dC) = .int .i64 (r p)) → a' = putAll x r ps a
 | [], a, a', _, hs, hd, he, _ => act_ext hs hd (fun t => he t (fun _ h => by cases h))
 | p :: ps, a, a', hp, hs, hd, he, hx => by
  have h0 := hp p (List.mem_cons_self ..)
  refine putAll_is x r ps _ a' (fun q hq => ?_) ?_ ?_ (fun t ht => ?_) (fun q hq => hx q (List.mem_cons_of_mem _ hq))
  ·rw [size_put, size_put]
   exact hp q (List.mem_cons_of_mem _ hq)
  ·rw [size_put, size_put]; exact hs
  ·rw [defers_put, defers_put]; exact hd
  ·by_cases h1 : t = p.dC
   ·subst h1
    rw [Act.eval_put_same _ _ _ (by rw [size_put]; exact h0.2.2)]
    exact (hx p (List.mem_cons_self ..)).2
   ·rw [Act.eval_put_ne _ _ _ _ (Ne.symm h1)]
    by_cases h2 : t = p.dL
    ·subst h2
     rw [Act.eval_put_same _ _ _ h0.2.1]
     exact (hx p (List.mem_cons_self ..)).1
    ·rw [Act.eval_put_ne _ _ _ _ (Ne.symm h2)]
     exact he t (fun q hq => by
      rcases List.mem_cons.1 hq with rfl | hq
      ·exact ⟨h2, h1⟩
      ·exact ht q hq)
theorem putE_size (l : Ld) (e : Bool) (a : Act) : (putE l e a).tmps.size = a.tmps.size ∧ (putE l e a).defers = a.defers := by
 cases e
 ·exact ⟨rfl, rfl⟩
 ·exact ⟨size_put a (some l.d) l.v, defers_put a (some l.d) l.v⟩
theorem Ints.but' {b : Nat} {w w' : World} {v : Value} {xs : List Int} (h : But b w w') (hI : Ints w (b + 1) v xs) : Ints w' (b + 1) v xs := h.ints hI (Nat.lt_succ_self b)
/-- What the operations do: the literal is laid, the call picks from it. -/
structure PkOk (ops : Array Oper) (Q : Exit → Act → World → Prop) (p : Pk) : Prop where
 lit : ∃ o, ops[p.L]? = some o ∧ o.guard = none ∧ o.dst = some p.dL ∧ ∀ (a : Act) (w : World) (K : Act → World → Prop), K (a.put (some p.dL) (p.row w.heap.size)) (w.alloc (.cells (p.X.map (Value.int .i64)).toArray 2)) → Oper.wp Tryz.prog o a w K Q
 pick : ∃ o, ops[p.C]? = some o ∧ o.guard = none ∧ o.dst = some p.dC ∧ ∀ (a : Act) (w : World) (K : Act → World → Prop), Calls Tryz.prog 28 #[a.eval (.tmp p.s), a.eval (.tmp p.dL)] w (fun e w' => ∃ v, e = .returned v ∧ K (a.put (some p.dC) v) w') → Oper.wp Tryz.prog o a w K Q
 len : 0 < p.X.length ∧ p.X.length ≤ 1000
/-- Where the region stands. -/
structure Stand (ps : List Pk) (l : Ld) (a0 : Act) (w : World) (b : Nat) (o : Option Addr) (len cap : Nat) (c : Int) (S : World → Prop) (A : List Bool) (e : Bool) (k : Nat) (a : Act) (x : World) : Prop where
 size : a.tmps.size = a0.tmps.size
 defers : a.defers = a0.defers
 rest : ∀ t, (∀ p ∈ ps, t ≠ p.dL ∧ t ≠ p.dC) → t ≠ l.d → a.eval (.tmp t) = a0.eval (.tmp t)
 load : a.eval (.tmp l.d) = (putE l e a0).eval (.tmp l.d)
 done : ∀ i p, i < k → ps[i]? = some p → ∃ r ∈ p.X, a.eval (.tmp p.dC) = .int .i64 r
 laid : ∀ i p, k ≤ i → ps[i]? = some p → A.getD i false = true → ∃ g, a.eval (.tmp p.dL) = p.row g ∧ Ints x (b + 1) (p.row g) p.X
 src : Src x b o len cap (c + k)
 but : But b w x
 held : S x
 alen : A.length = ps.length
 kle : k ≤ ps.length
 got : ∀ i, i < k → A.getD i false = true
/-- The slots are apart from one another, and from the source's. -/
def apartP (ps : List Pk) (n : Nat) : Bool :=
 (List.range ps.length).all fun i => match ps[i]? with
  | none => true
  | some p => p.dL != p.dC && decide (p.dL < n) && decide (p.dC < n) && (List.range ps.length).all fun j => match ps[j]? with
   | none => true
   | some q => p.s != q.dL && p.s != q.dC && q.s != p.dL && q.s != p.dC && p.dL != q.dC && (i == j || (p.dL != q.dL && p.dC != q.dC))
/-- The load's slot is apart from the picks'. -/
def apartE (ps : List Pk) (l : Ld) (n : Nat) : Bool := decide (l.d < n) && ps.all fun p => l.d != p.dL && l.d != p.dC && p.s != l.d
theorem apartE_at {ps : List Pk} {l : Ld} {n : Nat} (h : apartE ps l n = true) : l.d < n ∧ ∀ p ∈ ps, l.d ≠ p.dL ∧ l.d ≠ p.dC ∧ p.s ≠ l.d := by
 unfold apartE at h
 simp only [Bool.and_eq_true, decide_eq_true_eq] at h
 refine ⟨h.1, fun p hp => ?_⟩
 have := List.all_eq_true.1 h.2 p hp
 simp only [Bool.and_eq_true, bne_iff_ne] at this
 exact ⟨this.1.1, this.1.2, this.2⟩
theorem apartP_at {ps : List Pk} {n : Nat} (h : apartP ps n = true) {i j : Nat} {p q : Pk} (hp : ps[i]? = some p) (hq : ps[j]? = some q) :
  (p.dL ≠ p.dC ∧ p.dL < n ∧ p.dC < n) ∧ p.s ≠ q.dL ∧ p.s ≠ q.dC ∧ p.dL ≠ q.dC ∧ (i ≠ j → p.dL ≠ q.dL ∧ p.dC ≠ q.dC) := by
 have hi : i < ps.length := (List.getElem?_eq_some_iff.1 hp).1
 have hj : j < ps.length := (List.getElem?_eq_some_iff.1 hq).1
 have h1 := List.all_eq_true.1 h i (List.mem_range.2 hi)
 rw [hp] at h1
 simp only [Bool.and_eq_true, bne_iff_ne, decide_eq_true_eq] at h1
 have h2 := List.all_eq_true.1 h1.2 j (List.mem_range.2 hj)
 rw [hq] at h2
 simp only [Bool.and_eq_true, bne_iff_ne, Bool.or_eq_true, beq_iff_eq] at h2
 refine ⟨⟨h1.1.1.1, h1.1.1.2, h1.1.2⟩, h2.1.1.1.1.1, h2.1.1.1.1.2, h2.1.2, fun ne => ?_⟩
 rcases h2.2 with e | e
 ·exact absurd e ne
 ·exact e
theorem chk_at {md : Region.Mode} {ops : Array Oper} {ps : List Pk} {l : Ld} {l0 : Array Bool} (h : chk md ops ps l l0 = true) {A : List Bool} {e : Bool} {k : Nat} (hA : A.length = ps.length) (hk : k ≤ ps.length) : chk1 md ops ps l l0 A e k = true := by
 have := List.all_eq_true.1 (List.all_eq_true.1 h A (mem_allB _ _ hA)) k (List.mem_range.2 (by omega))
 rw [Bool.and_eq_true] at this
 cases e
 ·exact this.1
 ·exact this.2
theorem getD_set_off {A : List Bool} {i j : Nat} (h : i ≠ j) (d : Bool) : (A.set i true).getD j d = A.getD j d := by
 simp [List.getD_eq_getElem?_getD, List.getElem?_set_ne h]
theorem Stand.lay {ps : List Pk} {l : Ld} {a0 : Act} {w : World} {b : Nat} {o : Option Addr} {len cap : Nat} {c : Int} {S : World → Prop} {A : List Bool} {e : Bool} {k : Nat} {a : Act} {x : World} (h : Stand ps l a0 w b o len cap c S A e k a x) (hap : apartP ps a0.tmps.size = true) (hae : apartE ps l a0.tmps.size = true) (hS : ∀ x x', S x → But b x x' → S x') {i : Nat} {p : Pk} (hp : ps[i]? = some p) (hX : 0 < p.X.length ∧ p.X.length ≤ 1000) (hA : A.getD i true = false) :
  Stand ps l a0 w b o len cap c S (A.set i true) e k (a.put (some p.dL) (p.row x.heap.size)) (x.alloc (.cells (p.X.map (Value.int .i64)).toArray 2)) := by
 have hil : i < A.length := by rw [h.alen]; exact (List.getElem?_eq_some_iff.1 hp).1
 have hpm : p ∈ ps := List.mem_of_getElem? hp
 have hpd := (apartP_at hap hp hp).1
 have hik : ¬ i < k := fun q => by
  have := h.got i q
  rw [List.getD_eq_getElem?_getD, List.getElem?_eq_getElem hil] at this hA
  simp at this hA
  rw [this] at hA; exact absurd hA (by decide)
 exact {
  size := by rw [size_put]; exact h.size
  defers := by rw [defers_put]; exact h.defers
  rest := fun t ht hl => by rw [Act.eval_put_ne _ _ _ _ (Ne.symm (ht p hpm).1)]; exact h.rest t ht hl
  load := by rw [Act.eval_put_ne _ _ _ _ (Ne.symm ((apartE_at hae).2 p hpm).1)]; exact h.load
  done := fun j q hj hq => by
   obtain ⟨r, hr, e⟩ := h.done j q hj hq
   exact ⟨r, hr, by rw [Act.eval_put_ne _ _ _ _ (apartP_at hap hp hq).2.2.2.1]; exact e⟩
  laid := fun j q hj hq hAj => by
   by_cases e : i = j
   ·subst e
    obtain rfl : p = q := Option.some.inj (hp.symm.trans hq)
    refine ⟨x.heap.size, Act.eval_put_same _ _ _ (by rw [h.size]; exact hpd.2.1), ?_⟩
    have hI : Ints (x.alloc (.cells (p.X.map (Value.int .i64)).toArray 2)) x.heap.size (p.row x.heap.size) p.X := World.ownsRow_lit x (p.X.map (Value.int .i64)).toArray p.X.length (Nat.le_refl _) (by unfold maxLen; omega) (by simp)
    exact World.ownsRow.mono hI (by have := h.src.lt; omega)
   ·rw [getD_set_off e] at hAj
    obtain ⟨g, e1, e2⟩ := h.laid j q hj hq hAj
    refine ⟨g, by rw [Act.eval_put_ne _ _ _ _ ((apartP_at hap hp hq).2.2.2.2 e).1]; exact e1, ?_⟩
    exact ((But.refl b x).alloc _).ints e2 (Nat.lt_succ_self b)
  src := h.src.alloc _
  but := h.but.alloc _
  held := hS _ _ h.held ((But.refl _ _).alloc _)
  alen := by rw [List.length_set]; exact h.alen
  kle := h.kle
  got := fun j hj => by rw [getD_set_off (by omega)]; exact h.got j hj }
theorem Stand.pick {ps : List Pk} {l : Ld} {a0 : Act} {w : World} {b : Nat} {o : Option Addr} {len cap : Nat} {c : Int} {S : World → Prop} {A : List Bool} {e : Bool} {k : Nat} {a : Act} {x x' : World} (h : Stand ps l a0 w b o len cap c S A e k a x) (hap : apartP ps a0.tmps.size = true) (hae : apartE ps l a0.tmps.size = true) (hS : ∀ x x', S x → But b x x' → S x') {p : Pk} (hp : ps[k]? = some p) (hA : A.getD k false = true) {r : Int} (hr : r ∈ p.X) (hs : Src x' b o len cap (c + k + 1)) (hT : But b x x') :
  Stand ps l a0 w b o len cap c S A e (k + 1) (a.put (some p.dC) (.int .i64 r)) x' := by
 have hkl : k < ps.length := (List.getElem?_eq_some_iff.1 hp).1
 have hpm : p ∈ ps := List.mem_of_getElem? hp
 have hpd := (apartP_at hap hp hp).1
 exact {
  size := by rw [size_put]; exact h.size
  defers := by rw [defers_put]; exact h.defers
  rest := fun t ht hl => by rw [Act.eval_put_ne _ _ _ _ (Ne.symm (ht p hpm).2)]; exact h.rest t ht hl
  load := by rw [Act.eval_put_ne _ _ _ _ (Ne.symm ((apartE_at hae).2 p hpm).2.1)]; exact h.load
  done := fun j q hj hq => by
   by_cases e : j = k
   ·subst e
    obtain rfl : p = q := Option.some.inj (hp.symm.trans hq)
    exact ⟨r, hr, Act.eval_put_same _ _ _ (by rw [h.size]; exact hpd.2.2)⟩
   ·obtain ⟨r', hr', e'⟩ := h.done j q (by omega) hq
    exact ⟨r', hr', by rw [Act.eval_put_ne _ _ _ _ ((apartP_at hap hp hq).2.2.2.2 (fun q => e q.symm)).2]; exact e'⟩
  laid := fun j q hj hq hAj => by
   obtain ⟨g, e1, e2⟩ := h.laid j q (by omega) hq hAj
   exact ⟨g, by rw [Act.eval_put_ne _ _ _ _ (Ne.symm (apartP_at hap hq hp).2.2.2.1)]; exact e1, Ints.but' hT e2⟩
  src := by rw [show c + ((k + 1 : Nat) : Int) = c + k + 1 by omega]; exact hs
  but := h.but.trans hT
  held := hS _ _ h.held hT
  alen := h.alen
  kle := hkl
  got := fun j hj => by
   by_cases e : j = k
   ·rw [e]; exact hA
   ·exact h.got j (by omega) }
theorem Stand.get {ps : List Pk} {l : Ld} {a0 : Act} {w : World} {b : Nat} {o : Option Addr} {len cap : Nat} {c : Int} {S : World → Prop} {A : List Bool} {e : Bool} {k : Nat} {a : Act} {x : World} (h : Stand ps l a0 w b o len cap c S A e k a x) (hae : apartE ps l a0.tmps.size = true) :
  Stand ps l a0 w b o len cap c S A true k (a.put (some l.d) l.v) x := by
 have hld := apartE_at hae
 exact {
  size := by rw [size_put]; exact h.size
  defers := by rw [defers_put]; exact h.defers
  rest := fun t ht hq => by rw [Act.eval_put_ne _ _ _ _ (Ne.symm hq)]; exact h.rest t ht hq
  load := by
   rw [Act.eval_put_same _ _ _ (by rw [h.size]; exact hld.1)]
   exact (Act.eval_put_same _ _ _ hld.1).symm
  done := fun j q hj hq => by
   obtain ⟨r, hr, e⟩ := h.done j q hj hq
   exact ⟨r, hr, by rw [Act.eval_put_ne _ _ _ _ (hld.2 q (List.mem_of_getElem? hq)).2.1]; exact e⟩
  laid := fun j q hj hq hAj => by
   obtain ⟨g, e1, e2⟩ := h.laid j q hj hq hAj
   exact ⟨g, by rw [Act.eval_put_ne _ _ _ _ (hld.2 q (List.mem_of_getElem? hq)).1]; exact e1, e2⟩
  src := h.src
  but := h.but
  held := h.held
  alen := h.alen
  kle := h.kle
  got := h.got }
/-- The load yields its value wherever what is held is so. -/
def LdOk (ops : Array Oper) (Q : Exit → Act → World → Prop) (H : World → Prop) (ps : List Pk) (a0 : Act) (l : Ld) : Prop :=
 ∃ o, ops[l.I]? = some o ∧ o.guard = none ∧ o.dst = some l.d ∧ ∀ (a : Act) (w : World) (K : Act → World → Prop), (∀ t, (∀ p ∈ ps, t ≠ p.dL ∧ t ≠ p.dC) → t ≠ l.d → a.eval (.tmp t) = a0.eval (.tmp t)) → H w → K (a.put (some l.d) l.v) w → Oper.wp Tryz.prog o a w K Q
theorem picks_end {ops : Array Oper} {Q : Exit → Act → World → Prop} {md : Region.Mode} {S H : World → Prop} {ps : List Pk} {l : Ld} {l0 : Array Bool} {a0 : Act} {w : World} {b : Nat} {o : Option Addr} {len cap : Nat} {c : Int} {f : Nat}
  (hchk : chk md ops ps l l0 = true) (hap : apartP ps a0.tmps.size = true) 
  (hcont : ∀ (e : Bool) (x : Pk → Value) (r : Pk → Int) (w' : World), (∀ p ∈ ps, r p ∈ p.X) → Src w' b o len cap (c + ps.length) → But b w w' → H w' → wpAnyH Tryz.prog md ops Q S (left e + f) (mkL ps l l0 (List.replicate ps.length true) e ps.length) (putAll x r ps (putE l e a0)) w')
  (n : Nat) {A : List Bool} {e : Bool} {a : Act} {x : World} (hr : rem ps.length A e ps.length = n) (h : Stand ps l a0 w b o len cap c H A e ps.length a x) : wpAnyH Tryz.prog md ops Q S (n + f) (mkL ps l l0 A e ps.length) a x := by
 have h1 := chk_at (e := e) hchk h.alen h.kle
 have hgo : ((List.range ps.length).all fun i => A.getD i false) = true := List.all_eq_true.2 fun i hi => h.got i (List.mem_range.1 hi)
 unfold chk1 at h1
 rw [hgo, if_pos (beq_self_eq_true _)] at h1
 simp only [Bool.not_true, Bool.false_or, beq_iff_eq] at h1
 have hn : n = left e := by
  rw [← hr, h1]
  unfold rem
  rw [List.countP_replicate]
  simp
 have hx : ∀ p ∈ ps, ∃ r ∈ p.X, a.eval (.tmp p.dC) = .int .i64 r := fun p hp => by
  obtain ⟨i, hi⟩ := List.getElem?_of_mem hp
  exact h.done i p ((List.getElem?_eq_some_iff.1 hi).1) hi
 have happ : ∀ p ∈ ps, p.dL ≠ p.dC ∧ p.dL < a0.tmps.size ∧ p.dC < a0.tmps.size := fun p hp => by
  obtain ⟨i, hi⟩ := List.getElem?_of_mem hp
  exact (apartP_at hap hi hi).1
 have hsz := putE_size l e a0
 have ha : a = putAll (fun p => a.eval (.tmp p.dL)) (fun p => intOf (a.eval (.tmp p.dC))) ps (putE l e a0) := by
  refine putAll_is _ _ ps (putE l e a0) a (fun p hp => by rw [hsz.1]; exact happ p hp) (by rw [hsz.1]; exact h.size) (by rw [hsz.2]; exact h.defers) (fun t ht => ?_) (fun p hp => ⟨rfl, ?_⟩)
  ·by_cases q : t = l.d
   ·rw [q]; exact h.load
   ·rw [h.rest t ht q]
    cases e
    ·rfl
    ·exact (Act.eval_put_ne _ _ _ _ (Ne.symm q)).symm
  ·obtain ⟨r, _, e⟩ := hx p hp
   rw [e]; rfl
 rw [hn, ha, h1]
 exact hcont _ _ _ x (fun p hp => by
  obtain ⟨r, hr, e⟩ := hx p hp
  show intOf (a.eval (.tmp p.dC)) ∈ p.X
  rw [e]; exact hr) h.src h.but h.held
theorem wpAnyH_picks {ops : Array Oper} {Q : Exit → Act → World → Prop} {md : Region.Mode} {S H : World → Prop} (ps : List Pk) (l : Ld) (l0 : Array Bool) (a0 : Act) (w : World) (b : Nat) (o : Option Addr) (len cap : Nat) (c : Int) (f : Nat)
  (hchk : chk md ops ps l l0 = true) (hap : apartP ps a0.tmps.size = true) (hae : apartE ps l a0.tmps.size = true) (hok : ∀ p ∈ ps, PkOk ops Q p) (hld : LdOk ops Q H ps a0 l) (hs : ∀ p ∈ ps, a0.eval (.tmp p.s) = .pointer (some ⟨b, 0, none⟩))
  (hS : ∀ x x', H x → But b x x' → H x') (hSH : ∀ x, H x → S x) (hc : c + ps.length ≤ 1000000) (hl : len ≤ 1048576)
  (hcont : ∀ (e : Bool) (x : Pk → Value) (r : Pk → Int) (w' : World), (∀ p ∈ ps, r p ∈ p.X) → Src w' b o len cap (c + ps.length) → But b w w' → H w' → wpAnyH Tryz.prog md ops Q S (left e + f) (mkL ps l l0 (List.replicate ps.length true) e ps.length) (putAll x r ps (putE l e a0)) w') :
  ∀ (n : Nat) (A : List Bool) (e : Bool) (k : Nat) (a : Act) (x : World), rem ps.length A e k = n → Stand ps l a0 w b o len cap c H A e k a x → wpAnyH Tryz.prog md ops Q S (n + f) (mkL ps l l0 A e k) a x := by
 intro n
 induction n with
 | zero =>
  intro A e k a x hr h
  have := h.kle
  obtain rfl : k = ps.length := by unfold rem at hr; omega
  exact picks_end hchk hap hcont 0 hr h
 | succ n ih =>
  intro A e k a x hr h
  by_cases hk : k = ps.length
  ·subst hk
   exact picks_end hchk hap hcont (n + 1) hr h
  have h1 := chk_at (e := e) hchk h.alen h.kle
  have hgo : ((List.range k).all fun i => A.getD i false) = true := List.all_eq_true.2 fun i hi => h.got i (List.mem_range.1 hi)
  unfold chk1 at h1
  rw [hgo, if_neg (by simp [hk])] at h1
  simp only [Bool.not_true, Bool.false_or, Bool.and_eq_true] at h1
  obtain ⟨⟨⟨⟨hne, hall⟩, hlit⟩, hlds⟩, hpick⟩ := h1
  rw [show n + 1 + f = (n + f) + 1 by omega]
  refine ⟨fun h0 => by rw [h0] at hne; simp at hne, fun j hj => ?_⟩
  have hj' := List.all_eq_true.1 hall j hj
  rw [Bool.or_eq_true, Bool.or_eq_true] at hj'
  rcases hj' with (hj' | hj') | hj'
  ·obtain ⟨i, hi, hij⟩ := List.any_eq_true.1 hj'
   rw [Bool.and_eq_true, beq_iff_eq, beq_iff_eq] at hij
   obtain ⟨hij, hAi⟩ := hij
   have hil : i < ps.length := List.mem_range.1 hi
   obtain ⟨p, hp⟩ : ∃ p, ps[i]? = some p := ⟨ps[i], List.getElem?_eq_getElem hil⟩
   rw [hp] at hij
   obtain rfl : p.L = j := Option.some.inj hij
   have hcl := List.all_eq_true.1 hlit i hi
   rw [hAi, hp] at hcl
   simp only [Bool.false_or, Bool.and_eq_true, beq_iff_eq] at hcl
   have hk' := hok p (List.mem_of_getElem? hp)
   obtain ⟨o', ho, hg, hd, hwp⟩ := hk'.lit
   refine wpOp_step ho (fun K' hK => ?_)
   rw [if_pos (by simp [Region.wanted, hg])]
   have hn := h.lay hap hae hS hp hk'.len hAi
   refine hwp a x K' (hK _ _ ⟨hSH _ hn.held, ?_⟩)
   rw [hcl.1]
   exact ih _ _ _ _ _ (by have := hcl.2; omega) hn
  ·rw [Bool.and_eq_true, beq_iff_eq] at hj'
   obtain ⟨rfl, he⟩ := hj'
   obtain rfl : e = false := by simpa using he
   simp only [Bool.false_or, beq_iff_eq] at hlds
   obtain ⟨o', ho, hg, hd, hwp⟩ := hld
   refine wpOp_step ho (fun K' hK => ?_)
   rw [if_pos (by simp [Region.wanted, hg])]
   have hn := h.get hae
   refine hwp a x K' h.rest h.held (hK _ _ ⟨hSH _ hn.held, ?_⟩)
   rw [hlds]
   refine ih _ _ _ _ _ ?_ hn
   unfold rem left at hr ⊢
   simp only [Bool.false_eq_true, if_false, if_true] at hr ⊢
   omega
  ·rw [Bool.and_eq_true, beq_iff_eq] at hj'
   obtain ⟨hij, hAk⟩ := hj'
   obtain ⟨p, hp⟩ : ∃ p, ps[k]? = some p := by
    cases e : ps[k]? with
    | none => rw [e] at hij; cases hij
    | some p => exact ⟨p, rfl⟩
   rw [hp] at hij
   obtain rfl : p.C = j := Option.some.inj hij
   rw [hAk, hp] at hpick
   simp only [Bool.not_true, Bool.false_or, Bool.and_eq_true, beq_iff_eq] at hpick
   have hk' := hok p (List.mem_of_getElem? hp)
   obtain ⟨o', ho, hg, hd, hwp⟩ := hk'.pick
   refine wpOp_step ho (fun K' hK => ?_)
   rw [if_pos (by simp [Region.wanted, hg])]
   obtain ⟨g, e1, e2⟩ := h.laid k p (Nat.le_refl k) hp hAk
   have es : a.eval (.tmp p.s) = .pointer (some ⟨b, 0, none⟩) := by
    rw [h.rest p.s (fun q hq => by
     obtain ⟨i, hi⟩ := List.getElem?_of_mem hq
     have := apartP_at hap hp hi
     exact ⟨this.2.1, this.2.2.1⟩) ((apartE_at hae).2 p (List.mem_of_getElem? hp)).2.2]
    exact hs p (List.mem_of_getElem? hp)
   refine hwp a x K' ?_
   rw [es, e1]
   refine (l1Pick_any x b o len cap (c + k) _ (b + 1) p.X h.src (by have := h.kle; omega) hl e2 (Nat.lt_succ_self b) hk'.len.1 hk'.len.2).mono ?_
   rintro e w' ⟨r, rfl, hrX, hSr, hT⟩
   have hn := h.pick hap hae hS hp hAk hrX hSr hT
   refine ⟨_, rfl, hK _ _ ⟨hSH _ hn.held, ?_⟩⟩
   rw [hpick.1]
   exact ih _ _ _ _ _ (by have := hpick.2; omega) hn
theorem wpAnyH_at {P : Program} {md : Region.Mode} {ops : Array Oper} {Q : Exit → Act → World → Prop} {S : World → Prop} {n n' : Nat} {L L' : Array Bool} {a : Act} {w : World} (hn : n = n') (hL : L = L') (h : wpAnyH P md ops Q S n' L' a w) : wpAnyH P md ops Q S n L a w := by
 subst hn hL; exact h
/-- Where the region begins. -/
theorem Stand.start {ps : List Pk} {l : Ld} {a0 : Act} {w : World} {b : Nat} {o : Option Addr} {len cap : Nat} {c : Int} {S : World → Prop} (hs : Src w b o len cap c) (hS : S w) : Stand ps l a0 w b o len cap c S (List.replicate ps.length false) false 0 a0 w where
 size := rfl
 defers := rfl
 rest := fun _ _ _ => rfl
 load := rfl
 done := fun _ _ h => absurd h (Nat.not_lt_zero _)
 laid := fun i p _ hp hA => by
  have hil : i < ps.length := (List.getElem?_eq_some_iff.1 hp).1
  simp [List.getD_eq_getElem?_getD, hil] at hA
 src := by simpa using hs
 but := But.refl _ _
 held := hS
 alen := by simp
 kle := Nat.zero_le _
 got := fun _ h => absurd h (Nat.not_lt_zero _)
theorem run_lit3 (x0 x1 x2 : Int) (w : World) : (Instr.buildSlice 111 3 #[(0, .int .i64 x0), (1, .int .i64 x1), (2, .int .i64 x2)]).run Tryz.prog w = .ok (.slice (some ⟨w.heap.size, 0, none⟩) 3 3) (w.alloc (.cells #[.int .i64 x0, .int .i64 x1, .int .i64 x2] 2)) := by
 first | kernel_rfl | rfl | go_simp
theorem run_lit2 (x0 x1 : Int) (w : World) : (Instr.buildSlice 111 2 #[(0, .int .i64 x0), (1, .int .i64 x1)]).run Tryz.prog w = .ok (.slice (some ⟨w.heap.size, 0, none⟩) 2 2) (w.alloc (.cells #[.int .i64 x0, .int .i64 x1] 2)) := by
 first | kernel_rfl | rfl | go_simp
theorem wp_lit {o : Oper} {d : Nat} {v : Value} {c : Obj} {a : Act} {w : World} {K : Act → World → Prop} {Q : Exit → Act → World → Prop} (t : TypeId) (n : Nat) (ps : Array (Nat × Operand)) (hop : o.op = .buildSlice t n ps) (hd : o.dst = some d) (qs : Array (Nat × Value)) (hq : (ps.map fun (i, x) => (i, a.eval x)) = qs) (hr : (Instr.buildSlice t n qs).run Tryz.prog w = .ok v (w.alloc c)) (h : K (a.put (some d) v) (w.alloc c)) : Oper.wp Tryz.prog o a w K Q := by
 unfold Oper.wp execOp
 simp only [hop, hq, Sem.run_bind, hr, Result.andThen_ok, Sem.run_pure]
 show K (a.put o.dst v) (w.alloc c)
 rw [hd]
 exact h
theorem exec_pick (o : Oper) (a : Act) (w : World) (i j : Nat) (ts : Array TypeId) (hop : o.op = .call { callee := .value (.func 28), args := #[.tmp i, .tmp j], argTypes := ts }) : (execOp a.eval o).run Tryz.prog w = .ok (.enter 28 #[a.eval (.tmp i), a.eval (.tmp j)]) w := by
 unfold execOp
 simp only [hop, resolve, invoke, Sem.run_bind, List.map_toArray, List.map_cons, List.map_nil]
 generalize a.eval (.tmp i) = x
 generalize a.eval (.tmp j) = y
 kernel_rfl
theorem wp_pick {o : Oper} {d : Nat} {a : Act} {w : World} {K : Act → World → Prop} {Q : Exit → Act → World → Prop} (i j : Nat) (ts : Array TypeId) (hop : o.op = .call { callee := .value (.func 28), args := #[.tmp i, .tmp j], argTypes := ts }) (hd : o.dst = some d) (h : Calls Tryz.prog 28 #[a.eval (.tmp i), a.eval (.tmp j)] w (fun e w' => ∃ v, e = .returned v ∧ K (a.put (some d) v) w')) : Oper.wp Tryz.prog o a w K Q := by
 unfold Oper.wp
 rw [exec_pick o a w i j ts hop, Oper.upon_enter]
 refine h.mono ?_
 rintro e w' ⟨v, rfl, hk⟩
 show K (a.put o.dst v) w'
 rw [hd]
 exact hk
theorem run_lit4 (x0 x1 x2 x3 : Int) (w : World) : (Instr.buildSlice 111 4 #[(0, .int .i64 x0), (1, .int .i64 x1), (2, .int .i64 x2), (3, .int .i64 x3)]).run Tryz.prog w = .ok (.slice (some ⟨w.heap.size, 0, none⟩) 4 4) (w.alloc (.cells #[.int .i64 x0, .int .i64 x1, .int .i64 x2, .int .i64 x3] 2)) := by
 first | kernel_rfl | rfl | go_simp
theorem pkOk2 {ops : Array Oper} {Q : Exit → Act → World → Prop} (L dL C dC s : Nat) (x0 x1 : Int) (oL oC : Oper) (hL : ops[L]? = some oL) (gL : oL.guard = none) (eL : oL.dst = some dL) (pL : oL.op = .buildSlice 111 2 #[(0, .const (.int .i64 x0)), (1, .const (.int .i64 x1))])
  (hC : ops[C]? = some oC) (gC : oC.guard = none) (eC : oC.dst = some dC) (ts : Array TypeId) (pC : oC.op = .call { callee := .value (.func 28), args := #[.tmp s, .tmp dL], argTypes := ts }) : PkOk ops Q ⟨L, dL, C, dC, s, [x0, x1]⟩ where
 lit := ⟨oL, hL, gL, eL, fun a w K h => wp_lit 111 2 _ pL eL #[(0, .int .i64 x0), (1, .int .i64 x1)] (by simp [Act.eval]) (run_lit2 x0 x1 w) h⟩
 pick := ⟨oC, hC, gC, eC, fun a w K h => wp_pick s dL ts pC eC h⟩
 len := ⟨by simp, by simp⟩
theorem pkOk3 {ops : Array Oper} {Q : Exit → Act → World → Prop} (L dL C dC s : Nat) (x0 x1 x2 : Int) (oL oC : Oper) (hL : ops[L]? = some oL) (gL : oL.guard = none) (eL : oL.dst = some dL) (pL : oL.op = .buildSlice 111 3 #[(0, .const (.int .i64 x0)), (1, .const (.int .i64 x1)), (2, .const (.int .i64 x2))])
  (hC : ops[C]? = some oC) (gC : oC.guard = none) (eC : oC.dst = some dC) (ts : Array TypeId) (pC : oC.op = .call { callee := .value (.func 28), args := #[.tmp s, .tmp dL], argTypes := ts }) : PkOk ops Q ⟨L, dL, C, dC, s, [x0, x1, x2]⟩ where
 lit := ⟨oL, hL, gL, eL, fun a w K h => wp_lit 111 3 _ pL eL #[(0, .int .i64 x0), (1, .int .i64 x1), (2, .int .i64 x2)] (by simp [Act.eval]) (run_lit3 x0 x1 x2 w) h⟩
 pick := ⟨oC, hC, gC, eC, fun a w K h => wp_pick s dL ts pC eC h⟩
 len := ⟨by simp, by simp⟩
theorem pkOk4 {ops : Array Oper} {Q : Exit → Act → World → Prop} (L dL C dC s : Nat) (x0 x1 x2 x3 : Int) (oL oC : Oper) (hL : ops[L]? = some oL) (gL : oL.guard = none) (eL : oL.dst = some dL) (pL : oL.op = .buildSlice 111 4 #[(0, .const (.int .i64 x0)), (1, .const (.int .i64 x1)), (2, .const (.int .i64 x2)), (3, .const (.int .i64 x3))])
  (hC : ops[C]? = some oC) (gC : oC.guard = none) (eC : oC.dst = some dC) (ts : Array TypeId) (pC : oC.op = .call { callee := .value (.func 28), args := #[.tmp s, .tmp dL], argTypes := ts }) : PkOk ops Q ⟨L, dL, C, dC, s, [x0, x1, x2, x3]⟩ where
 lit := ⟨oL, hL, gL, eL, fun a w K h => wp_lit 111 4 _ pL eL #[(0, .int .i64 x0), (1, .int .i64 x1), (2, .int .i64 x2), (3, .int .i64 x3)] (by simp [Act.eval]) (run_lit4 x0 x1 x2 x3 w) h⟩
 pick := ⟨oC, hC, gC, eC, fun a w K h => wp_pick s dL ts pC eC h⟩
 len := ⟨by simp, by simp⟩
theorem wp_loadS {o : Oper} {d : Nat} {a : Act} {w : World} {K : Act → World → Prop} {Q : Exit → Act → World → Prop} (t : TypeId) (hag : ∀ w : World, Sem.run Tryz.prog (isAgg t) w = .ok false w) (q : Nat) (hop : o.op = .load t (.tmp q)) (hd : o.dst = some d) (bx j : Nat) (hq : a.eval (.tmp q) = .pointer (some ⟨bx, j, none⟩)) (v : Value) (hv : w.cell? ⟨bx, j, none⟩ = some v) (h : K (a.put (some d) v) w) : Oper.wp Tryz.prog o a w K Q := by
 have he : (execOp a.eval o).run Tryz.prog w = .ok (.value v) w := by
  unfold execOp
  simp only [hop, hq]
  go_simp
 unfold Oper.wp
 rw [he, Oper.upon_value, hd]
 exact h
end Go.Proofs.YtiadbiiiikhfaaaGreatDoor

namespace Go.Proofs.YtiadbiiiikhfaaaGreatDoor
open Go.RowKit

/-- n elements of m whole numbers each, from block B on; number p of all of them is F p. -/
def Row (w : World) (B m n : Nat) (F : Nat → Int) (v : Value) : Prop :=
 ∃ ao cp, v = .slice ao n cp ∧ (0 < n → ∃ g o, ao = some ⟨g, o, none⟩ ∧ B ≤ g ∧ g < w.heap.size ∧ ∀ p, p < n * m → w.cell? ⟨g, o + p, none⟩ = some (.int .i64 (F p)))
/-- None of the first N places of the slice is frozen. -/
def Free (w : World) (N : Nat) (v : Value) : Prop := ∀ g o n c, v = .slice (some ⟨g, o, none⟩) n c → ∀ p, p < N → w.frozen? ⟨g, o + p, none⟩ = false

theorem Row.form {w : World} {B m n : Nat} {F : Nat → Int} {v : Value} (h : Row w B m n F v) : ∃ ao cp, v = .slice ao n cp := by
 obtain ⟨ao, cp, rfl, _⟩ := h; exact ⟨ao, cp, rfl⟩
theorem Row.at {w : World} {B m n : Nat} {F : Nat → Int} {ao : Option Addr} {cp : Nat} (h : Row w B m n F (.slice ao n cp)) {k : Nat} (hk : k < n) :
  ∃ g o, ao = some ⟨g, o, none⟩ ∧ B ≤ g ∧ g < w.heap.size ∧ ∀ j, j < m → w.cell? ⟨g, o + k * m + j, none⟩ = some (.int .i64 (F (k * m + j))) := by
 obtain ⟨ao', cp', hv, h⟩ := h
 simp only [Value.slice.injEq] at hv
 obtain ⟨rfl, _, rfl⟩ := hv
 obtain ⟨g, o, ha, hB, hg, hc⟩ := h (by omega)
 refine ⟨g, o, ha, hB, hg, fun j hj => ?_⟩
 rw [Nat.add_assoc]
 refine hc _ ?_
 calc k * m + j < k * m + m := by omega
  _ = (k + 1) * m := by rw [Nat.succ_mul]
  _ ≤ n * m := Nat.mul_le_mul_right m hk
theorem Row.kept {w w' : World} {B m n : Nat} {F : Nat → Int} {v : Value} (h : Row w B m n F v) (hs : w.heap.size ≤ w'.heap.size) (hb : ∀ k, v.ownBlock = some k → k < w.heap.size → w'.heap[k]? = w.heap[k]?) : Row w' B m n F v := by
 obtain ⟨ao, cp, rfl, h⟩ := h
 refine ⟨ao, cp, rfl, fun hn => ?_⟩
 obtain ⟨g, o, rfl, hB, hg, hc⟩ := h hn
 exact ⟨g, o, rfl, hB, Nat.lt_of_lt_of_le hg hs, fun p hp => (World.cell?_of_block (w := w) (hb g rfl hg)).trans (hc p hp)⟩
theorem Row.lt {w : World} {B m n : Nat} {F : Nat → Int} {v : Value} (h : Row w B m n F v) (hn : 0 < n) : ∀ k, v.ownBlock = some k → B ≤ k ∧ k < w.heap.size := by
 intro k hk
 obtain ⟨ao, cp, rfl, h⟩ := h
 obtain ⟨g, o, rfl, hB, hg, hc⟩ := h hn
 simp [Value.ownBlock] at hk
 subst hk
 exact ⟨hB, hg⟩
theorem Row.later {w w' : World} {B m n : Nat} {F : Nat → Int} {v : Value} (h : Row w B m n F v) (hb : Below w.heap.size w w') : Row w' B m n F v :=
 h.kept hb.size (fun k _ hk => hb.block k hk)
theorem Row.alloc {w : World} {B m n : Nat} {F : Nat → Int} {v : Value} (h : Row w B m n F v) (o : Obj) : Row (w.alloc o) B m n F v := h.later ((Below.refl _ _).alloc (Nat.le_refl _) o)
theorem Row.drewN {w : World} {B m n : Nat} {F : Nat → Int} {v : Value} (h : Row w B m n F v) (k : Nat) : Row (w.drewN k) B m n F v := h
theorem Row.mono {w : World} {B B' m n : Nat} {F : Nat → Int} {v : Value} (h : Row w B m n F v) (hB : B' ≤ B) : Row w B' m n F v := by
 obtain ⟨ao, cp, rfl, h⟩ := h
 refine ⟨ao, cp, rfl, fun hn => ?_⟩
 obtain ⟨g, o, rfl, hb, hg, hc⟩ := h hn
 exact ⟨g, o, rfl, by omega, hg, hc⟩
theorem Row.setCell {w : World} {B m n : Nat} {F : Nat → Int} {v : Value} (h : Row w B m n F v) {a : Addr} (ha : v.ownBlock ≠ some a.block) (u : Value) : Row (w.setCell a u) B m n F v :=
 h.kept (by simp [World.setCell]) (fun k hk _ => Below.heap_setCell w a u k (fun e => ha (by rw [hk, e])))
theorem Row.congr {w : World} {B m n : Nat} {F G : Nat → Int} {v : Value} (h : Row w B m n F v) (e : ∀ p, p < n * m → F p = G p) : Row w B m n G v := by
 obtain ⟨ao, cp, rfl, h⟩ := h
 refine ⟨ao, cp, rfl, fun hn => ?_⟩
 obtain ⟨g, o, rfl, hb, hg, hc⟩ := h hn
 exact ⟨g, o, rfl, hb, hg, fun p hp => by rw [← e p hp]; exact hc p hp⟩
theorem Row.at3 {w : World} {B n : Nat} {F : Nat → Int} {ao : Option Addr} {cp : Nat} (h : Row w B 3 n F (.slice ao n cp)) {k : Nat} (hk : k < n) :
  ∃ g o, ao = some ⟨g, o, none⟩ ∧ B ≤ g ∧ g < w.heap.size ∧ w.cell? ⟨g, o + k * 3, none⟩ = some (.int .i64 (F (k * 3))) ∧ w.cell? ⟨g, o + k * 3 + 1, none⟩ = some (.int .i64 (F (k * 3 + 1))) ∧ w.cell? ⟨g, o + k * 3 + 2, none⟩ = some (.int .i64 (F (k * 3 + 2))) := by
 obtain ⟨g, o, ha, hB, hg, hc⟩ := h.at hk
 exact ⟨g, o, ha, hB, hg, hc 0 (by omega), hc 1 (by omega), hc 2 (by omega)⟩
theorem Row.at4 {w : World} {B n : Nat} {F : Nat → Int} {ao : Option Addr} {cp : Nat} (h : Row w B 4 n F (.slice ao n cp)) {k : Nat} (hk : k < n) :
  ∃ g o, ao = some ⟨g, o, none⟩ ∧ B ≤ g ∧ g < w.heap.size ∧ w.cell? ⟨g, o + k * 4, none⟩ = some (.int .i64 (F (k * 4))) ∧ w.cell? ⟨g, o + k * 4 + 1, none⟩ = some (.int .i64 (F (k * 4 + 1))) ∧ w.cell? ⟨g, o + k * 4 + 2, none⟩ = some (.int .i64 (F (k * 4 + 2))) ∧ w.cell? ⟨g, o + k * 4 + 3, none⟩ = some (.int .i64 (F (k * 4 + 3))) := by
 obtain ⟨g, o, ha, hB, hg, hc⟩ := h.at hk
 exact ⟨g, o, ha, hB, hg, hc 0 (by omega), hc 1 (by omega), hc 2 (by omega), hc 3 (by omega)⟩
theorem Row.at5 {w : World} {B n : Nat} {F : Nat → Int} {ao : Option Addr} {cp : Nat} (h : Row w B 5 n F (.slice ao n cp)) {k : Nat} (hk : k < n) :
  ∃ g o, ao = some ⟨g, o, none⟩ ∧ B ≤ g ∧ g < w.heap.size ∧ w.cell? ⟨g, o + k * 5, none⟩ = some (.int .i64 (F (k * 5))) ∧ w.cell? ⟨g, o + k * 5 + 1, none⟩ = some (.int .i64 (F (k * 5 + 1))) ∧ w.cell? ⟨g, o + k * 5 + 2, none⟩ = some (.int .i64 (F (k * 5 + 2))) ∧ w.cell? ⟨g, o + k * 5 + 3, none⟩ = some (.int .i64 (F (k * 5 + 3))) ∧ w.cell? ⟨g, o + k * 5 + 4, none⟩ = some (.int .i64 (F (k * 5 + 4))) := by
 obtain ⟨g, o, ha, hB, hg, hc⟩ := h.at hk
 exact ⟨g, o, ha, hB, hg, hc 0 (by omega), hc 1 (by omega), hc 2 (by omega), hc 3 (by omega), hc 4 (by omega)⟩
theorem Free.later {w w' : World} {N : Nat} {v : Value} (h : Free w N v) (hl : ∀ k, v.ownBlock = some k → k < w.heap.size) (hb : Below w.heap.size w w') : Free w' N v := by
 intro g o n c hv p hp
 rw [hb.frozen (hl g (by rw [hv]; rfl))]
 exact h g o n c hv p hp

/-- Block b holds three cells, none frozen. -/
def Blk3 (x : World) (b : Nat) (a0 a1 a2 : Value) : Prop :=
 (x.cell? ⟨b, 0, none⟩ = some a0 ∧ x.cell? ⟨b, 1, none⟩ = some a1 ∧ x.cell? ⟨b, 2, none⟩ = some a2) ∧ x.frozen? ⟨b, 0, none⟩ = false ∧ x.frozen? ⟨b, 1, none⟩ = false ∧ x.frozen? ⟨b, 2, none⟩ = false
theorem Blk3.kept {x x' : World} {b : Nat} {a0 a1 a2 : Value} (h : Blk3 x b a0 a1 a2) (hb : x'.heap[b]? = x.heap[b]?) : Blk3 x' b a0 a1 a2 := by
 obtain ⟨⟨h0, h1, h2⟩, f0, f1, f2⟩ := h
 exact ⟨⟨(World.cell?_of_block (w := x) (a := ⟨b, 0, none⟩) hb).trans h0, (World.cell?_of_block (w := x) (a := ⟨b, 1, none⟩) hb).trans h1, (World.cell?_of_block (w := x) (a := ⟨b, 2, none⟩) hb).trans h2⟩,
  (World.frozen?_of_block (w := x) (a := ⟨b, 0, none⟩) hb).trans f0, (World.frozen?_of_block (w := x) (a := ⟨b, 1, none⟩) hb).trans f1, (World.frozen?_of_block (w := x) (a := ⟨b, 2, none⟩) hb).trans f2⟩
theorem Blk3.lt {x : World} {b : Nat} {a0 a1 a2 : Value} (h : Blk3 x b a0 a1 a2) : b < x.heap.size := World.block_lt_of_cell? x _ h.1.1
theorem Blk3.later {x x' : World} {b : Nat} {a0 a1 a2 : Value} (h : Blk3 x b a0 a1 a2) (hb : Below x.heap.size x x') : Blk3 x' b a0 a1 a2 := h.kept (hb.block b h.lt)
theorem Blk3.alloc {x : World} {b : Nat} {a0 a1 a2 : Value} (h : Blk3 x b a0 a1 a2) (o : Obj) : Blk3 (x.alloc o) b a0 a1 a2 := h.later ((Below.refl _ _).alloc (Nat.le_refl _) o)
theorem Blk3.new (w : World) (a0 a1 a2 : Value) (t : TypeId) : Blk3 (w.alloc (.cells #[a0, a1, a2] t)) w.heap.size a0 a1 a2 := by
 refine ⟨⟨World.cell?_alloc_mark w _ _ _ 0, World.cell?_alloc_mark w _ _ _ 1, World.cell?_alloc_mark w _ _ _ 2⟩, ?_, ?_, ?_⟩ <;> simp
theorem Blk3.setFar {x : World} {b : Nat} {a0 a1 a2 : Value} (h : Blk3 x b a0 a1 a2) {p : Addr} (hp : b ≠ p.block) (u : Value) : Blk3 (x.setCell p u) b a0 a1 a2 := h.kept (Below.heap_setCell x p u b hp)
theorem Blk3.set0 {x : World} {b : Nat} {a0 a1 a2 : Value} (h : Blk3 x b a0 a1 a2) (u : Value) : Blk3 (x.setCell ⟨b, 0, none⟩ u) b u a1 a2 := by
 obtain ⟨⟨h0, h1, h2⟩, f0, f1, f2⟩ := h
 exact ⟨⟨World.cell?_setCell_same _ _ _ h0, (World.cell?_setCell_other _ _ _ _ (by simp)).trans h1, (World.cell?_setCell_other _ _ _ _ (by simp)).trans h2⟩, by simpa using f0, by simpa using f1, by simpa using f2⟩
theorem Blk3.set1 {x : World} {b : Nat} {a0 a1 a2 : Value} (h : Blk3 x b a0 a1 a2) (u : Value) : Blk3 (x.setCell ⟨b, 1, none⟩ u) b a0 u a2 := by
 obtain ⟨⟨h0, h1, h2⟩, f0, f1, f2⟩ := h
 exact ⟨⟨(World.cell?_setCell_other _ _ _ _ (by simp)).trans h0, World.cell?_setCell_same _ _ _ h1, (World.cell?_setCell_other _ _ _ _ (by simp)).trans h2⟩, by simpa using f0, by simpa using f1, by simpa using f2⟩
theorem Blk3.set2 {x : World} {b : Nat} {a0 a1 a2 : Value} (h : Blk3 x b a0 a1 a2) (u : Value) : Blk3 (x.setCell ⟨b, 2, none⟩ u) b a0 a1 u := by
 obtain ⟨⟨h0, h1, h2⟩, f0, f1, f2⟩ := h
 exact ⟨⟨(World.cell?_setCell_other _ _ _ _ (by simp)).trans h0, (World.cell?_setCell_other _ _ _ _ (by simp)).trans h1, World.cell?_setCell_same _ _ _ h2⟩, by simpa using f0, by simpa using f1, by simpa using f2⟩
theorem Row.far {w : World} {B m n : Nat} {F : Nat → Int} {v : Value} (h : Row w B m n F v) {a : Addr} (ha : a.block < B ∨ w.heap.size ≤ a.block) (u : Value) : Row (w.setCell a u) B m n F v := by
 obtain ⟨ao, cp, rfl, h⟩ := h
 refine ⟨ao, cp, rfl, fun hn => ?_⟩
 obtain ⟨g, o, rfl, hB, hg, hc⟩ := h hn
 refine ⟨g, o, rfl, hB, by simpa [World.setCell] using hg, fun p hp => ?_⟩
 rw [← hc p hp]
 exact World.cell?_of_block (Below.heap_setCell w a u g (by omega))
theorem Free.far {w : World} {N : Nat} {v : Value} (h : Free w N v) (a : Addr) (u : Value) : Free (w.setCell a u) N v := by
 intro g o n c hv p hp
 rw [World.frozen?_setCell]
 exact h g o n c hv p hp
theorem Free.of0 (w : World) (v : Value) : Free w 0 v := fun _ _ _ _ _ _ hp => absurd hp (Nat.not_lt_zero _)
theorem Free.ofRow {w w' : World} {B m n : Nat} {F : Nat → Int} {v : Value} (h : Free w (n * m) v) (hr : Row w B m n F v) (hb : Below w.heap.size w w') : Free w' (n * m) v := by
 rcases Nat.eq_zero_or_pos n with e | e
 ·subst e; rw [Nat.zero_mul]; exact Free.of0 _ _
 ·exact h.later (fun k hk => (hr.lt e k hk).2) hb

/-- A store as numbers: how many cells, locks and writes, and all their numbers. -/
structure Sto where
 nc : Nat
 c : Nat → Int
 nl : Nat
 l : Nat → Int
 nw : Nat
 k : Nat → Int
def St (w : World) (B : Nat) (S : Sto) (v0 v1 v2 : Value) : Prop := Row w B 3 S.nc S.c v0 ∧ Row w B 5 S.nl S.l v1 ∧ Row w B 4 S.nw S.k v2
theorem St.later {w w' : World} {B : Nat} {S : Sto} {v0 v1 v2 : Value} (h : St w B S v0 v1 v2) (hb : Below w.heap.size w w') : St w' B S v0 v1 v2 := ⟨h.1.later hb, h.2.1.later hb, h.2.2.later hb⟩
theorem St.alloc {w : World} {B : Nat} {S : Sto} {v0 v1 v2 : Value} (h : St w B S v0 v1 v2) (o : Obj) : St (w.alloc o) B S v0 v1 v2 := ⟨h.1.alloc o, h.2.1.alloc o, h.2.2.alloc o⟩
theorem St.mono {w : World} {B B' : Nat} {S : Sto} {v0 v1 v2 : Value} (h : St w B S v0 v1 v2) (hB : B' ≤ B) : St w B' S v0 v1 v2 := ⟨h.1.mono hB, h.2.1.mono hB, h.2.2.mono hB⟩
theorem St.form {w : World} {B : Nat} {S : Sto} {v0 v1 v2 : Value} (h : St w B S v0 v1 v2) : ∃ a0 c0 a1 c1 a2 c2, v0 = .slice a0 S.nc c0 ∧ v1 = .slice a1 S.nl c1 ∧ v2 = .slice a2 S.nw c2 := by
 obtain ⟨a0, c0, h0⟩ := h.1.form
 obtain ⟨a1, c1, h1⟩ := h.2.1.form
 obtain ⟨a2, c2, h2⟩ := h.2.2.form
 exact ⟨a0, c0, a1, c1, a2, c2, h0, h1, h2⟩
theorem below_alloc (w : World) (o : Obj) : Below w.heap.size w (w.alloc o) := (Below.refl _ _).alloc (Nat.le_refl _) o
theorem St.far {w : World} {B : Nat} {S : Sto} {v0 v1 v2 : Value} (h : St w B S v0 v1 v2) {a : Addr} (ha : a.block < B) (u : Value) : St (w.setCell a u) B S v0 v1 v2 := ⟨h.1.far (Or.inl ha) u, h.2.1.far (Or.inl ha) u, h.2.2.far (Or.inl ha) u⟩
def FreeS (w : World) (S : Sto) (v0 v1 v2 : Value) : Prop := Free w (S.nc * 3) v0 ∧ Free w (S.nl * 5) v1 ∧ Free w (S.nw * 4) v2
theorem FreeS.far {w : World} {S : Sto} {v0 v1 v2 : Value} (h : FreeS w S v0 v1 v2) (a : Addr) (u : Value) : FreeS (w.setCell a u) S v0 v1 v2 := ⟨h.1.far a u, h.2.1.far a u, h.2.2.far a u⟩
theorem FreeS.later {w w' : World} {B : Nat} {S : Sto} {v0 v1 v2 : Value} (h : FreeS w S v0 v1 v2) (hs : St w B S v0 v1 v2) (hb : Below w.heap.size w w') : FreeS w' S v0 v1 v2 := ⟨h.1.ofRow hs.1 hb, h.2.1.ofRow hs.2.1 hb, h.2.2.ofRow hs.2.2 hb⟩
end Go.Proofs.YtiadbiiiikhfaaaGreatDoor

namespace Go.Proofs.YtiadbiiiikhfaaaGreatDoor
open Go.RowKit

/-- The box of the law's store, and that nothing old has turned; and one box more. -/
def One (w : World) (v0 v1 v2 : Value) (x : World) : Prop := Below w.heap.size w x ∧ Blk3 x w.heap.size v0 v1 v2
theorem One.later {w x x' : World} {v0 v1 v2 : Value} (h : One w v0 v1 v2 x) (hb : Below x.heap.size x x') : One w v0 v1 v2 x' := ⟨h.1.trans (hb.mono h.1.size), h.2.later hb⟩
def Two (w : World) (v0 v1 v2 : Value) (g : Nat) (x0 x1 x2 : Value) (x : World) : Prop := One w v0 v1 v2 x ∧ Blk3 x g x0 x1 x2
theorem Two.later {w x x' : World} {v0 v1 v2 : Value} {g : Nat} {x0 x1 x2 : Value} (h : Two w v0 v1 v2 g x0 x1 x2 x) (hb : Below x.heap.size x x') : Two w v0 v1 v2 g x0 x1 x2 x' := ⟨h.1.later hb, h.2.later hb⟩
end Go.Proofs.YtiadbiiiikhfaaaGreatDoor

namespace Go.Proofs.YtiadbiiiikhfaaaGreatDoor
open Go.RowKit

theorem make_row {P : Program} {t e : TypeId} {z : Value} {size bytes : Nat} (ht : P.underlying t = some (.slice e)) (hinfo : (P.info? e).map (fun i => (i.zero, i.size, i.bytes)) = some (some z, size, bytes)) (n : Nat) (hn : bytes * n ≤ 281474976710656) (hm : n ≤ 9223372036854775807) (w : World) :
  (Instr.makeSlice t (.int .i64 (n : Int)) (.int .i64 (n : Int))).run P w = .ok (.slice (some ⟨w.heap.size, 0, none⟩) n n) (w.alloc (.cells (madeCells z.cells (n * size)) e)) := by
 obtain ⟨i, hi, hz, hs, hb⟩ := info_parts hinfo
 have hb' : (i.bytes : Int) * (n : Int) ≤ 281474976710656 := by
  have h : ((i.bytes * n : Nat) : Int) ≤ 281474976710656 := by rw [hb]; omega
  rwa [Int.natCast_mul] at h
 have hr := run_make (P := P) w t e i z ht hi hz .i64 .i64 n n (by omega) (Int.le_refl _) hb' (by omega)
 simp only [Int.toNat_natCast, hs] at hr
 exact hr

theorem info_Cell : (Tryz.prog.info? 93).map (fun i => (i.zero, i.size, i.bytes)) = some (some (.agg #[.int .i64 0, .int .i64 0, .int .i64 0]), 3, 24) := by kernel_rfl
theorem info_Lock : (Tryz.prog.info? 40).map (fun i => (i.zero, i.size, i.bytes)) = some (some (.agg #[.int .i64 0, .int .i64 0, .int .i64 0, .int .i64 0, .int .i64 0]), 5, 40) := by kernel_rfl
theorem info_Write : (Tryz.prog.info? 55).map (fun i => (i.zero, i.size, i.bytes)) = some (some (.agg #[.int .i64 0, .int .i64 0, .int .i64 0, .int .i64 0]), 4, 32) := by kernel_rfl
end Go.Proofs.YtiadbiiiikhfaaaGreatDoor

namespace Go.Proofs.YtiadbiiiikhfaaaGreatDoor
open Go.RowKit

/-- x' is x but for blocks from B on below E, and new ones. -/
structure Within (B E : Nat) (x x' : World) : Prop where
 os : x'.os = x.os
 tape : x'.tape = x.tape
 output : x'.output = x.output
 size : x.heap.size ≤ x'.heap.size
 block : ∀ k, k < x.heap.size → k < B ∨ E ≤ k → x'.heap[k]? = x.heap[k]?
theorem Within.refl (B E : Nat) (x : World) : Within B E x x := ⟨rfl, rfl, rfl, Nat.le_refl _, fun _ _ _ => rfl⟩
theorem Within.trans {B E : Nat} {a b c : World} (h : Within B E a b) (k : Within B E b c) : Within B E a c :=
 ⟨k.os.trans h.os, k.tape.trans h.tape, k.output.trans h.output, Nat.le_trans h.size k.size, fun i hi hr => (k.block i (Nat.lt_of_lt_of_le hi h.size) hr).trans (h.block i hi hr)⟩
theorem Within.grow {B E : Nat} {x x' : World} (h : Below x.heap.size x x') : Within B E x x' := ⟨h.os, h.tape, h.output, h.size, fun k hk _ => h.block k hk⟩
theorem Within.below {B E : Nat} {w x x' : World} (h : Within B E x x') (hw : Below w.heap.size w x) (hB : w.heap.size ≤ B) : Below w.heap.size w x' :=
 ⟨h.os.trans hw.os, h.tape.trans hw.tape, h.output.trans hw.output, Nat.le_trans hw.size h.size, fun k hk => (h.block k (Nat.lt_of_lt_of_le hk hw.size) (Or.inl (by omega))).trans (hw.block k hk)⟩
theorem Within.mono {B E B' E' : Nat} {x x' : World} (h : Within B E x x') (hB : B' ≤ B) (hE : E ≤ E') : Within B' E' x x' := ⟨h.os, h.tape, h.output, h.size, fun k hk ho => h.block k hk (by omega)⟩
theorem Row.within {x x' : World} {C m n B E : Nat} {F : Nat → Int} {v : Value} (h : Row x C m n F v) (hw : Within B E x x') (ho : 0 < n → ∀ k, v.ownBlock = some k → k < B ∨ E ≤ k) : Row x' C m n F v := by
 rcases Nat.eq_zero_or_pos n with e | e
 ·subst e
  obtain ⟨ao, cp, rfl, _⟩ := h
  exact ⟨ao, cp, rfl, fun q => absurd q (Nat.lt_irrefl 0)⟩
 ·exact h.kept hw.size (fun k hk hlt => hw.block k hlt (ho e k hk))
theorem Free.within {x x' : World} {C m n B E : Nat} {F : Nat → Int} {v : Value} (h : Free x (n * m) v) (hr : Row x C m n F v) (hw : Within B E x x') (ho : 0 < n → ∀ k, v.ownBlock = some k → k < B ∨ E ≤ k) : Free x' (n * m) v := by
 rcases Nat.eq_zero_or_pos n with e | e
 ·subst e; rw [Nat.zero_mul]; exact Free.of0 _ _
 ·intro g o n' c hv p hp
  rw [World.frozen?_of_block (w := x) (a := ⟨g, o + p, none⟩) (hw.block g (hr.lt e g (by rw [hv]; rfl)).2 (ho e g (by rw [hv]; rfl)))]
  exact h g o n' c hv p hp
theorem Blk3.within {x x' : World} {b B E : Nat} {a0 a1 a2 : Value} (h : Blk3 x b a0 a1 a2) (hw : Within B E x x') (ho : b < B ∨ E ≤ b) : Blk3 x' b a0 a1 a2 := h.kept (hw.block b h.lt ho)
/-- The block that is turned by numbering: none, if there is nothing. -/
def turn (n : Nat) (v : Value) : Option Nat := if n = 0 then none else v.ownBlock
theorem turn_off {n : Nat} {v : Value} {P : Nat → Prop} (h : 0 < n → ∀ k, v.ownBlock = some k → P k) : ∀ b, turn n v = some b → P b := by
 intro b hb
 unfold turn at hb
 split at hb
 ·cases hb
 ·exact h (by omega) b hb
theorem Row.turned {x x' : World} {C m n : Nat} {F : Nat → Int} {v : Value} {row : Option Nat} (h : Row x C m n F v) (hg : x.grownBy x' row) (ho : 0 < n → ∀ k, v.ownBlock = some k → some k ≠ row) : Row x' C m n F v := by
 rcases Nat.eq_zero_or_pos n with e | e
 ·subst e
  obtain ⟨ao, cp, rfl, _⟩ := h
  exact ⟨ao, cp, rfl, fun q => absurd q (Nat.lt_irrefl 0)⟩
 ·exact h.kept hg.size (fun k hk hlt => hg.block k hlt (ho e k hk))
theorem Free.turned {x x' : World} {C m n : Nat} {F : Nat → Int} {v : Value} {row : Option Nat} (h : Free x (n * m) v) (hr : Row x C m n F v) (hg : x.grownBy x' row) (ho : 0 < n → ∀ k, v.ownBlock = some k → some k ≠ row) : Free x' (n * m) v := by
 rcases Nat.eq_zero_or_pos n with e | e
 ·subst e; rw [Nat.zero_mul]; exact Free.of0 _ _
 ·intro g o n' c hv p hp
  rw [World.frozen?_of_block (w := x) (a := ⟨g, o + p, none⟩) (hg.block g (hr.lt e g (by rw [hv]; rfl)).2 (ho e g (by rw [hv]; rfl)))]
  exact h g o n' c hv p hp
end Go.Proofs.YtiadbiiiikhfaaaGreatDoor

namespace Go.Proofs.YtiadbiiiikhfaaaGreatDoor
open Go.RowKit

/-- Block b holds two cells, none frozen. -/
def Blk2 (x : World) (b : Nat) (a0 a1 : Value) : Prop :=
 (x.cell? ⟨b, 0, none⟩ = some a0 ∧ x.cell? ⟨b, 1, none⟩ = some a1) ∧ x.frozen? ⟨b, 0, none⟩ = false ∧ x.frozen? ⟨b, 1, none⟩ = false
theorem Blk2.kept {x x' : World} {b : Nat} {a0 a1 : Value} (h : Blk2 x b a0 a1) (hb : x'.heap[b]? = x.heap[b]?) : Blk2 x' b a0 a1 := by
 obtain ⟨⟨h0, h1⟩, f0, f1⟩ := h
 exact ⟨⟨(World.cell?_of_block (w := x) (a := ⟨b, 0, none⟩) hb).trans h0, (World.cell?_of_block (w := x) (a := ⟨b, 1, none⟩) hb).trans h1⟩,
  (World.frozen?_of_block (w := x) (a := ⟨b, 0, none⟩) hb).trans f0, (World.frozen?_of_block (w := x) (a := ⟨b, 1, none⟩) hb).trans f1⟩
theorem Blk2.lt {x : World} {b : Nat} {a0 a1 : Value} (h : Blk2 x b a0 a1) : b < x.heap.size := World.block_lt_of_cell? x _ h.1.1
theorem Blk2.later {x x' : World} {b : Nat} {a0 a1 : Value} (h : Blk2 x b a0 a1) (hb : Below x.heap.size x x') : Blk2 x' b a0 a1 := h.kept (hb.block b h.lt)
theorem Blk2.alloc {x : World} {b : Nat} {a0 a1 : Value} (h : Blk2 x b a0 a1) (o : Obj) : Blk2 (x.alloc o) b a0 a1 := h.later ((Below.refl _ _).alloc (Nat.le_refl _) o)
theorem Blk2.new (w : World) (a0 a1 : Value) (t : TypeId) : Blk2 (w.alloc (.cells #[a0, a1] t)) w.heap.size a0 a1 := by
 refine ⟨⟨World.cell?_alloc_mark w _ _ _ 0, World.cell?_alloc_mark w _ _ _ 1⟩, ?_, ?_⟩ <;> simp
theorem Blk2.put {x : World} {b : Nat} {a0 a1 : Value} (h : Blk2 x b a0 a1) (c v : Value) : Blk2 ((x.setCell ⟨b, 0, none⟩ c).setCell ⟨b, 1, none⟩ v) b c v := by
 obtain ⟨⟨h0, h1⟩, f0, f1⟩ := h
 refine ⟨⟨(World.cell?_setCell_other _ _ _ _ (by simp)).trans (World.cell?_setCell_same _ _ _ h0), World.cell?_setCell_same _ _ _ ((World.cell?_setCell_other _ _ _ _ (by simp)).trans h1)⟩, by simpa using f0, by simpa using f1⟩
/-- A block of four cells, none frozen. -/
def Blk4 (x : World) (b : Nat) (a0 a1 a2 a3 : Value) : Prop := (x.cell? ⟨b, 0, none⟩ = some a0 ∧ x.cell? ⟨b, 1, none⟩ = some a1 ∧ x.cell? ⟨b, 2, none⟩ = some a2 ∧ x.cell? ⟨b, 3, none⟩ = some a3) ∧ x.frozen? ⟨b, 0, none⟩ = false ∧ x.frozen? ⟨b, 1, none⟩ = false ∧ x.frozen? ⟨b, 2, none⟩ = false ∧ x.frozen? ⟨b, 3, none⟩ = false
theorem Blk4.lt {x : World} {b : Nat} {a0 a1 a2 a3 : Value} (h : Blk4 x b a0 a1 a2 a3) : b < x.heap.size := World.block_lt_of_cell? x _ h.1.1
theorem Blk4.later {x x' : World} {b : Nat} {a0 a1 a2 a3 : Value} (h : Blk4 x b a0 a1 a2 a3) (hb : Below x.heap.size x x') : Blk4 x' b a0 a1 a2 a3 := by
 have hl := h.lt
 obtain ⟨⟨h0, h1, h2, h3⟩, f0, f1, f2, f3⟩ := h
 exact ⟨⟨(hb.cell (p := ⟨b, 0, none⟩) hl).trans h0, (hb.cell (p := ⟨b, 1, none⟩) hl).trans h1, (hb.cell (p := ⟨b, 2, none⟩) hl).trans h2, (hb.cell (p := ⟨b, 3, none⟩) hl).trans h3⟩,
  (hb.frozen (p := ⟨b, 0, none⟩) hl).trans f0, (hb.frozen (p := ⟨b, 1, none⟩) hl).trans f1, (hb.frozen (p := ⟨b, 2, none⟩) hl).trans f2, (hb.frozen (p := ⟨b, 3, none⟩) hl).trans f3⟩
theorem Blk4.alloc {x : World} {b : Nat} {a0 a1 a2 a3 : Value} (h : Blk4 x b a0 a1 a2 a3) (o : Obj) : Blk4 (x.alloc o) b a0 a1 a2 a3 := h.later (below_alloc _ _)
theorem Blk4.new (w : World) (a0 a1 a2 a3 : Value) (t : TypeId) : Blk4 (w.alloc (.cells #[a0, a1, a2, a3] t)) w.heap.size a0 a1 a2 a3 := by
 refine ⟨⟨World.cell?_alloc_mark w _ _ _ 0, World.cell?_alloc_mark w _ _ _ 1, World.cell?_alloc_mark w _ _ _ 2, World.cell?_alloc_mark w _ _ _ 3⟩, ?_, ?_, ?_, ?_⟩ <;> simp
theorem Blk4.put {x : World} {b : Nat} {a0 a1 a2 a3 : Value} (h : Blk4 x b a0 a1 a2 a3) (c0 c1 c2 c3 : Value) : Blk4 ((((x.setCell ⟨b, 0, none⟩ c0).setCell ⟨b, 1, none⟩ c1).setCell ⟨b, 2, none⟩ c2).setCell ⟨b, 3, none⟩ c3) b c0 c1 c2 c3 := by
 obtain ⟨⟨h0, h1, h2, h3⟩, f0, f1, f2, f3⟩ := h
 have o : ∀ {y : World} {i j : Nat} {u v : Value}, i ≠ j → y.cell? ⟨b, i, none⟩ = some u → (y.setCell ⟨b, j, none⟩ v).cell? ⟨b, i, none⟩ = some u := fun hn hu => (World.cell?_setCell_other _ _ _ _ (fun e => hn (congrArg Addr.off e).symm)).trans hu
 refine ⟨⟨?_, ?_, ?_, ?_⟩, by simpa using f0, by simpa using f1, by simpa using f2, by simpa using f3⟩
 ·exact o (by decide) (o (by decide) (o (by decide) (World.cell?_setCell_same _ _ _ h0)))
 ·exact o (by decide) (o (by decide) (World.cell?_setCell_same _ _ _ (o (by decide) h1)))
 ·exact o (by decide) (World.cell?_setCell_same _ _ _ (o (by decide) (o (by decide) h2)))
 ·exact World.cell?_setCell_same _ _ _ (o (by decide) (o (by decide) (o (by decide) h3)))
/-- A code, and a new row of n structs of m numbers each. -/
def ResRow (m : Nat) (w : World) (c : Int) (n : Nat) (F : Nat → Int) (e : Ending) (w' : World) : Prop := ∃ ao cp, e = .returned (.agg #[.int .i64 c, .slice ao n cp]) ∧ Row w' w.heap.size m n F (.slice ao n cp) ∧ Free w' (n * m) (.slice ao n cp) ∧ Below w.heap.size w w'
end Go.Proofs.YtiadbiiiikhfaaaGreatDoor

namespace Go.Proofs.YtiadbiiiikhfaaaGreatDoor
open Go.RowKit

/-- The three rows of a store lie in three blocks. -/
def ApartD (S : Sto) (u0 u1 u2 : Value) : Prop := (0 < S.nc → 0 < S.nl → u0.ownBlock ≠ u1.ownBlock) ∧ (0 < S.nc → 0 < S.nw → u0.ownBlock ≠ u2.ownBlock) ∧ (0 < S.nl → 0 < S.nw → u1.ownBlock ≠ u2.ownBlock)
end Go.Proofs.YtiadbiiiikhfaaaGreatDoor

namespace Go.Proofs.YtiadbiiiikhfaaaGreatDoor
open Go.RowKit

/-- A code, and a new store, its rows in three blocks. -/
def ResSto (w : World) (c : Int) (R : Sto) (e : Ending) (w' : World) : Prop := ∃ a0 c0 a1 c1 a2 c2, e = .returned (.agg #[.int .i64 c, .slice a0 R.nc c0, .slice a1 R.nl c1, .slice a2 R.nw c2]) ∧ (St w' w.heap.size R (.slice a0 R.nc c0) (.slice a1 R.nl c1) (.slice a2 R.nw c2) ∧ FreeS w' R (.slice a0 R.nc c0) (.slice a1 R.nl c1) (.slice a2 R.nw c2) ∧ ApartD R (.slice a0 R.nc c0) (.slice a1 R.nl c1) (.slice a2 R.nw c2)) ∧ Below w.heap.size w w'
theorem Blk4.kept {x x' : World} {b : Nat} {a0 a1 a2 a3 : Value} (h : Blk4 x b a0 a1 a2 a3) (hb : x'.heap[b]? = x.heap[b]?) : Blk4 x' b a0 a1 a2 a3 := by
 obtain ⟨⟨h0, h1, h2, h3⟩, f0, f1, f2, f3⟩ := h
 exact ⟨⟨(World.cell?_of_block (w := x) (a := ⟨b, 0, none⟩) hb).trans h0, (World.cell?_of_block (w := x) (a := ⟨b, 1, none⟩) hb).trans h1, (World.cell?_of_block (w := x) (a := ⟨b, 2, none⟩) hb).trans h2, (World.cell?_of_block (w := x) (a := ⟨b, 3, none⟩) hb).trans h3⟩,
  (World.frozen?_of_block (w := x) (a := ⟨b, 0, none⟩) hb).trans f0, (World.frozen?_of_block (w := x) (a := ⟨b, 1, none⟩) hb).trans f1, (World.frozen?_of_block (w := x) (a := ⟨b, 2, none⟩) hb).trans f2, (World.frozen?_of_block (w := x) (a := ⟨b, 3, none⟩) hb).trans f3⟩
theorem Blk4.within {x x' : World} {b B E : Nat} {a0 a1 a2 a3 : Value} (h : Blk4 x b a0 a1 a2 a3) (hw : Within B E x x') (ho : b < B ∨ E ≤ b) : Blk4 x' b a0 a1 a2 a3 := h.kept (hw.block b h.lt ho)
/-- The blocks of a store's rows that are not empty keep to P. -/
def OwnIn (S : Sto) (u0 u1 u2 : Value) (P : Nat → Prop) : Prop := (0 < S.nc → ∀ k, u0.ownBlock = some k → P k) ∧ (0 < S.nl → ∀ k, u1.ownBlock = some k → P k) ∧ (0 < S.nw → ∀ k, u2.ownBlock = some k → P k)
theorem St.ownIn {w : World} {B : Nat} {S : Sto} {u0 u1 u2 : Value} (h : St w B S u0 u1 u2) : OwnIn S u0 u1 u2 (fun k => B ≤ k ∧ k < w.heap.size) := ⟨fun hn k q => h.1.lt hn k q, fun hn k q => h.2.1.lt hn k q, fun hn k q => h.2.2.lt hn k q⟩
theorem OwnIn.mono {S : Sto} {u0 u1 u2 : Value} {P Q : Nat → Prop} (h : OwnIn S u0 u1 u2 P) (hpq : ∀ k, P k → Q k) : OwnIn S u0 u1 u2 Q := ⟨fun hn k q => hpq k (h.1 hn k q), fun hn k q => hpq k (h.2.1 hn k q), fun hn k q => hpq k (h.2.2 hn k q)⟩
theorem St.within {x x' : World} {C B E : Nat} {S : Sto} {u0 u1 u2 : Value} (h : St x C S u0 u1 u2) (hw : Within B E x x') (ho : OwnIn S u0 u1 u2 (fun k => k < B ∨ E ≤ k)) : St x' C S u0 u1 u2 := ⟨h.1.within hw ho.1, h.2.1.within hw ho.2.1, h.2.2.within hw ho.2.2⟩
theorem FreeS.within {x x' : World} {C B E : Nat} {S : Sto} {u0 u1 u2 : Value} (hf : FreeS x S u0 u1 u2) (h : St x C S u0 u1 u2) (hw : Within B E x x') (ho : OwnIn S u0 u1 u2 (fun k => k < B ∨ E ≤ k)) : FreeS x' S u0 u1 u2 := ⟨hf.1.within h.1 hw ho.1, hf.2.1.within h.2.1 hw ho.2.1, hf.2.2.within h.2.2 hw ho.2.2⟩
end Go.Proofs.YtiadbiiiikhfaaaGreatDoor

namespace Go.Proofs.YtiadbiiiikhfaaaGreatDoor
section
open Go.RowKit Go.Extern.Stop Go.Stop Go.Extern
theorem as_nil (t : Value) (w : World) :
  Calls Tryz.prog 97 #[.nilIface, t] w fun e w' => e = .returned (.bool false) ∧ w' = w := by
 go_enter Tryz.func97, Tryz.ntmps97
 go_wp2
 go_ret
 exact ⟨rfl, rfl⟩
theorem valueOfP (t : Addr) (w : World) : (ReflectliteValue.unpack (.iface 142 (.pointer (some t)))).run Tryz.prog w
  = .ok (.agg #[.pointer (some ⟨1, 142, none⟩), .pointer (some ⟨w.heap.size, 0, none⟩), .int .u64 150]) (w.alloc (.cells #[.pointer (some t)] 142)) := by kernel_rfl
theorem typeP (a : Addr) (w : World) : (ReflectliteValue.methodAny (ReflectliteValue.valueError "reflectlite.Value.Type" 0) (fun t _ _ _ => ReflectliteType.toType t) #[.agg #[.pointer (some ⟨1, 142, none⟩), .pointer (some a), .int .u64 150]]).run Tryz.prog w
  = .ok (.iface 175 (.agg #[.pointer (some ⟨1, 142, none⟩)])) w := by kernel_rfl
theorem kindP (w : World) : ((ReflectliteType.abiMethod fun t => (fun a : Nat => Value.int IntKind.u8 (a : Int)) <$> Rtype.kind t) #[.pointer (some ⟨1, 142, none⟩)]).run Tryz.prog w = .ok (.int .u8 22) w := by kernel_rfl
theorem kindE (w : World) : ((ReflectliteType.abiMethod fun t => (fun a : Nat => Value.int IntKind.u8 (a : Int)) <$> Rtype.kind t) #[.pointer (some ⟨1, 123, none⟩)]).run Tryz.prog w = .ok (.int .u8 25) w := by kernel_rfl
theorem rlm (z : Sem Value) (f : TypeId → Addr → Nat → Nat → Sem Value) (v : Value) :
  ReflectliteValue.method z f #[v] = (do match ← ReflectliteValue.parts v with | none => z | some (t, a, fl) => f t a fl (fl % 32)) := rfl
theorem partsP (a : Addr) (w : World) : (ReflectliteValue.parts (.agg #[.pointer (some ⟨1, 142, none⟩), .pointer (some a), .int .u64 150])).run Tryz.prog w = .ok (some (142, a, 150)) w := by kernel_rfl
theorem isNilP (a p : Addr) (W : World) (ha : W.cell? a = some (.pointer (some p))) :
  (ReflectliteValue.method (ReflectliteValue.valueError "reflectlite.Value.IsNil" 0) ReflectliteValue.isNil #[.agg #[.pointer (some ⟨1, 142, none⟩), .pointer (some a), .int .u64 150]]).run Tryz.prog W = .ok (.bool false) W := by
 rw [rlm]
 simp only [Sem.run_bind, partsP, Result.andThen]
 simp [ReflectliteValue.isNil, loadVar, isAgg, underlying, Tryz.underlying142, ha, Result.andThen]
theorem elemT (w : World) : (ReflectliteType.method ReflectliteType.elem #[.agg #[.pointer (some ⟨1, 142, none⟩)]]).run Tryz.prog w = .ok (.iface 175 (.agg #[.pointer (some ⟨1, 123, none⟩)])) w := by kernel_rfl
theorem implE (w : World) : (ReflectliteType.relation "Implements" ReflectliteType.implements_ #[.agg #[.pointer (some ⟨1, 123, none⟩)], .iface 175 (.agg #[.pointer (some ⟨1, 70, none⟩)])]).run Tryz.prog w = .ok (.bool true) w := by kernel_rfl
theorem typeOfE (v : Value) (w : World) : (ReflectliteType.typeOf #[.iface 123 v]).run Tryz.prog w = .ok (.iface 175 (.agg #[.pointer (some ⟨1, 123, none⟩)])) w := by kernel_rfl
theorem assignE (w : World) : (ReflectliteType.relation "AssignableTo" ReflectliteType.assignableTo #[.agg #[.pointer (some ⟨1, 123, none⟩)], .iface 175 (.agg #[.pointer (some ⟨1, 123, none⟩)])]).run Tryz.prog w = .ok (.bool true) w := by kernel_rfl
theorem valueOfE (k : Int) (w : World) : (ReflectliteValue.unpack (.iface 123 (.agg #[.int .i64 k]))).run Tryz.prog w
  = .ok (.agg #[.pointer (some ⟨1, 123, none⟩), .pointer (some ⟨w.heap.size, 0, none⟩), .int .u64 153]) (w.alloc (.cells #[.int .i64 k] 123)) := by kernel_rfl
theorem elemOfP (w : World) : (Rtype.elem? 142).run Tryz.prog w = .ok (some 123) w := by kernel_rfl
theorem mkE (p : Addr) (w : World) : (ReflectliteValue.mk 123 p ReflectliteValue.flagAddr).run Tryz.prog w = .ok (.agg #[.pointer (some ⟨1, 123, none⟩), .pointer (some p), .int .u64 409]) w := by kernel_rfl
theorem elemV (a p : Addr) (W : World) (ha : W.cell? a = some (.pointer (some p))) :
  (ReflectliteValue.method (ReflectliteValue.valueError "reflectlite.Value.Elem" 0) ReflectliteValue.elem #[.agg #[.pointer (some ⟨1, 142, none⟩), .pointer (some a), .int .u64 150]]).run Tryz.prog W
   = .ok (.agg #[.pointer (some ⟨1, 123, none⟩), .pointer (some p), .int .u64 409]) W := by
 rw [rlm]
 simp only [Sem.run_bind, partsP, Result.andThen]
 simp [ReflectliteValue.elem, loadVar, isAgg, underlying, Tryz.underlying142, ha, Result.andThen, elemOfP, mkE]
theorem rls (v x : Value) : ReflectliteValue.set #[v, x] = (do
  let (some (dst, a, fl), some (src, b, _)) := (← ReflectliteValue.parts v, ← ReflectliteValue.parts x)
   | unsupported (.noEntry "extern/(internal/reflectlite.Value).Set.zeroValue")
  if fl / ReflectliteValue.flagAddr % 2 == 0 then unsupported (.noEntry "extern/(internal/reflectlite.Value).Set.unaddressable")
  let val ← loadVar src b
  if ← Rtype.directlyAssignable dst src then storeVar dst a val
  else if ← Rtype.implements dst src then
   if (← Rtype.kind src) == 20 then
    match val with
    | .nilIface => unsupported (.noEntry "extern/reflectlite: a nil value of one interface type handed on as a value of another")
    | _ => storeVar dst a val
   else storeVar dst a (.iface src val)
  else panicString ("reflectlite.Set: value of type " ++ (← Rtype.spelt src) ++ " is not assignable to type " ++ (← Rtype.spelt dst))
  pure (.tuple #[])) := rfl
theorem partsEa (a : Addr) (w : World) : (ReflectliteValue.parts (.agg #[.pointer (some ⟨1, 123, none⟩), .pointer (some a), .int .u64 409])).run Tryz.prog w = .ok (some (123, a, 409)) w := by kernel_rfl
theorem partsE (a : Addr) (w : World) : (ReflectliteValue.parts (.agg #[.pointer (some ⟨1, 123, none⟩), .pointer (some a), .int .u64 153])).run Tryz.prog w = .ok (some (123, a, 153)) w := by kernel_rfl
theorem directE (w : World) : (Rtype.directlyAssignable 123 123).run Tryz.prog w = .ok true w := by kernel_rfl
theorem loadE (b : Addr) (k : Int) (W : World) (hb : W.cell? b = some (.int .i64 k)) : (loadVar 123 b).run Tryz.prog W = .ok (.agg #[.int .i64 k]) W := by
 simp [loadVar, isAgg, underlying, Tryz.underlying123, loadCells, loadCellsFrom, Addr.add, hb, Result.andThen]
theorem storeE (ta : Addr) (k : Int) (old : Value) (W : World) (ht : W.cell? ta = some old) (hf : W.frozen? ta = false) : (storeVar 123 ta (.agg #[.int .i64 k])).run Tryz.prog W = .ok () (W.setCell ta (.int .i64 k)) := by
 simp [storeVar, Value.cells, storeCells, Addr.add, Result.andThen]
 rw [run_store Tryz.prog W ta _ _ (by rfl)]
 simp [ht, hf]
theorem setE (ta b : Addr) (k : Int) (old : Value) (W : World) (hb : W.cell? b = some (.int .i64 k)) (ht : W.cell? ta = some old) (hf : W.frozen? ta = false) :
  (ReflectliteValue.set #[.agg #[.pointer (some ⟨1, 123, none⟩), .pointer (some ta), .int .u64 409], .agg #[.pointer (some ⟨1, 123, none⟩), .pointer (some b), .int .u64 153]]).run Tryz.prog W
   = .ok (.tuple #[]) (W.setCell ta (.int .i64 k)) := by
 rw [rls]
 simp only [Sem.run_bind, partsEa, partsE, Result.andThen]
 simp [ReflectliteValue.flagAddr, loadE b k W hb, directE, storeE ta k old W ht hf, Result.andThen]
theorem methodKind (h : Value) (w : World) : (Go.method 339 175 (.agg #[h]) "Kind").run Tryz.prog w = .ok (166, h) w := by kernel_rfl
theorem methodElem (h : Value) (w : World) : (Go.method 339 175 (.agg #[h]) "Elem").run Tryz.prog w = .ok (177, .agg #[h]) w := by kernel_rfl
theorem methodImplements (h : Value) (w : World) : (Go.method 339 175 (.agg #[h]) "Implements").run Tryz.prog w = .ok (178, .agg #[h]) w := by kernel_rfl
theorem methodAssignableTo (h : Value) (w : World) : (Go.method 339 175 (.agg #[h]) "AssignableTo").run Tryz.prog w = .ok (175, .agg #[h]) w := by kernel_rfl
set_option maxRecDepth 100000 in
set_option maxHeartbeats 4000000 in
theorem as_hit (k : Int) (t : Addr) (old : Value) (w : World) (hg : w.cell? ⟨0, 0, none⟩ = some (.iface 175 (.agg #[.pointer (some ⟨1, 70, none⟩)]))) (ht0 : w.cell? t = some old) (hf0 : w.frozen? t = false) :
  Calls Tryz.prog 97 #[.iface 123 (.agg #[.int .i64 k]), .iface 142 (.pointer (some t))] w fun ev w' => ev = .returned (.bool true) ∧ w' = ((((w.alloc (.cells #[.pointer (some t)] 142)).alloc (.cells #[.pointer (some ⟨1, 142, none⟩), .pointer (some ⟨w.heap.size, 0, none⟩), .int .u64 150] 159)).alloc (.cells #[.pointer (some ⟨1, 142, none⟩), .pointer (some ⟨w.heap.size, 0, none⟩), .int .u64 150] 159)).alloc (.cells #[.int .i64 k] 123)).setCell t (.int .i64 k) := by
 have h6 := @run_callFunc_extern Tryz.prog 119 _ (fun args => ReflectliteValue.unpack (args.getD 0 (.tuple #[]))) Tryz.func119 (by kernel_rfl) (by kernel_rfl) (by kernel_rfl) (by kernel_rfl)
 have h7 := @run_callFunc_extern Tryz.prog 120 _ (ReflectliteValue.methodAny (ReflectliteValue.valueError "reflectlite.Value.Type" 0) (fun t _ _ _ => ReflectliteType.toType t)) Tryz.func120 (by kernel_rfl) (by kernel_rfl) (by kernel_rfl) (by kernel_rfl)
 have h8 := @run_callFunc_extern Tryz.prog 121 _ (ReflectliteValue.method (ReflectliteValue.valueError "reflectlite.Value.IsNil" 0) ReflectliteValue.isNil) Tryz.func121 (by kernel_rfl) (by kernel_rfl) (by kernel_rfl) (by kernel_rfl)
 have h27 := @run_callFunc_extern Tryz.prog 166 _ (ReflectliteType.abiMethod fun t => do pure (.int .u8 (← Rtype.kind t))) Tryz.func166 (by kernel_rfl) (by kernel_rfl) (by kernel_rfl) (by kernel_rfl)
 have h37 := @run_callFunc_extern Tryz.prog 177 _ (ReflectliteType.method ReflectliteType.elem) Tryz.func177 (by kernel_rfl) (by kernel_rfl) (by kernel_rfl) (by kernel_rfl)
 have h38 := @run_callFunc_extern Tryz.prog 178 _ (ReflectliteType.relation "Implements" ReflectliteType.implements_) Tryz.func178 (by kernel_rfl) (by kernel_rfl) (by kernel_rfl) (by kernel_rfl)
 have h10 := @run_callFunc_extern Tryz.prog 130 _ ReflectliteType.typeOf Tryz.func130 (by kernel_rfl) (by kernel_rfl) (by kernel_rfl) (by kernel_rfl)
 have h35 := @run_callFunc_extern Tryz.prog 175 _ (ReflectliteType.relation "AssignableTo" ReflectliteType.assignableTo) Tryz.func175 (by kernel_rfl) (by kernel_rfl) (by kernel_rfl) (by kernel_rfl)
 have h11 := @run_callFunc_extern Tryz.prog 131 _ (ReflectliteValue.method (ReflectliteValue.valueError "reflectlite.Value.Elem" 0) ReflectliteValue.elem) Tryz.func131 (by kernel_rfl) (by kernel_rfl) (by kernel_rfl) (by kernel_rfl)
 have h12 := @run_callFunc_extern Tryz.prog 132 _ ReflectliteValue.set Tryz.func132 (by kernel_rfl) (by kernel_rfl) (by kernel_rfl) (by kernel_rfl)
 have tO := typeOfE
 have mA := methodAssignableTo
 have a25 := assignE
 have v25 := valueOfE
 have f6 := valueOfP
 have f7 := typeP
 have mK := methodKind
 have mE := methodElem
 have mI := methodImplements
 have k27 := kindP
 have k25 := kindE
 have e27 := elemT
 have i25 := implE
 have n8 := isNilP ⟨w.heap.size, 0, none⟩ t ((w.alloc (.cells #[.pointer (some t)] 142)).alloc (.cells #[.pointer (some ⟨1, 142, none⟩), .pointer (some ⟨w.heap.size, 0, none⟩), .int .u64 150] 159)) (by simp)
 have hlt : 0 < w.heap.size := by
  rcases Nat.eq_zero_or_pos w.heap.size with h0 | h
  ·simp [World.cell?, h0] at hg
  ·exact h
 have hg2 : ((w.alloc (.cells #[.pointer (some t)] 142)).alloc (.cells #[.pointer (some ⟨1, 142, none⟩), .pointer (some ⟨w.heap.size, 0, none⟩), .int .u64 150] 159)).cell? ⟨0, 0, none⟩ = some (.iface 175 (.agg #[.pointer (some ⟨1, 70, none⟩)])) := by
  rw [World.cell?_alloc_lt _ _ ⟨0, 0, none⟩ (by simp), World.cell?_alloc_lt _ _ ⟨0, 0, none⟩ hlt]; exact hg
 have htl : t.block < w.heap.size := World.block_lt_of_cell? w _ ht0
 have el := elemV ⟨w.heap.size, 0, none⟩ t (((w.alloc (.cells #[.pointer (some t)] 142)).alloc (.cells #[.pointer (some ⟨1, 142, none⟩), .pointer (some ⟨w.heap.size, 0, none⟩), .int .u64 150] 159)).alloc (.cells #[.pointer (some ⟨1, 142, none⟩), .pointer (some ⟨w.heap.size, 0, none⟩), .int .u64 150] 159)) (by rw [World.cell?_alloc_lt _ _ ⟨w.heap.size, 0, none⟩ (by simp; omega)]; simp)
 have st := setE t ⟨w.heap.size + 1 + 1 + 1, 0, none⟩ k old ((((w.alloc (.cells #[.pointer (some t)] 142)).alloc (.cells #[.pointer (some ⟨1, 142, none⟩), .pointer (some ⟨w.heap.size, 0, none⟩), .int .u64 150] 159)).alloc (.cells #[.pointer (some ⟨1, 142, none⟩), .pointer (some ⟨w.heap.size, 0, none⟩), .int .u64 150] 159)).alloc (.cells #[.int .i64 k] 123))
  (by rw [World.cell?_alloc_at _ _ _ _ (by simp)]; rfl)
  (by rw [World.cell?_alloc_lt _ _ t (by simp; omega), World.cell?_alloc_lt _ _ t (by simp; omega), World.cell?_alloc_lt _ _ t (by simp; omega), World.cell?_alloc_lt _ _ t htl]; exact ht0)
  (by rw [World.frozen?_alloc_old _ _ t (by simp; omega), World.frozen?_alloc_old _ _ t (by simp; omega), World.frozen?_alloc_old _ _ t (by simp; omega), World.frozen?_alloc_old _ _ t (Nat.ne_of_lt htl)]; exact hf0)
 go_enter Tryz.func97, Tryz.ntmps97
 go_wp2
 refine wp_loop_rounds 1 ?_
 rw [rounds_succ]
 go_wp2
 go_ret
 exact ⟨rfl, rfl⟩
end

section
open Go.RowKit
/-- The package variable that errors.As asks is laid as the program's text lays it. -/
def Laid (w : World) : Prop := w.cell? ⟨0, 0, none⟩ = some (.iface 175 (.agg #[.pointer (some ⟨1, 70, none⟩)]))
theorem Laid.later {w x : World} (h : Laid w) (hb : Below w.heap.size w x) : Laid x := (hb.cell (p := ⟨0, 0, none⟩) (World.block_lt_of_cell? w _ h)).trans h
def codeOf (k c : Int) : Prop := (k = 0 ∧ c = 8) ∨ (k = 1 ∧ c = 7) ∨ (k = 2 ∧ c = 4) ∨ (k = 5 ∧ c = 2) ∨ (k = 3 ∧ c = 6) ∨ (k = 4 ∧ c = 6)
set_option maxHeartbeats 1000000 in
theorem code_is (k c : Int) (h : codeOf k c) (w : World) :
  Calls Tryz.prog 98 #[.agg #[.int .i64 k]] w fun e w' => e = .returned (.int .i64 c) ∧ Below w.heap.size w w' := by
 rcases h with ⟨rfl, rfl⟩ | ⟨rfl, rfl⟩ | ⟨rfl, rfl⟩ | ⟨rfl, rfl⟩ | ⟨rfl, rfl⟩ | ⟨rfl, rfl⟩
 all_goals
  go_enter Tryz.func98, Tryz.ntmps98
  go_wp2
  go_ret
  exact ⟨rfl, below_alloc _ _⟩
set_option maxHeartbeats 1000000 in
theorem refusalCode_nil (w : World) :
  Calls Tryz.prog 55 #[.nilIface] w fun e w' => e = .returned (.int .i64 0) ∧ Below w.heap.size w w' := by
 go_enter Tryz.func55, Tryz.ntmps55
 go_wp2_with fail
 refine (as_nil _ _).mono ?_
 rintro e w1 ⟨rfl, rfl⟩
 go_wp2
 go_ret
 exact ⟨rfl, below_alloc _ _⟩
set_option maxRecDepth 100000 in
set_option maxHeartbeats 1000000 in
theorem refusalCode_hit (k c : Int) (h : codeOf k c) (w : World) (hL : Laid w) :
  Calls Tryz.prog 55 #[.iface 123 (.agg #[.int .i64 k])] w fun e w' => e = .returned (.int .i64 c) ∧ Below w.heap.size w w' := by
 have HL : Hid (Laid w) := hL
 have HC : Hid (codeOf k c) := h
 clear h hL
 go_enter Tryz.func55, Tryz.ntmps55
 go_wp2_with fail
 refine (as_hit k ⟨w.heap.size, 0, none⟩ (.int .i64 0) _ (HL.out.later (below_alloc _ _)) (World.cell?_alloc_mark w _ _ _ 0) (by simp)).mono ?_
 rintro e w1 ⟨rfl, hw1⟩
 have c0 : w1.cell? ⟨w.heap.size, 0, none⟩ = some (.int .i64 k) := by
  rw [hw1]
  refine World.cell?_setCell_same _ _ _ (u := .int .i64 0) ?_
  rw [World.cell?_alloc_lt _ _ _ (by simp; omega), World.cell?_alloc_lt _ _ _ (by simp; omega), World.cell?_alloc_lt _ _ _ (by simp; omega), World.cell?_alloc_lt _ _ _ (by simp)]
  exact World.cell?_alloc_mark w _ _ _ 0
 have B1 : Hid (Below w.heap.size w w1) := by
  unfold Hid
  rw [hw1]
  exact (((((below_alloc w _).alloc (by simp) _).alloc (by simp; omega) _).alloc (by simp; omega) _).alloc (by simp; omega) _).setCell (Nat.le_refl _) _
 clear hw1
 go_wp2_with fail
 refine (code_is k c HC.out _).mono ?_
 rintro e w2 ⟨rfl, q2⟩
 have B2 : Hid (Below w.heap.size w w2) := B1.out.trans (q2.mono B1.out.size)
 clear q2 c0
 go_wp2
 go_ret
 exact ⟨rfl, B2.out⟩
end
end Go.Proofs.YtiadbiiiikhfaaaGreatDoor

namespace Go.Proofs.YtiadbiiiikhfaaaGreatDoor
open Go.RowKit

/-- Of g 0, g 1 .. below n the first that is not 0; 0 where there is none. -/
def scan (g : Nat → Int) : Nat → Int
 | 0 => 0
 | n + 1 => if scan g n = 0 then g n else scan g n
theorem scan_go {g : Nat → Int} {k : Nat} (h : scan g k = 0) (h2 : g k = 0) : scan g (k + 1) = 0 := by rw [scan, if_pos h, h2]
theorem scan_stop {g : Nat → Int} {k : Nat} (h : scan g k = 0) (h2 : g k ≠ 0) : ∀ {n : Nat}, k < n → scan g n = g k
 | 0, hn => by omega
 | n + 1, hn => by
  rcases Nat.lt_or_ge k n with h3 | h3
  ·have := scan_stop h h2 h3
   rw [scan, this, if_neg h2]
  ·obtain rfl : k = n := by omega
   rw [scan, if_pos h]

def cellF (c : Nat → Int) (i : Nat) : Int :=
 if faultOf (c (i * 3)) ≠ 0 then faultOf (c (i * 3))
 else if ¬ (1 ≤ c (i * 3 + 1) ∧ c (i * 3 + 1) ≤ 100000 ∧ 0 ≤ c (i * 3 + 2) ∧ c (i * 3 + 2) ≤ 9999) then 3
 else if 0 < i ∧ ¬ (c ((i - 1) * 3) < c (i * 3) ∨ c ((i - 1) * 3) = c (i * 3) ∧ c ((i - 1) * 3 + 1) < c (i * 3 + 1)) then 1 else 0
def lockF (l : Nat → Int) (i : Nat) : Int :=
 if faultOf (l (i * 5)) ≠ 0 then faultOf (l (i * 5))
 else if faultOf (l (i * 5 + 3)) ≠ 0 then faultOf (l (i * 5 + 3))
 else if ¬ (1 ≤ l (i * 5 + 1) ∧ l (i * 5 + 1) ≤ 100000 ∧ 1 ≤ l (i * 5 + 2) ∧ l (i * 5 + 2) ≤ 3 ∧ 0 ≤ l (i * 5 + 4) ∧ l (i * 5 + 4) ≤ 100000) then 3
 else if 0 < i ∧ ¬ (l ((i - 1) * 5) < l (i * 5)) then 1 else 0
def fits (k : Nat → Int) (i : Nat) : Prop := (k (i * 4 + 3) = 4 → k (i * 4 + 1) = k (i * 4 + 2)) ∧ (k (i * 4 + 3) ≠ 4 → k (i * 4 + 2) < k (i * 4 + 1))
instance (k : Nat → Int) (i : Nat) : Decidable (fits k i) := by unfold fits; exact inferInstance
def writeF (k : Nat → Int) (i : Nat) : Int :=
 if faultOf (k (i * 4)) ≠ 0 then faultOf (k (i * 4))
 else if ¬ (1 ≤ k (i * 4 + 1) ∧ k (i * 4 + 1) ≤ 100000 ∧ 1 ≤ k (i * 4 + 2) ∧ k (i * 4 + 2) ≤ 100000 ∧ 1 ≤ k (i * 4 + 3) ∧ k (i * 4 + 3) ≤ 4) then 3
 else if (0 < i ∧ ¬ (k ((i - 1) * 4) < k (i * 4) ∨ k ((i - 1) * 4) = k (i * 4) ∧ k ((i - 1) * 4 + 1) < k (i * 4 + 1))) ∨ ¬ fits k i then 1 else 0
/-- Cell i is of this key and start; write i is. -/
def cellIs (c : Nat → Int) (a b : Int) (i : Nat) : Prop := c (i * 3) = a ∧ c (i * 3 + 1) = b
def writeIs (k : Nat → Int) (a b : Int) (i : Nat) : Prop := k (i * 4) = a ∧ k (i * 4 + 2) = b
instance (c : Nat → Int) (a b : Int) (i : Nat) : Decidable (cellIs c a b i) := by unfold cellIs; exact inferInstance
instance (c : Nat → Int) (a b : Int) (i : Nat) : Decidable (writeIs c a b i) := by unfold writeIs; exact inferInstance
def hasCell (S : Sto) (n : Nat) (a b : Int) : Prop := ∃ i, i < n ∧ cellIs S.c a b i
def hasWrite (S : Sto) (n : Nat) (a b : Int) : Prop := ∃ i, i < n ∧ writeIs S.k a b i
def putW (S : Sto) (i : Nat) : Prop := S.k (i * 4 + 3) = 1 → hasCell S S.nc (S.k (i * 4)) (S.k (i * 4 + 2))
def putL (S : Sto) (i : Nat) : Prop := S.l (i * 5 + 2) = 1 → hasCell S S.nc (S.l (i * 5)) (S.l (i * 5 + 1))
def onceW (S : Sto) (i : Nat) : Prop := ¬ hasWrite S i (S.k (i * 4)) (S.k (i * 4 + 2))
def onceL (S : Sto) (i : Nat) : Prop := ¬ hasWrite S S.nw (S.l (i * 5)) (S.l (i * 5 + 1))
def needs (S : Sto) : Prop := (∀ i, i < S.nw → putW S i) ∧ ∀ i, i < S.nl → putL S i
def once (S : Sto) : Prop := (∀ i, i < S.nw → onceW S i) ∧ ∀ i, i < S.nl → onceL S i
open Classical in
noncomputable def storeF (S : Sto) : Int :=
 if 200 < S.nc ∨ 200 < S.nl ∨ 200 < S.nw then 2
 else if scan (cellF S.c) S.nc ≠ 0 then scan (cellF S.c) S.nc
 else if scan (lockF S.l) S.nl ≠ 0 then scan (lockF S.l) S.nl
 else if scan (writeF S.k) S.nw ≠ 0 then scan (writeF S.k) S.nw
 else if ¬ needs S then 4 else if ¬ once S then 6 else 0
end Go.Proofs.YtiadbiiiikhfaaaGreatDoor

namespace Go.Proofs.YtiadbiiiikhfaaaGreatDoor
open Go.RowKit

theorem isTime_is (v : Int) (r : Bool) (hr : decide (1 ≤ v ∧ v ≤ 100000) = r) (w : World) :
  Calls Tryz.prog 33 #[.int .i64 v] w fun e w' => e = .returned (.bool r) ∧ w' = w := by
 by_cases h1 : 1 ≤ v
 ·by_cases h2 : v ≤ 100000
  ·have d : decide (v ≤ 100000) = true := decide_eq_true h2
   rw [decide_eq_true (show 1 ≤ v ∧ v ≤ 100000 from ⟨h1, h2⟩)] at hr
   subst hr
   go_enter Tryz.func33, Tryz.ntmps33
   go_wp2
   go_ret
   exact ⟨rfl, rfl⟩
  ·have d : decide (v ≤ 100000) = false := decide_eq_false h2
   rw [decide_eq_false (show ¬ (1 ≤ v ∧ v ≤ 100000) from fun h => h2 h.2)] at hr
   subst hr
   go_enter Tryz.func33, Tryz.ntmps33
   go_wp2
   go_ret
   exact ⟨rfl, rfl⟩
 ·have d : decide (1 ≤ v) = false := decide_eq_false h1
  rw [decide_eq_false (show ¬ (1 ≤ v ∧ v ≤ 100000) from fun h => h1 h.1)] at hr
  subst hr
  go_enter Tryz.func33, Tryz.ntmps33
  go_wp2
  go_ret
  exact ⟨rfl, rfl⟩
theorem isValue_is (v : Int) (r : Bool) (hr : decide (0 ≤ v ∧ v ≤ 9999) = r) (w : World) :
  Calls Tryz.prog 35 #[.int .i64 v] w fun e w' => e = .returned (.bool r) ∧ w' = w := by
 by_cases h1 : 0 ≤ v
 ·by_cases h2 : v ≤ 9999
  ·have d : decide (v ≤ 9999) = true := decide_eq_true h2
   rw [decide_eq_true (show 0 ≤ v ∧ v ≤ 9999 from ⟨h1, h2⟩)] at hr
   subst hr
   go_enter Tryz.func35, Tryz.ntmps35
   go_wp2
   go_ret
   exact ⟨rfl, rfl⟩
  ·have d : decide (v ≤ 9999) = false := decide_eq_false h2
   rw [decide_eq_false (show ¬ (0 ≤ v ∧ v ≤ 9999) from fun h => h2 h.2)] at hr
   subst hr
   go_enter Tryz.func35, Tryz.ntmps35
   go_wp2
   go_ret
   exact ⟨rfl, rfl⟩
 ·have d : decide (0 ≤ v) = false := decide_eq_false h1
  rw [decide_eq_false (show ¬ (0 ≤ v ∧ v ≤ 9999) from fun h => h1 h.1)] at hr
  subst hr
  go_enter Tryz.func35, Tryz.ntmps35
  go_wp2
  go_ret
  exact ⟨rfl, rfl⟩
theorem isUntil_is (v : Int) (r : Bool) (hr : decide (0 ≤ v ∧ v ≤ 100000) = r) (w : World) :
  Calls Tryz.prog 36 #[.int .i64 v] w fun e w' => e = .returned (.bool r) ∧ w' = w := by
 by_cases h1 : 0 ≤ v
 ·by_cases h2 : v ≤ 100000
  ·have d : decide (v ≤ 100000) = true := decide_eq_true h2
   rw [decide_eq_true (show 0 ≤ v ∧ v ≤ 100000 from ⟨h1, h2⟩)] at hr
   subst hr
   go_enter Tryz.func36, Tryz.ntmps36
   go_wp2
   go_ret
   exact ⟨rfl, rfl⟩
  ·have d : decide (v ≤ 100000) = false := decide_eq_false h2
   rw [decide_eq_false (show ¬ (0 ≤ v ∧ v ≤ 100000) from fun h => h2 h.2)] at hr
   subst hr
   go_enter Tryz.func36, Tryz.ntmps36
   go_wp2
   go_ret
   exact ⟨rfl, rfl⟩
 ·have d : decide (0 ≤ v) = false := decide_eq_false h1
  rw [decide_eq_false (show ¬ (0 ≤ v ∧ v ≤ 100000) from fun h => h1 h.1)] at hr
  subst hr
  go_enter Tryz.func36, Tryz.ntmps36
  go_wp2
  go_ret
  exact ⟨rfl, rfl⟩
theorem isLockKind_is (v : Int) (r : Bool) (hr : decide (1 ≤ v ∧ v ≤ 3) = r) (w : World) :
  Calls Tryz.prog 34 #[.int .i64 v] w fun e w' => e = .returned (.bool r) ∧ w' = w := by
 by_cases h1 : 1 ≤ v
 ·by_cases h2 : v ≤ 3
  ·have d : decide (v ≤ 3) = true := decide_eq_true h2
   rw [decide_eq_true (show 1 ≤ v ∧ v ≤ 3 from ⟨h1, h2⟩)] at hr
   subst hr
   go_enter Tryz.func34, Tryz.ntmps34
   go_wp2
   go_ret
   exact ⟨rfl, rfl⟩
  ·have d : decide (v ≤ 3) = false := decide_eq_false h2
   rw [decide_eq_false (show ¬ (1 ≤ v ∧ v ≤ 3) from fun h => h2 h.2)] at hr
   subst hr
   go_enter Tryz.func34, Tryz.ntmps34
   go_wp2
   go_ret
   exact ⟨rfl, rfl⟩
 ·have d : decide (1 ≤ v) = false := decide_eq_false h1
  rw [decide_eq_false (show ¬ (1 ≤ v ∧ v ≤ 3) from fun h => h1 h.1)] at hr
  subst hr
  go_enter Tryz.func34, Tryz.ntmps34
  go_wp2
  go_ret
  exact ⟨rfl, rfl⟩

/-- How two numbers stand to each other: -1, 0 or 1. -/
def cmpOf (a b : Int) : Int := if a < b then -1 else if b < a then 1 else 0
theorem compare_is (a b r : Int) (hr : cmpOf a b = r) (w : World) :
  Calls Tryz.prog 106 #[.int .i64 a, .int .i64 b] w fun e w' => e = .returned (.int .i64 r) ∧ w' = w := by
 unfold cmpOf at hr
 by_cases h1 : a < b
 ·rw [if_pos h1] at hr
  subst hr
  go_enter Tryz.func106, Tryz.ntmps106
  go_wp2
  go_ret
  exact ⟨rfl, rfl⟩
 ·rw [if_neg h1] at hr
  have d1 : decide (a < b) = false := decide_eq_false h1
  by_cases h2 : b < a
  ·rw [if_pos h2] at hr
   subst hr
   clear h1
   go_enter Tryz.func106, Tryz.ntmps106
   go_wp2
   go_ret
   exact ⟨rfl, rfl⟩
  ·rw [if_neg h2] at hr
   subst hr
   have d2 : decide (b < a) = false := decide_eq_false h2
   clear h1 h2
   go_enter Tryz.func106, Tryz.ntmps106
   go_wp2
   go_ret
   exact ⟨rfl, rfl⟩
/-- The first of two numbers that is not 0. -/
def orOf (a b : Int) : Int := if a = 0 then b else a
set_option maxHeartbeats 1000000 in
theorem or_is (a b r : Int) (g : Nat) (hr : orOf a b = r) (w : World) (h0 : w.cell? ⟨g, 0, none⟩ = some (.int .i64 a)) (h1 : w.cell? ⟨g, 1, none⟩ = some (.int .i64 b)) :
  Calls Tryz.prog 118 #[.slice (some ⟨g, 0, none⟩) 2 2] w fun e w' => e = .returned (.int .i64 r) ∧ w' = w := by
 unfold orOf at hr
 by_cases ha : a = 0
 ·rw [if_pos ha] at hr
  subst hr ha
  go_enter Tryz.func118, Tryz.ntmps118
  go_wp2
  go_loop [8] (fun i => i = .int .i64 0 ∨ i = .int .i64 1 ∨ (i = .int .i64 2 ∧ b = 0)) (fun i => 2 - (intOf i).toNat)
  case atStart => exact Or.inl rfl
  case round =>
   rcases hrel with rfl | rfl | ⟨rfl, rfl⟩
   ·go_wp2
    go_round
    case rel => exact Or.inr (Or.inl rfl)
    case measure => simp [intOf]
   ·by_cases hb : b = 0
    ·subst hb
     go_wp2
     go_round
     case rel => exact Or.inr (Or.inr ⟨rfl, by simp⟩)
     case measure => simp [intOf]
    ·have d : (b == 0) = false := beq_eq_false_iff_ne.2 hb
     clear hb
     go_wp2
     go_ret
     exact ⟨rfl, rfl⟩
   ·go_wp2
    go_ret
    exact ⟨rfl, rfl⟩
 ·rw [if_neg ha] at hr
  subst hr
  have d : (a == 0) = false := beq_eq_false_iff_ne.2 ha
  clear ha
  go_enter Tryz.func118, Tryz.ntmps118
  go_wp2
  go_loop [8] (fun i => i = .int .i64 0) (fun i => 2 - (intOf i).toNat)
  case atStart => rfl
  case round =>
   subst hrel
   go_wp2
   go_ret
   exact ⟨rfl, rfl⟩

/-- Four cells of two boxes, and that nothing old has turned. -/
def Four (w : World) (a0 a1 b0 b1 : Int) (x : World) : Prop := x.cell? ⟨w.heap.size, 0, none⟩ = some (.int .i64 a0) ∧ x.cell? ⟨w.heap.size, 1, none⟩ = some (.int .i64 a1) ∧ x.cell? ⟨w.heap.size + 1, 0, none⟩ = some (.int .i64 b0) ∧ x.cell? ⟨w.heap.size + 1, 1, none⟩ = some (.int .i64 b1) ∧ Below w.heap.size w x
theorem Four.later {w x x' : World} {a0 a1 b0 b1 : Int} (h : Four w a0 a1 b0 b1 x) (hb : Below x.heap.size x x') : Four w a0 a1 b0 b1 x' := by
 obtain ⟨h0, h1, h2, h3, h4⟩ := h
 exact ⟨(hb.cell (World.block_lt_of_cell? x _ h0)).trans h0, (hb.cell (World.block_lt_of_cell? x _ h1)).trans h1, (hb.cell (World.block_lt_of_cell? x _ h2)).trans h2, (hb.cell (World.block_lt_of_cell? x _ h3)).trans h3, h4.trans (hb.mono h4.size)⟩

theorem below_alloc_drew (X : World) (o : Obj) : Below X.drew.heap.size X.drew (X.alloc o).drew := ⟨rfl, rfl, rfl, (below_alloc X o).size, (below_alloc X o).block⟩
theorem two_cells (X : World) (n : Nat) (hn : X.heap.size = n) (a b : Value) (t : TypeId) : (X.alloc (.cells #[a, b] t)).drew.cell? ⟨n, 0, none⟩ = some a ∧ (X.alloc (.cells #[a, b] t)).drew.cell? ⟨n, 1, none⟩ = some b := by
 subst hn
 exact ⟨World.cell?_alloc_mark X _ _ _ 0, World.cell?_alloc_mark X _ _ _ 1⟩
set_option maxRecDepth 100000 in
set_option maxHeartbeats 1000000 in
theorem compareCells_is (x0 x1 x2 y0 y1 y2 : Int) (r : Int) (hr : orOf (cmpOf x0 y0) (cmpOf x1 y1) = r) (w : World) :
  Calls Tryz.prog 92 #[.agg #[.int .i64 x0, .int .i64 x1, .int .i64 x2], .agg #[.int .i64 y0, .int .i64 y1, .int .i64 y2]] w fun e w' => e = .returned (.int .i64 r) ∧ Below w.heap.size w w' := by
 obtain ⟨c0, C0⟩ : ∃ c, Hid (cmpOf x0 y0 = c) := ⟨_, rfl⟩
 obtain ⟨c1, C1⟩ : ∃ c, Hid (cmpOf x1 y1 = c) := ⟨_, rfl⟩
 have HR : Hid (orOf c0 c1 = r) := by unfold Hid; rw [← C0.out, ← C1.out]; exact hr
 clear hr
 go_enter Tryz.func92, Tryz.ntmps92
 go_wp2_with fail
 have h0 : Four w x0 x1 y0 y1 (((w.alloc (.cells #[.int .i64 x0, .int .i64 x1, .int .i64 x2] 93)).alloc (.cells #[.int .i64 y0, .int .i64 y1, .int .i64 y2] 93)).drew) := ⟨by simp, by simp, by simp, by simp, ((below_alloc _ _).alloc (by simp) _).drew⟩
 refine wp_region_held_drew (S := Four w x0 x1 y0 y1) (by kernel_rfl) h0 (fun hS => ?_)
 clear h0
 refine tkH 0 ?_ hS (fun wx hx => ?_) ?_; rotate_left
 ·obtain ⟨hx0, hx1, hx2, hx3, _⟩ := hx; go_simp; try with_reducible rfl
 refine tkH 1 ?_ hS (fun wx hx => ?_) ?_; rotate_left
 ·obtain ⟨hx0, hx1, hx2, hx3, _⟩ := hx; go_simp; try with_reducible rfl
 refine tkH 2 ?_ hS (fun wx hx => ?_) ?_; rotate_left
 ·obtain ⟨hx0, hx1, hx2, hx3, _⟩ := hx; go_simp; try with_reducible rfl
 refine tkH 3 ?_ hS (fun wx hx => ?_) ?_; rotate_left
 ·obtain ⟨hx0, hx1, hx2, hx3, _⟩ := hx; go_simp; try with_reducible rfl
 refine tkH 5 ?_ hS (fun wx hx => ?_) ?_; rotate_left
 ·obtain ⟨hx0, hx1, hx2, hx3, _⟩ := hx; go_simp; try with_reducible rfl
 refine tkH 6 ?_ hS (fun wx hx => ?_) ?_; rotate_left
 ·obtain ⟨hx0, hx1, hx2, hx3, _⟩ := hx; go_simp; try with_reducible rfl
 refine tkH 7 ?_ hS (fun wx hx => ?_) ?_; rotate_left
 ·obtain ⟨hx0, hx1, hx2, hx3, _⟩ := hx; go_simp; try with_reducible rfl
 refine tkH 8 ?_ hS (fun wx hx => ?_) ?_; rotate_left
 ·obtain ⟨hx0, hx1, hx2, hx3, _⟩ := hx; go_simp; try with_reducible rfl
 refine rdH 4 (fun K hK => ?_)
 go_simp
 go_wp2_with fail
 refine (compare_is _ _ c0 C0.out _).mono ?_
 rintro e w1 ⟨rfl, rfl⟩
 have hS' := hS
 go_wp2_with fail
 refine hK.out _ _ hS' (fun hS => ?_)
 clear hK K hS'
 refine rdH 9 (fun K hK => ?_)
 go_simp
 go_wp2_with fail
 refine (compare_is _ _ c1 C1.out _).mono ?_
 rintro e w1 ⟨rfl, rfl⟩
 have hS' := hS
 go_wp2_with fail
 refine hK.out _ _ hS' (fun hS => ?_)
 clear hK K hS'
 refine rdH 10 (fun K hK => ?_)
 go_simp
 refine hK.out _ _ (hS.later (below_alloc_drew _ _)) (fun hS => ?_)
 clear hK K
 refine rdH 11 (fun K hK => ?_)
 go_simp
 go_wp2_with fail
 refine (or_is c0 c1 r _ HR.out _ (two_cells _ _ (by simp) _ _ _).1 (two_cells _ _ (by simp) _ _ _).2).mono ?_
 rintro e w1 ⟨rfl, rfl⟩
 have hS' := hS
 go_wp2_with fail
 refine hK.out _ _ hS' (fun hS => ?_)
 clear hK K hS'
 refine tkH 12 ?_ hS (fun wx hx => ?_) ?_; rotate_left
 ·obtain ⟨hx0, hx1, hx2, hx3, _⟩ := hx; go_simp; try with_reducible rfl
 refine wpAnyH_done (by kernel_rfl) ?_ _
 go_simp
 go_wp2
 go_ret
 exact ⟨rfl, hS.2.2.2.2⟩
set_option maxRecDepth 100000 in
set_option maxHeartbeats 1000000 in
theorem compareWrites_is (x0 x1 x2 x3 y0 y1 y2 y3 : Int) (r : Int) (hr : orOf (cmpOf x0 y0) (cmpOf x1 y1) = r) (w : World) :
  Calls Tryz.prog 93 #[.agg #[.int .i64 x0, .int .i64 x1, .int .i64 x2, .int .i64 x3], .agg #[.int .i64 y0, .int .i64 y1, .int .i64 y2, .int .i64 y3]] w fun e w' => e = .returned (.int .i64 r) ∧ Below w.heap.size w w' := by
 obtain ⟨c0, C0⟩ : ∃ c, Hid (cmpOf x0 y0 = c) := ⟨_, rfl⟩
 obtain ⟨c1, C1⟩ : ∃ c, Hid (cmpOf x1 y1 = c) := ⟨_, rfl⟩
 have HR : Hid (orOf c0 c1 = r) := by unfold Hid; rw [← C0.out, ← C1.out]; exact hr
 clear hr
 go_enter Tryz.func93, Tryz.ntmps93
 go_wp2_with fail
 have h0 : Four w x0 x1 y0 y1 (((w.alloc (.cells #[.int .i64 x0, .int .i64 x1, .int .i64 x2, .int .i64 x3] 55)).alloc (.cells #[.int .i64 y0, .int .i64 y1, .int .i64 y2, .int .i64 y3] 55)).drew) := ⟨by simp, by simp, by simp, by simp, ((below_alloc _ _).alloc (by simp) _).drew⟩
 refine wp_region_held_drew (S := Four w x0 x1 y0 y1) (by kernel_rfl) h0 (fun hS => ?_)
 clear h0
 refine tkH 0 ?_ hS (fun wx hx => ?_) ?_; rotate_left
 ·obtain ⟨hx0, hx1, hx2, hx3, _⟩ := hx; go_simp; try with_reducible rfl
 refine tkH 1 ?_ hS (fun wx hx => ?_) ?_; rotate_left
 ·obtain ⟨hx0, hx1, hx2, hx3, _⟩ := hx; go_simp; try with_reducible rfl
 refine tkH 2 ?_ hS (fun wx hx => ?_) ?_; rotate_left
 ·obtain ⟨hx0, hx1, hx2, hx3, _⟩ := hx; go_simp; try with_reducible rfl
 refine tkH 3 ?_ hS (fun wx hx => ?_) ?_; rotate_left
 ·obtain ⟨hx0, hx1, hx2, hx3, _⟩ := hx; go_simp; try with_reducible rfl
 refine tkH 5 ?_ hS (fun wx hx => ?_) ?_; rotate_left
 ·obtain ⟨hx0, hx1, hx2, hx3, _⟩ := hx; go_simp; try with_reducible rfl
 refine tkH 6 ?_ hS (fun wx hx => ?_) ?_; rotate_left
 ·obtain ⟨hx0, hx1, hx2, hx3, _⟩ := hx; go_simp; try with_reducible rfl
 refine tkH 7 ?_ hS (fun wx hx => ?_) ?_; rotate_left
 ·obtain ⟨hx0, hx1, hx2, hx3, _⟩ := hx; go_simp; try with_reducible rfl
 refine tkH 8 ?_ hS (fun wx hx => ?_) ?_; rotate_left
 ·obtain ⟨hx0, hx1, hx2, hx3, _⟩ := hx; go_simp; try with_reducible rfl
 refine rdH 4 (fun K hK => ?_)
 go_simp
 go_wp2_with fail
 refine (compare_is _ _ c0 C0.out _).mono ?_
 rintro e w1 ⟨rfl, rfl⟩
 have hS' := hS
 go_wp2_with fail
 refine hK.out _ _ hS' (fun hS => ?_)
 clear hK K hS'
 refine rdH 9 (fun K hK => ?_)
 go_simp
 go_wp2_with fail
 refine (compare_is _ _ c1 C1.out _).mono ?_
 rintro e w1 ⟨rfl, rfl⟩
 have hS' := hS
 go_wp2_with fail
 refine hK.out _ _ hS' (fun hS => ?_)
 clear hK K hS'
 refine rdH 10 (fun K hK => ?_)
 go_simp
 refine hK.out _ _ (hS.later (below_alloc_drew _ _)) (fun hS => ?_)
 clear hK K
 refine rdH 11 (fun K hK => ?_)
 go_simp
 go_wp2_with fail
 refine (or_is c0 c1 r _ HR.out _ (two_cells _ _ (by simp) _ _ _).1 (two_cells _ _ (by simp) _ _ _).2).mono ?_
 rintro e w1 ⟨rfl, rfl⟩
 have hS' := hS
 go_wp2_with fail
 refine hK.out _ _ hS' (fun hS => ?_)
 clear hK K hS'
 refine tkH 12 ?_ hS (fun wx hx => ?_) ?_; rotate_left
 ·obtain ⟨hx0, hx1, hx2, hx3, _⟩ := hx; go_simp; try with_reducible rfl
 refine wpAnyH_done (by kernel_rfl) ?_ _
 go_simp
 go_wp2
 go_ret
 exact ⟨rfl, hS.2.2.2.2⟩
theorem compareLocks_is (x0 x1 x2 x3 x4 y0 y1 y2 y3 y4 : Int) (r : Int) (hr : cmpOf x0 y0 = r) (w : World) :
  Calls Tryz.prog 81 #[.agg #[.int .i64 x0, .int .i64 x1, .int .i64 x2, .int .i64 x3, .int .i64 x4], .agg #[.int .i64 y0, .int .i64 y1, .int .i64 y2, .int .i64 y3, .int .i64 y4]] w fun e w' => e = .returned (.int .i64 r) ∧ Below w.heap.size w w' := by
 have HR : Hid (cmpOf x0 y0 = r) := hr
 clear hr
 go_enter Tryz.func81, Tryz.ntmps81
 go_wp2_with fail
 refine (compare_is _ _ r HR.out _).mono ?_
 rintro e w1 ⟨rfl, rfl⟩
 go_wp2
 go_ret
 exact ⟨rfl, (below_alloc _ _).alloc (by simp) _⟩
theorem commitFits_is (x0 x1 x2 x3 : Int) (r : Bool) (hr : decide ((x3 = 4 → x1 = x2) ∧ (x3 ≠ 4 → x2 < x1)) = r) (w : World) :
  Calls Tryz.prog 94 #[.agg #[.int .i64 x0, .int .i64 x1, .int .i64 x2, .int .i64 x3]] w fun e w' => e = .returned (.bool r) ∧ Below w.heap.size w w' := by
 by_cases h3 : x3 = 4
 ·by_cases h1 : x1 = x2
  ·rw [decide_eq_true (show ((x3 = 4 → x1 = x2) ∧ (x3 ≠ 4 → x2 < x1)) from ⟨fun _ => h1, fun h => absurd h3 h⟩)] at hr
   subst hr h3 h1
   go_enter Tryz.func94, Tryz.ntmps94
   go_wp2
   go_ret
   exact ⟨by simp, below_alloc _ _⟩
  ·rw [decide_eq_false (show ¬ ((x3 = 4 → x1 = x2) ∧ (x3 ≠ 4 → x2 < x1)) from fun h => h1 (h.1 h3))] at hr
   subst hr h3
   have d : (x1 == x2) = false := beq_eq_false_iff_ne.2 h1
   clear h1
   go_enter Tryz.func94, Tryz.ntmps94
   go_wp2
   go_ret
   exact ⟨rfl, below_alloc _ _⟩
 ·have d3 : (x3 == 4) = false := beq_eq_false_iff_ne.2 h3
  by_cases h1 : x2 < x1
  ·rw [decide_eq_true (show ((x3 = 4 → x1 = x2) ∧ (x3 ≠ 4 → x2 < x1)) from ⟨fun h => absurd h h3, fun _ => h1⟩)] at hr
   have d : decide (x2 < x1) = true := decide_eq_true h1
   subst hr
   clear h3 h1
   go_enter Tryz.func94, Tryz.ntmps94
   go_wp2
   go_ret
   exact ⟨rfl, below_alloc _ _⟩
  ·rw [decide_eq_false (show ¬ ((x3 = 4 → x1 = x2) ∧ (x3 ≠ 4 → x2 < x1)) from fun h => h1 (h.2 h3))] at hr
   have d : decide (x2 < x1) = false := decide_eq_false h1
   subst hr
   clear h3 h1
   go_enter Tryz.func94, Tryz.ntmps94
   go_wp2
   go_ret
   exact ⟨rfl, below_alloc _ _⟩
end Go.Proofs.YtiadbiiiikhfaaaGreatDoor

namespace Go.Proofs.YtiadbiiiikhfaaaGreatDoor
open Go.RowKit
theorem perm_strict {α : Type} {lt : α → α → Prop} (asym : ∀ x y, lt x y → ¬ lt y x) : ∀ {l l' : List α}, l.Perm l' → l.Pairwise lt → l'.Pairwise lt → l = l'
 | [], l', hp, _, _ => (List.nil_perm.1 hp).symm
 | a :: t, l', hp, h, h' => by
  cases l' with
  | nil => exact absurd (List.perm_nil.1 hp) (by simp)
  | cons b t' =>
   have hab : a = b := by
    have ha : a ∈ b :: t' := hp.mem_iff.1 List.mem_cons_self
    have hb : b ∈ a :: t := hp.mem_iff.2 List.mem_cons_self
    rcases List.mem_cons.1 ha with e | ha'
    ·exact e
    ·rcases List.mem_cons.1 hb with e | hb'
     ·exact e.symm
     ·exact absurd ((List.pairwise_cons.1 h').1 a ha') (asym a b ((List.pairwise_cons.1 h).1 b hb'))
   subst hab
   rw [perm_strict asym ((List.perm_cons a).1 hp) (List.pairwise_cons.1 h).2 (List.pairwise_cons.1 h').2]
/-- Below, by two numbers. -/
def Lt2 {α : Type} (k s : α → Int) (x y : α) : Prop := k x < k y ∨ k x = k y ∧ s x < s y
theorem Lt2.asym {α : Type} {k s : α → Int} {x y : α} (h : Lt2 k s x y) : ¬ Lt2 k s y x := by
 unfold Lt2 at *
 omega
theorem Lt2.total {α : Type} {k s : α → Int} {x y : α} (h : ¬ Lt2 k s y x) (hn : ¬ (k x = k y ∧ s x = s y)) : Lt2 k s x y := by
 unfold Lt2 at *
 omega
theorem Lt2.ne {α : Type} {k s : α → Int} {x y : α} (h : Lt2 k s x y) : ¬ (k x = k y ∧ s x = s y) := by
 unfold Lt2 at h
 omega
/-- The struct number k of a row. -/
def struD (F : Nat → Int) (m k : Nat) : List Int := (List.range m).map fun q => F (k * m + q)
theorem struD_get (F : Nat → Int) (m k q : Nat) (hq : q < m) : (struD F m k).getD q 0 = F (k * m + q) := by simp [struD, hq]
theorem struD_len (F : Nat → Int) (m k : Nat) : (struD F m k).length = m := by simp [struD]
theorem flat_get {m : Nat} : ∀ (l : List (List Int)) (t : Nat), (∀ x ∈ l, x.length = m) → t < l.length * m → l.flatten.getD t 0 = (l.getD (t / m) []).getD (t % m) 0
 | [], t, _, ht => by simp at ht
 | x :: r, t, hl, ht => by
  have hx : x.length = m := hl x List.mem_cons_self
  have hm : 0 < m := Nat.pos_of_ne_zero (fun e => by subst e; simp at ht)
  rcases Nat.lt_or_ge t m with h | h
  ·rw [Nat.div_eq_of_lt h, Nat.mod_eq_of_lt h, List.flatten_cons]
   simp [List.getElem?_append, hx, h]
  ·have ih := flat_get r (t - m) (fun y hy => hl y (List.mem_cons_of_mem _ hy)) (by simp only [List.length_cons, Nat.succ_mul] at ht; omega)
   have e1 : t / m = (t - m) / m + 1 := Nat.div_eq_sub_div hm h
   have e2 : t % m = (t - m) % m := Nat.mod_eq_sub_mod h
   have hn : ¬ t < x.length := by omega
   rw [e1, e2, List.flatten_cons]
   rw [List.getD_cons_succ, ← ih]
   simp [List.getElem?_append, hx, Nat.not_lt.2 h]
end Go.Proofs.YtiadbiiiikhfaaaGreatDoor

namespace Go.Proofs
open Go.Shelf
def Tryz.sortCell_ren : Go.Shelf.Ren := ⟨fun | 6 => 105 | 15 => 124 | 14 => 123 | 28 => 141 | 29 => 142 | 20 => 133 | 21 => 134 | 22 => 135 | 23 => 136 | 24 => 137 | 25 => 138 | 26 => 139 | 27 => 140 | 46 => 145 | 47 => 146 | 48 => 147 | 49 => 148 | 50 => 149 | 57 => 151 | n => n, fun | 22 => 24 | 24 => 93 | 25 => 136 | 3 => 3 | 39 => 148 | 0 => 0 | 53 => 196 | 55 => 198 | 4 => 4 | 46 => 190 | 45 => 189 | 50 => 125 | 5 => 5 | 9 => 9 | 66 => 200 | 70 => 204 | 76 => 207 | 77 => 208 | n => n, fun | n => n⟩
theorem Tryz.sortCell : Go.Proofs.SlLaysF0.n6 Tryz.prog Tryz.sortCell_ren := {
 mixed := by kernel_rfl
 f6 := ⟨Tryz.f105.name, by decide, Tryz.func105.trans (congrArg some (by kernel_rfl))⟩
 f14 := ⟨Tryz.f123.name, by decide, Tryz.func123.trans (congrArg some (by kernel_rfl))⟩
 f15 := Tryz.func124.trans (congrArg some (by kernel_rfl))
 f20 := ⟨Tryz.f133.name, by decide, Tryz.func133.trans (congrArg some (by kernel_rfl))⟩
 f21 := ⟨Tryz.f134.name, by decide, Tryz.func134.trans (congrArg some (by kernel_rfl))⟩
 f22 := ⟨Tryz.f135.name, by decide, Tryz.func135.trans (congrArg some (by kernel_rfl))⟩
 f23 := ⟨Tryz.f136.name, by decide, Tryz.func136.trans (congrArg some (by kernel_rfl))⟩
 f24 := ⟨Tryz.f137.name, by decide, Tryz.func137.trans (congrArg some (by kernel_rfl))⟩
 f25 := ⟨Tryz.f138.name, by decide, Tryz.func138.trans (congrArg some (by kernel_rfl))⟩
 f26 := ⟨Tryz.f139.name, by decide, Tryz.func139.trans (congrArg some (by kernel_rfl))⟩
 f27 := ⟨Tryz.f140.name, by decide, Tryz.func140.trans (congrArg some (by kernel_rfl))⟩
 f28 := Tryz.func141.trans (congrArg some (by kernel_rfl))
 f29 := Tryz.func142.trans (congrArg some (by kernel_rfl))
 f46 := ⟨Tryz.f145.name, by decide, Tryz.func145.trans (congrArg some (by kernel_rfl))⟩
 f47 := Tryz.func146.trans (congrArg some (by kernel_rfl))
 f48 := Tryz.func147.trans (congrArg some (by kernel_rfl))
 f49 := ⟨Tryz.f148.name, by decide, Tryz.func148.trans (congrArg some (by kernel_rfl))⟩
 f50 := ⟨Tryz.f149.name, by decide, Tryz.func149.trans (congrArg some (by kernel_rfl))⟩
 f57 := ⟨Tryz.f151.name, by decide, Tryz.func151.trans (congrArg some (by kernel_rfl))⟩
 t0 := Tryz.underlying0
 a0 := Tryz.isAgg0
 z0 := Tryz.sizeOf0
 v0 := Tryz.zeroValue0
 t3 := Tryz.underlying3
 a3 := Tryz.isAgg3
 z3 := Tryz.sizeOf3
 v3 := Tryz.zeroValue3
 t4 := Tryz.underlying4
 a4 := Tryz.isAgg4
 z4 := Tryz.sizeOf4
 v4 := Tryz.zeroValue4
 t5 := Tryz.underlying5
 a5 := Tryz.isAgg5
 z5 := Tryz.sizeOf5
 v5 := Tryz.zeroValue5
 t9 := Tryz.underlying9
 a9 := Tryz.isAgg9
 z9 := Tryz.sizeOf9
 v9 := Tryz.zeroValue9
 t22 := Tryz.underlying24
 a22 := Tryz.isAgg24
 z22 := Tryz.sizeOf24
 v22 := Tryz.zeroValue24
 t25 := Tryz.underlying136
 a25 := Tryz.isAgg136
 z25 := Tryz.sizeOf136
 v25 := Tryz.zeroValue136
 t39 := Tryz.underlying148
 a39 := Tryz.isAgg148
 z39 := Tryz.sizeOf148
 v39 := Tryz.zeroValue148
 t45 := Tryz.underlying189
 a45 := Tryz.isAgg189
 z45 := Tryz.sizeOf189
 v45 := Tryz.zeroValue189
 t46 := Tryz.underlying190
 a46 := Tryz.isAgg190
 z46 := Tryz.sizeOf190
 v46 := Tryz.zeroValue190
 t50 := Tryz.underlying125
 a50 := Tryz.isAgg125
 z50 := Tryz.sizeOf125
 v50 := Tryz.zeroValue125
 t53 := Tryz.underlying196
 a53 := Tryz.isAgg196
 z53 := Tryz.sizeOf196
 v53 := Tryz.zeroValue196
 t55 := Tryz.underlying198
 a55 := Tryz.isAgg198
 z55 := Tryz.sizeOf198
 v55 := Tryz.zeroValue198
 t66 := Tryz.underlying200
 a66 := Tryz.isAgg200
 z66 := Tryz.sizeOf200
 v66 := Tryz.zeroValue200
 t70 := Tryz.underlying204
 a70 := Tryz.isAgg204
 z70 := Tryz.sizeOf204
 v70 := Tryz.zeroValue204
 t76 := Tryz.underlying207
 a76 := Tryz.isAgg207
 z76 := Tryz.sizeOf207
 v76 := Tryz.zeroValue207
 t77 := Tryz.underlying208
 a77 := Tryz.isAgg208
 z77 := Tryz.sizeOf208
 v77 := Tryz.zeroValue208 }
end Go.Proofs

namespace Go.Proofs.YtiadbiiiikhfaaaGreatDoor
open Go.RowKit

def vals (F : Nat → Int) (N : Nat) : List Value := (List.range N).map fun p => .int .i64 (F p)
theorem vals_length (F : Nat → Int) (N : Nat) : (vals F N).length = N := by simp [vals]
theorem vals_at (F : Nat → Int) (N p : Nat) (h : p < N) : (vals F N)[p]? = some (.int .i64 (F p)) := by simp [vals, h]
theorem vals_one (F : Nat → Int) (N : Nat) : ∀ u ∈ vals F N, u.oneCell' = true := by
 intro u hu
 simp only [vals, List.mem_map] at hu
 obtain ⟨p, _, rfl⟩ := hu
 rfl
theorem vals_inv {F : Nat → Int} {N p : Nat} {u : Value} (h : (vals F N)[p]? = some u) : p < N ∧ u = .int .i64 (F p) := by
 have hp : p < N := by
  have := (List.getElem?_eq_some_iff.1 h).1
  rwa [vals_length] at this
 rw [vals_at F N p hp] at h
 exact ⟨hp, (Option.some.inj h).symm⟩
/-- A row that a call has made, n elements of m numbers each, with room behind them. -/
def Own (w : World) (B : Nat) (e : TypeId) (m n : Nat) (F : Nat → Int) (v : Value) : Prop := w.ownsRow B e m v n (vals F (n * m))
theorem Own.row {w : World} {B : Nat} {e : TypeId} {m n : Nat} {F : Nat → Int} {v : Value} (h : Own w B e m n F v) : Row w B m n F v ∧ Free w (n * m) v := by
 have h0 : w.ownsRow B e m v n (vals F (n * m)) := h
 rcases h.2 with ⟨rfl, rfl⟩ | ⟨g, cap, cur, rfl, hg, hw, _⟩
 ·refine ⟨⟨_, _, rfl, fun q => absurd q (Nat.lt_irrefl 0)⟩, ?_⟩
  rw [Nat.zero_mul]
  exact Free.of0 _ _
 ·have hgs : g < w.heap.size := (Array.getElem?_eq_some_iff.1 hw).1
  refine ⟨⟨_, _, rfl, fun _ => ⟨g, 0, rfl, hg, hgs, fun p hp => ?_⟩⟩, ?_⟩
  ·rw [Nat.zero_add, World.ownsRow.cellAt h0 p hp, vals_at _ _ _ hp]
  ·intro g' o' n' c' hv p hp
   simp only [Value.slice.injEq, Option.some.injEq, Addr.mk.injEq] at hv
   obtain ⟨⟨rfl, rfl, _⟩, _, _⟩ := hv
   rw [Nat.zero_add]
   exact World.ownsRow.frozenAt h0 p
theorem Own.nil (w : World) (B : Nat) (e : TypeId) (m : Nat) (F : Nat → Int) : Own w B e m 0 F (.slice none 0 0) := ⟨by rw [vals_length], Or.inl ⟨rfl, rfl⟩⟩
theorem Own.later {w w' : World} {B : Nat} {e : TypeId} {m n : Nat} {F : Nat → Int} {v : Value} (h : Own w B e m n F v) (hb : Below w.heap.size w w') : Own w' B e m n F v := by
 refine ⟨h.1, ?_⟩
 rcases h.2 with q | ⟨g, cap, cur, rfl, hg, hw, r⟩
 ·exact Or.inl q
 ·exact Or.inr ⟨g, cap, cur, rfl, hg, (hb.block g (Array.getElem?_eq_some_iff.1 hw).1).trans hw, r⟩
theorem Own.alloc {w : World} {B : Nat} {e : TypeId} {m n : Nat} {F : Nat → Int} {v : Value} (h : Own w B e m n F v) (o : Obj) : Own (w.alloc o) B e m n F v := h.later (below_alloc _ _)
theorem Own.mono {w : World} {B B' : Nat} {e : TypeId} {m n : Nat} {F : Nat → Int} {v : Value} (h : Own w B e m n F v) (hB : B' ≤ B) : Own w B' e m n F v := World.ownsRow.mono h hB
theorem Own.form {w : World} {B : Nat} {e : TypeId} {m n : Nat} {F : Nat → Int} {v : Value} (h : Own w B e m n F v) : ∃ ao cp, v = .slice ao n cp := h.row.1.form
theorem row_cells {w : World} {B m n : Nat} {F : Nat → Int} {a : Addr} {cp : Nat} (h : Row w B m n F (.slice (some a) n cp)) : ∀ j u, (vals F (n * m))[j]? = some u → w.cell? (a.add j) = some u := by
 intro j u hu
 obtain ⟨hj, rfl⟩ := vals_inv hu
 obtain ⟨ao, cp', hv, h⟩ := h
 have hn : 0 < n := Nat.pos_of_ne_zero (fun e => by rw [e, Nat.zero_mul] at hj; omega)
 obtain ⟨g, o, rfl, _, _, hc⟩ := h hn
 simp only [Value.slice.injEq, Option.some.injEq] at hv
 obtain ⟨rfl, _⟩ := hv
 rw [WideShapes.add_plain]
 exact hc j hj
theorem below_grownBy {B : Nat} {w x x' : World} {row : Option Nat} (h : Below B w x) (hB : B ≤ x.heap.size) (hr : ∀ b, row = some b → B ≤ b) (g : x.grownBy x' row) : Below B w x' :=
 ⟨g.os.trans h.os, g.tape.trans h.tape, g.output.trans h.output, Nat.le_trans h.size g.size, fun i hi => (g.block i (by omega) (by intro e; have := hr i e.symm; omega)).trans (h.block i hi)⟩
theorem own_empty (w : World) (e : TypeId) (m : Nat) : (w.alloc (.cells #[] e)).ownsRow w.heap.size e m (.slice (some ⟨w.heap.size, 0, none⟩) 0 0) 0 [] :=
 ⟨by simp, Or.inr ⟨w.heap.size, 0, #[], rfl, Nat.le_refl _, (MapKept.heap_alloc w _).1, Nat.le_refl _, Nat.zero_le _, by simp, by simp⟩⟩
theorem infoz_Lock : (Tryz.prog.info? 40).map (fun i => (i.zero, i.size, i.bytes)) = some (some (.agg #[.int .i64 0, .int .i64 0, .int .i64 0, .int .i64 0, .int .i64 0]), 5, 40) := by kernel_rfl
set_option maxRecDepth 100000 in
theorem cloneLocks_any (n : Nat) (F : Nat → Int) (v : Value) (B : Nat) (w : World) (h : Row w B 5 n F v) (hn : n ≤ 1048576) :
  Calls Tryz.prog 75 #[v] w fun e w' => ∃ v', e = .returned v' ∧ Own w' w.heap.size 40 5 n F v' ∧ Below w.heap.size w w' := by
 obtain ⟨ao, cp, rfl⟩ := h.form
 cases ao with
 | none =>
  have e0 : n = 0 := by
   rcases Nat.eq_zero_or_pos n with e | e
   ·exact e
   ·obtain ⟨ao, cp', hv, h⟩ := h
    obtain ⟨g, o, rfl, _⟩ := h e
    simp at hv
  subst e0
  clear h
  have he : ∀ w : World, (binOp .eql 25 (.slice none 0 cp) (.slice none 0 0)).run Tryz.prog w = .ok (.bool true) w := fun _ => rfl
  go_enter Tryz.func75, Tryz.ntmps75
  go_wp2
  go_ret
  exact ⟨_, rfl, Own.nil _ _ _ _ _, Below.refl _ _⟩
 | some a =>
  have H : Hid (Row w B 5 n F (.slice (some a) n cp)) := h
  clear h
  have he : ∀ w : World, (binOp .eql 25 (.slice (some a) n cp) (.slice none 0 0)).run Tryz.prog w = .ok (.bool false) w := fun _ => rfl
  obtain ⟨i0, hi, hz0, hz1, hz2⟩ := info_parts infoz_Lock
  go_enter Tryz.func75, Tryz.ntmps75
  go_wp2_with (at_builtin; refine wpList_append_own _ rfl _ _ 25 rfl w.heap.size 40 i0 (.agg #[.int .i64 0, .int .i64 0, .int .i64 0, .int .i64 0, .int .i64 0]) 5 40 Tryz.underlying25 hi hz0 hz1 hz2 rfl (by decide) _ 0 [] rfl (own_empty w 40 5) a n cp (vals F (n * 5)) rfl (vals_length _ _) (row_cells (H.out.alloc _)) (vals_one _ _) ?c3 ?c4 ?c5 ?_)
  case c3 => unfold maxLen; omega
  case c4 => omega
  case c5 => simp
  intro v' w1 ho hg _
  go_wp2
  go_ret
  refine ⟨v', rfl, ?_, below_grownBy (below_alloc w _) (by simp) (fun b hb => by simp [Value.ownBlock] at hb; omega) hg⟩
  simpa [Own] using ho
theorem infoz_Write : (Tryz.prog.info? 55).map (fun i => (i.zero, i.size, i.bytes)) = some (some (.agg #[.int .i64 0, .int .i64 0, .int .i64 0, .int .i64 0]), 4, 32) := by kernel_rfl
set_option maxRecDepth 100000 in
theorem cloneWrites_any (n : Nat) (F : Nat → Int) (v : Value) (B : Nat) (w : World) (h : Row w B 4 n F v) (hn : n ≤ 1048576) :
  Calls Tryz.prog 76 #[v] w fun e w' => ∃ v', e = .returned v' ∧ Own w' w.heap.size 55 4 n F v' ∧ Below w.heap.size w w' := by
 obtain ⟨ao, cp, rfl⟩ := h.form
 cases ao with
 | none =>
  have e0 : n = 0 := by
   rcases Nat.eq_zero_or_pos n with e | e
   ·exact e
   ·obtain ⟨ao, cp', hv, h⟩ := h
    obtain ⟨g, o, rfl, _⟩ := h e
    simp at hv
  subst e0
  clear h
  have he : ∀ w : World, (binOp .eql 26 (.slice none 0 cp) (.slice none 0 0)).run Tryz.prog w = .ok (.bool true) w := fun _ => rfl
  go_enter Tryz.func76, Tryz.ntmps76
  go_wp2
  go_ret
  exact ⟨_, rfl, Own.nil _ _ _ _ _, Below.refl _ _⟩
 | some a =>
  have H : Hid (Row w B 4 n F (.slice (some a) n cp)) := h
  clear h
  have he : ∀ w : World, (binOp .eql 26 (.slice (some a) n cp) (.slice none 0 0)).run Tryz.prog w = .ok (.bool false) w := fun _ => rfl
  obtain ⟨i0, hi, hz0, hz1, hz2⟩ := info_parts infoz_Write
  go_enter Tryz.func76, Tryz.ntmps76
  go_wp2_with (at_builtin; refine wpList_append_own _ rfl _ _ 26 rfl w.heap.size 55 i0 (.agg #[.int .i64 0, .int .i64 0, .int .i64 0, .int .i64 0]) 4 32 Tryz.underlying26 hi hz0 hz1 hz2 rfl (by decide) _ 0 [] rfl (own_empty w 55 4) a n cp (vals F (n * 4)) rfl (vals_length _ _) (row_cells (H.out.alloc _)) (vals_one _ _) ?c3 ?c4 ?c5 ?_)
  case c3 => unfold maxLen; omega
  case c4 => omega
  case c5 => simp
  intro v' w1 ho hg _
  go_wp2
  go_ret
  refine ⟨v', rfl, ?_, below_grownBy (below_alloc w _) (by simp) (fun b hb => by simp [Value.ownBlock] at hb; omega) hg⟩
  simpa [Own] using ho
/-- A row of structs of m numbers that a call has made, as a list of numbers. -/
def OwnM (w : World) (B : Nat) (e : TypeId) (m : Nat) (v : Value) (n : Nat) (L : List Int) : Prop := w.ownsRow B e m v n (L.map (Value.int .i64))
theorem vals_listM (L : List Int) : vals (fun p => L.getD p 0) L.length = L.map (Value.int .i64) := by
 apply List.ext_getElem?
 intro p
 rcases Nat.lt_or_ge p L.length with h | h
 ·rw [vals_at _ _ _ h]
  simp [h]
 ·rw [List.getElem?_eq_none (by rw [vals_length]; exact h), List.getElem?_eq_none (by simpa using h)]
theorem OwnM.own {w : World} {B : Nat} {e : TypeId} {m : Nat} {v : Value} {n : Nat} {L : List Int} (h : OwnM w B e m v n L) (hl : L.length = n * m) : Own w B e m n (fun p => L.getD p 0) v := by
 unfold Own
 rw [← hl, vals_listM]
 exact h
theorem OwnM.kept {w w' : World} {B : Nat} {e : TypeId} {m : Nat} {v : Value} {n : Nat} {L : List Int} (h : OwnM w B e m v n L) (hb : ∀ g, B ≤ g → g < w.heap.size → w'.heap[g]? = w.heap[g]?) : OwnM w' B e m v n L := by
 refine ⟨h.1, ?_⟩
 rcases h.2 with q | ⟨g, cap, cur, rfl, hg, hw, r⟩
 ·exact Or.inl q
 ·exact Or.inr ⟨g, cap, cur, rfl, hg, (hb g hg (Array.getElem?_eq_some_iff.1 hw).1).trans hw, r⟩
theorem OwnM.later {w w' : World} {B : Nat} {e : TypeId} {m : Nat} {v : Value} {n : Nat} {L : List Int} (h : OwnM w B e m v n L) (hb : Below w.heap.size w w') : OwnM w' B e m v n L := h.kept (fun g _ hg => hb.block g hg)
theorem OwnM.far {w : World} {B : Nat} {e : TypeId} {m : Nat} {v : Value} {n : Nat} {L : List Int} (h : OwnM w B e m v n L) {a : Addr} (ha : a.block < B) (u : Value) : OwnM (w.setCell a u) B e m v n L := h.kept (fun g hg _ => Below.heap_setCell w a u g (by omega))
theorem OwnM.nil (w : World) (B : Nat) (e : TypeId) (m : Nat) : OwnM w B e m (.slice none 0 0) 0 [] := ⟨by simp, Or.inl ⟨rfl, rfl⟩⟩
theorem OwnM.form {w : World} {B : Nat} {e : TypeId} {m : Nat} {v : Value} {n : Nat} {L : List Int} (h : OwnM w B e m v n L) : ∃ ao cp, v = .slice ao n cp := by
 rcases h.2 with ⟨rfl, rfl⟩ | ⟨g, cap, cur, rfl, _⟩
 ·exact ⟨_, _, rfl⟩
 ·exact ⟨_, _, rfl⟩
theorem OwnM.block {w : World} {B : Nat} {e : TypeId} {m : Nat} {v : Value} {n : Nat} {L : List Int} (h : OwnM w B e m v n L) : ∀ k, v.ownBlock = some k → B ≤ k ∧ k < w.heap.size := by
 intro k hk
 rcases h.2 with ⟨rfl, _⟩ | ⟨g, cap, cur, rfl, hg, hw, _⟩
 ·simp [Value.ownBlock] at hk
 ·simp [Value.ownBlock] at hk
  subst hk
  exact ⟨hg, (Array.getElem?_eq_some_iff.1 hw).1⟩
end Go.Proofs.YtiadbiiiikhfaaaGreatDoor

namespace Go.Proofs.YtiadbiiiikhfaaaGreatDoor
open Go.RowKit

/-- A row that a call has made and has done with: its block lies from lo on below hi. -/
def Done (x : World) (lo hi m n : Nat) (F : Nat → Int) (u : Value) : Prop := (Row x lo m n F u ∧ Free x (n * m) u) ∧ (0 < n → ∀ k, u.ownBlock = some k → k < hi)
theorem OwnM.done {w : World} {B : Nat} {e : TypeId} {m : Nat} {v : Value} {n : Nat} {L : List Int} (h : OwnM w B e m v n L) (hl : L.length = n * m) : Done w B w.heap.size m n (fun p => L.getD p 0) v := ⟨(h.own hl).row, fun _ k hk => (h.block k hk).2⟩
theorem Done.within {x x' : World} {lo hi m n B E : Nat} {F : Nat → Int} {u : Value} (h : Done x lo hi m n F u) (hw : Within B E x x') (hB : hi ≤ B) : Done x' lo hi m n F u :=
 ⟨⟨h.1.1.within hw (fun h0 k hk => Or.inl (Nat.lt_of_lt_of_le (h.2 h0 k hk) hB)), h.1.2.within h.1.1 hw (fun h0 k hk => Or.inl (Nat.lt_of_lt_of_le (h.2 h0 k hk) hB))⟩, h.2⟩
theorem Done.later {x x' : World} {lo hi m n : Nat} {F : Nat → Int} {u : Value} (h : Done x lo hi m n F u) (hb : Below x.heap.size x x') : Done x' lo hi m n F u := h.within (Within.grow (B := hi) (E := hi) hb) (Nat.le_refl _)
theorem Done.far {x : World} {lo hi m n : Nat} {F : Nat → Int} {u : Value} (h : Done x lo hi m n F u) {a : Addr} (ha : a.block < lo) (v : Value) : Done (x.setCell a v) lo hi m n F u := ⟨⟨h.1.1.far (Or.inl ha) v, h.1.2.far a v⟩, h.2⟩
theorem Done.mono {x : World} {lo hi lo' hi' m n : Nat} {F : Nat → Int} {u : Value} (h : Done x lo hi m n F u) (h1 : lo' ≤ lo) (h2 : hi ≤ hi') : Done x lo' hi' m n F u := ⟨⟨h.1.1.mono h1, h.1.2⟩, fun h0 k hk => Nat.lt_of_lt_of_le (h.2 h0 k hk) h2⟩
/-- A new store, its rows in three blocks. -/
def NewSto (w : World) (R : Sto) (e : Ending) (w' : World) : Prop := ∃ a0 c0 a1 c1 a2 c2, e = .returned (.agg #[.slice a0 R.nc c0, .slice a1 R.nl c1, .slice a2 R.nw c2]) ∧ (St w' w.heap.size R (.slice a0 R.nc c0) (.slice a1 R.nl c1) (.slice a2 R.nw c2) ∧ FreeS w' R (.slice a0 R.nc c0) (.slice a1 R.nl c1) (.slice a2 R.nw c2) ∧ ApartD R (.slice a0 R.nc c0) (.slice a1 R.nl c1) (.slice a2 R.nw c2)) ∧ Below w.heap.size w w'
def emptyS : Sto := ⟨0, fun _ => 0, 0, fun _ => 0, 0, fun _ => 0⟩
theorem row_none0 (w : World) (B m : Nat) (F : Nat → Int) : Row w B m 0 F (.slice none 0 0) ∧ Free w (0 * m) (.slice none 0 0) := ⟨⟨_, _, rfl, fun q => absurd q (Nat.lt_irrefl 0)⟩, by rw [Nat.zero_mul]; exact Free.of0 _ _⟩
theorem empty_sto (w : World) (B : Nat) : St w B emptyS (.slice none 0 0) (.slice none 0 0) (.slice none 0 0) ∧ FreeS w emptyS (.slice none 0 0) (.slice none 0 0) (.slice none 0 0) ∧ ApartD emptyS (.slice none 0 0) (.slice none 0 0) (.slice none 0 0) :=
 ⟨⟨(row_none0 w B 3 _).1, (row_none0 w B 5 _).1, (row_none0 w B 4 _).1⟩, ⟨(row_none0 w B 3 (fun _ => 0)).2, (row_none0 w B 5 (fun _ => 0)).2, (row_none0 w B 4 (fun _ => 0)).2⟩, fun q => absurd q (Nat.lt_irrefl 0), fun q => absurd q (Nat.lt_irrefl 0), fun q => absurd q (Nat.lt_irrefl 0)⟩
/-- A call that has its store (the first block) and its answer, a code and a store (the second). -/
def CallSto (w : World) (B : Nat) (S : Sto) (v0 v1 v2 : Value) (x : World) : Prop := Blk3 x w.heap.size v0 v1 v2 ∧ Blk4 x (w.heap.size + 1) (.int .i64 0) (.slice none 0 0) (.slice none 0 0) (.slice none 0 0) ∧ St x B S v0 v1 v2 ∧ Below w.heap.size w x
theorem CallSto.later {w x x' : World} {B : Nat} {S : Sto} {v0 v1 v2 : Value} (h : CallSto w B S v0 v1 v2 x) (hb : Below x.heap.size x x') : CallSto w B S v0 v1 v2 x' := ⟨h.1.later hb, h.2.1.later hb, h.2.2.1.later hb, h.2.2.2.trans (hb.mono h.2.2.2.size)⟩
theorem CallSto.new {w : World} {B : Nat} {S : Sto} {v0 v1 v2 : Value} (h : St w B S v0 v1 v2) (t t' : TypeId) : CallSto w B S v0 v1 v2 ((w.alloc (.cells #[v0, v1, v2] t)).alloc (.cells #[.int .i64 0, .slice none 0 0, .slice none 0 0, .slice none 0 0] t')) := by
 have h4 := Blk4.new (w.alloc (.cells #[v0, v1, v2] t)) (.int .i64 0) (.slice none 0 0) (.slice none 0 0) (.slice none 0 0) t'
 rw [World.size_alloc] at h4
 exact ⟨(Blk3.new w _ _ _ _).alloc _, h4, (h.alloc _).alloc _, (below_alloc _ _).alloc (by simp) _⟩
/-- A time. -/
def isT (safe : Int) : Prop := 1 ≤ safe ∧ safe ≤ 100000
end Go.Proofs.YtiadbiiiikhfaaaGreatDoor

