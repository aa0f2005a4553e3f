/-
  Own text. A law for 'for x := range seq { .. }' where the iterator keeps a struct of its own in memory, of a type T that the caller's body never writes: the caller's word stands whatever the iterator stores there.
-/
import Derived.RangeFuncNested
import Derived.RangeFuncBound
import Derived.RangeFuncCalls
import Derived.RangeFuncLeaves
import Derived.Shelf.Abstract
import Derived.Shelf.RegionOpen
import Derived.WalkKit
import Derived.OwnWalkIn
import Derived.TacticsInMore
import Derived.LoopNIn
import Derived.LoopIn
import Derived.Maps.AppendAt
import Derived.Test.YtbljhkhpfhphgaaRows
namespace Go.Proofs.Ytbljhkhpfhphgaa
open Go.RowKit Go.Shelf

/-- Cells of a type. -/
def OfT (T : TypeId) (o : Obj) : Prop := ∃ cs m, o = .cells cs T m
/-- A word on the world stands where one block beyond B is turned that X holds of. -/
def Stands {β : Type} (X : Obj → Prop) (B : Nat) (J : β → World → Prop) : Prop :=
  ∀ s W W' row, J s W → W.grownBy W' row → (∀ r, row = some r → B ≤ r ∧ ∃ o : Obj, W.heap[r]? = some o ∧ X o) → J s W'
theorem Stands.put {β : Type} {X : Obj → Prop} {B : Nat} {J : β → World → Prop} (h : Stands X B J) {s : β} {W : World} {l : Nat} {o : Obj} (o' : Obj) (hs : J s W) (hB : B ≤ l) (hl : W.heap[l]? = some o) (ho : X o) : J s (W.putObj l o') :=
  h s W _ (some l) hs (grownBy_putObj' W l o') (fun r e => by cases e; exact ⟨hB, o, hl, ho⟩)
theorem Stands.alloc {β : Type} {X : Obj → Prop} {B : Nat} {J : β → World → Prop} (h : Stands X B J) {s : β} {W : World} (o : Obj) (hs : J s W) : J s (W.alloc o) :=
  h s W _ none hs (World.grownBy_alloc W o none) (fun r e => by cases e)

/-- What an iterator does for every loop body that keeps Kp: it hands the body one value behind the other; S: all have come; Sp: so many, and the body said 'no more'. -/
def Tells {α : Type} (P : Program) (g : Nat) (lb : Array Value) (enc : α → Value) (T : TypeId) (Kp : World → World → Prop) (S Sp : List α → Prop) (N n : Nat) (w : World) : Prop :=
  ∀ (l : Nat) (J Jx : List α → World → Prop) (W : World), Below w.heap.size w W → Stands (OfT T) W.heap.size J →
    (∀ pre x W1, J pre W1 → pre.length < N → YieldAt Fence.wide (n - 1) P l #[enc x] W1 fun e W' => (e = .returned (.bool true) ∧ J (pre ++ [x]) W' ∧ Kp W1 W') ∨ (e = .returned (.bool false) ∧ Jx (pre ++ [x]) W')) →
    J [] W → CallsIn Fence.wide n P g (#[.func (.yield l) #[] #[]] ++ lb) W fun e W' => (∃ v, e = .returned v) ∧ ((∃ xs, S xs ∧ J xs W') ∨ (∃ pre, Sp pre ∧ Jx pre W'))

/-- How a round may end: it goes on, or it returns. -/
def Ends {α : Type} (B : Nat) (Kp : World → World → Prop) (I Ix : List α → World → Prop) (xs : List α) (W : World) : Exit → Act → World → Prop
  | .normal, _, W' => KeepsFrom B W W' ∧ Kp W W' ∧ I xs W'
  | .ret, _, W' => KeepsFrom B W W' ∧ Ix xs W'
  | _, _, _ => False

variable {n : Nat} {P : Program}
theorem wpIn_range_told {α : Type} {g : Operand} {p : Tmp} {assign body : Code} {Q : Exit → Act → World → Prop} {a : Act} {w : World}
    (h1 : 1 ≤ n) {gf : Nat} {lb : Array Value} (hg : a.eval g = .func (.func gf) #[] lb) (eg : ∀ args w, (callFunc gf args).run P w = .ok (.enter gf args) w)
    {enc : α → Value} {T : TypeId} {Kp : World → World → Prop} {S Sp : List α → Prop} {N : Nat} {w0 : World} (hseq : Tells P gf lb enc T Kp S Sp N (n - 1) w0)
    (hKt : ∀ {A B C : World}, Kp A B → Kp B C → Kp A C) (hKb : ∀ (W : World) (l : Nat) (o o' : Obj), W.heap[l]? = some o → o.isCells = false → Kp W (W.putObj l o')) (hb0 : Below w0.heap.size w0 w)
    (I Ix : List α → World → Prop) (hI : Stands (fun o => o.isCells = false ∨ OfT T o) w.heap.size I) (hIx : Stands (fun o => o.isCells = false) w.heap.size Ix) (h0 : I [] w)
    (Ax : α → Act → World → Prop) (hAx : ∀ x a', Stands (fun o => o.isCells = false) w.heap.size (fun (_ : Unit) W => Ax x a' W))
    (hassign : ∀ (l : Nat) (pre : List α) (x : α) (W : World) (K : Act → World → Prop), I pre W → (∀ a' W', KeepsFrom w.heap.size W W' → Kp W W' → I pre W' → Ax x a' W' → K a' W') →
      assign.wpIn (Fence.wide.inRound l) (n - 1 - 1) P (Exit.then K (fun _ _ _ => False)) { tmps := a.tmps.setIfInBounds p (enc x), defers := [] } W)
    (hbody : ∀ (l : Nat) (pre : List α) (x : α) (a' : Act) (W : World), I pre W → Ax x a' W → pre.length < N → body.wpIn (Fence.wide.inRound l) (n - 1 - 1) P (Ends w.heap.size Kp I Ix (pre ++ [x]) W) a' W)
    (hdone : ∀ (D : Nat) (xs : List α) (W : World), w.heap.size ≤ D → S xs → I xs W → W.heap[D]? = some (.deferred (some [])) → Q .normal { a with defers := { target := .collected D, args := #[] } :: a.defers } W)
    (hstop : ∀ (D : Nat) (pre : List α) (W : World), w.heap.size ≤ D → Sp pre → Ix pre W → W.heap[D]? = some (.deferred (some [])) → Code.ret.wpIn Fence.wide n P Q { a with defers := { target := .collected D, args := #[] } :: a.defers } W) :
    (Code.rangeFunc g #[p] assign body).wpIn Fence.wide n P Q a w := by
  refine wpIn_rangeFunc fun fn hfn => ?_
  -- the loop's record, in a state and with a pending jump; its block and the block for deferred calls
  obtain ⟨L, hL⟩ : ∃ L : LoopState → Option Code → Obj, ∀ st pe, L st pe = .loop { state := st, pending := pe, fn, tmps := a.tmps, params := #[p], assign, body, defers := w.heap.size } := ⟨_, fun _ _ => rfl⟩
  let Bk : LoopState → Option Code → World → Prop := fun st pe W => W.heap[w.heap.size + 1]? = some (L st pe) ∧ W.heap[w.heap.size]? = some (.deferred (some []))
  have nc : ∀ st pe, (L st pe).isCells = false := fun st pe => by rw [hL]; rfl
  have put : ∀ {st pe st' pe' W}, Bk st pe W → Bk st' pe' (W.putObj (w.heap.size + 1) (L st' pe')) := fun {st pe st' pe' W} h =>
    ⟨World.putObj_heap_same (Array.getElem?_eq_some_iff.1 h.1).1, (World.putObj_heap_other (by omega)).trans h.2⟩
  have turn : ∀ {st pe W W' row}, Bk st pe W → World.grownBy W W' row → (∀ r, row = some r → ∃ o : Obj, W.heap[r]? = some o ∧ o.isCells = true) → Bk st pe W' := fun {st pe W W' row} h hgr hr => by
    have far : ∀ (k : Nat) (o : Obj), W.heap[k]? = some o → o.isCells = false → W'.heap[k]? = some o := fun k o hk ho =>
      (hgr.block k (Array.getElem?_eq_some_iff.1 hk).1 (fun e => by
        obtain ⟨o', h1, h2⟩ := hr k e.symm
        rw [hk] at h1; cases h1; rw [ho] at h2; cases h2)).trans hk
    exact ⟨far _ _ h.1 (nc st pe), far _ _ h.2 rfl⟩
  obtain ⟨W1, hW1⟩ : ∃ W1, (w.alloc (.deferred (some []))).alloc (L .ready none) = W1 := ⟨_, rfl⟩
  have k1 : Bk .ready none W1 := by
    rw [← hW1]
    refine ⟨?_, (Below.heap_alloc _ _ _ (by simp)).trans (World.alloc_heap_new w _)⟩
    have := World.alloc_heap_new (w.alloc (.deferred (some []))) (L .ready none)
    rwa [World.size_alloc] at this
  have hlen1 : w.heap.size ≤ W1.heap.size := by rw [← hW1]; simp; omega
  refine ⟨w.heap.size + 1, [{ target := .collected w.heap.size, args := #[] }], W1, { target := .fn (.func gf) lb, args := #[.func (.yield (w.heap.size + 1)) #[] #[]] }, W1, gf, #[.func (.yield (w.heap.size + 1)) #[] #[]] ++ lb, W1, ?_, ?_, ?_, ?_, fun _ => h1, ?_⟩
  · rw [← hW1, hL]; exact run_enterLoop_outer _ _ _ _ _
  · simp only [resolve, hg]
    simp [go_sem]
  · intro f' _; trivial
  · simp [invoke, go_sem, eg]
  refine (hseq (w.heap.size + 1) (fun pre W => I pre W ∧ Bk .ready none W) (fun pre W => Ix pre W ∧ Bk .done (some .ret) W) W1 ?_ ?_ ?_ ⟨?_, k1⟩).mono ?_
  · rw [← hW1]; exact hb0.trans ((((Below.refl _ w).alloc (Nat.le_refl _) _).alloc (by simp) _).mono hb0.size)
  · rintro s A B row ⟨hs, hk⟩ hgr hr
    exact ⟨hI s A B row hs hgr (fun r e => ⟨Nat.le_trans hlen1 (hr r e).1, by obtain ⟨_, o, ho, hT⟩ := hr r e; exact ⟨o, ho, Or.inr hT⟩⟩),
      turn hk hgr (fun r e => by obtain ⟨_, o, ho, cs, m, rfl⟩ := hr r e; exact ⟨_, ho, rfl⟩)⟩
  · rintro pre x W ⟨hi, hk⟩ hlen
    have hl := hk.1
    rw [hL] at hl
    have hy := run_yield (P := P) (args := #[enc x]) hl rfl
    refine ⟨fn, _, assign, body, hy, roundIn_of_wpIn hfn ?_⟩
    have e0 : (Array.zip #[p] #[enc x]).foldl (fun t (q, v) => t.setIfInBounds q v) a.tmps = a.tmps.setIfInBounds p (enc x) := by simp
    dsimp only
    rw [e0]
    refine hassign _ pre x W _ hi fun a' Wa kf kp hia hax => ?_
    have hka : Bk .ready none Wa := ⟨kf.same _ _ (by omega) hk.1 (nc _ _), kf.same _ _ (Nat.le_refl _) hk.2 rfl⟩
    have hla := hka.1
    rw [hL] at hla
    refine ⟨_, run_beginRound hla rfl, ?_⟩
    dsimp only
    rw [← hL .busy none]
    refine wpIn_mono (hbody _ pre x a' _ (hI.put _ hia (by omega) hka.1 (Or.inl (nc _ _))) ((hAx x a').put (s := ()) _ hax (by omega) hka.1 (nc _ _)) hlen) ?_
    have busy : Bk .busy none (Wa.putObj (w.heap.size + 1) (L .busy none)) := put hka
    have kb := hKb Wa _ _ (L .busy none) hka.1 (nc _ _)
    intro e a3 W3 hp
    cases e with
    | normal =>
      obtain ⟨kf3, kp3, hi3⟩ := hp
      have hk3 : Bk .busy none W3 := ⟨kf3.same _ _ (by omega) busy.1 (nc _ _), kf3.same _ _ (Nat.le_refl _) busy.2 rfl⟩
      have hl3 := hk3.1
      rw [hL] at hl3
      have hr := run_endRound (P := P) none hl3
      refine ⟨_, _, hr, .inl ⟨rfl, ⟨?_, ?_⟩, ?_⟩⟩
      · exact hI.put _ hi3 (by omega) hk3.1 (Or.inl (nc _ _))
      · have := put (st' := .ready) (pe' := none) hk3
        rw [hL] at this
        exact this
      · exact hKt kp (hKt kb (hKt kp3 (hKb _ _ _ _ hk3.1 (nc _ _))))
    | ret =>
      obtain ⟨kf3, hi3⟩ := hp
      have hk3 : Bk .busy none W3 := ⟨kf3.same _ _ (by omega) busy.1 (nc _ _), kf3.same _ _ (Nat.le_refl _) busy.2 rfl⟩
      have hl3 := hk3.1
      rw [hL] at hl3
      have hr := run_endRound (P := P) (some .ret) hl3
      refine ⟨_, _, hr, .inr ⟨rfl, ?_, ?_⟩⟩
      · exact hIx.put _ hi3 (by omega) hk3.1 (nc _ _)
      · have := put (st' := .done) (pe' := some .ret) hk3
        rw [hL] at this
        exact this
    | exit id => exact hp.elim
    | goto t => exact hp.elim
    | panic ch => exact hp.elim
    | outgrown => exact hp.elim
  · rw [← hW1]; exact hI.alloc _ (hI.alloc _ h0)
  · rintro e W2 ⟨⟨v, rfl⟩, (⟨xs, hS, hi, hk⟩ | ⟨pre, hSp, hi, hk⟩)⟩
    · have hl := hk.1
      rw [hL] at hl
      exact ⟨none, _, run_endLoop (P := P) hl (by simp), hdone _ xs _ (Nat.le_refl _) hS (hI.put _ hi (by omega) hk.1 (Or.inl (nc _ _))) ((World.putObj_heap_other (by omega)).trans hk.2)⟩
    · have hl := hk.1
      rw [hL] at hl
      exact ⟨some .ret, _, run_endLoop (P := P) hl (by simp), hstop _ pre _ (Nat.le_refl _) hSp (hIx.put _ hi (by omega) hk.1 (nc _ _)) ((World.putObj_heap_other (by omega)).trans hk.2)⟩
end Go.Proofs.Ytbljhkhpfhphgaa
