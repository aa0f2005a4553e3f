/-
  Own text. What is asked first, by the program (askFault) and by the model (l2Asked): the store's fault, then the key's.
-/
import Derived.Test.YtjhloobjbbdmcajGreatDoorColsK
import Derived.Test.YtjhloobjbbdmcajGreatDoorColsY
import Derived.Test.YtjhloobjbbdmcajGreatDoorStorP
import Derived.Test.YtjhloobjbbdmcajGreatDoorStorQ
namespace Go.Proofs.YtjhloobjbbdmcajGreatDoor
open Go.RowKit

theorem ask_bad {S : Sto} {key : Int} (h : storeF S ≠ 0) : askF S key = storeF S := by unfold askF; rw [if_pos h]
theorem ask_key {S : Sto} {key : Int} (h : storeF S = 0) : askF S key = faultOf key := by unfold askF; rw [if_neg (fun q => q h)]
/-- What a function over a store stands on: its own copy of the store, and its result. -/
def CallEnv (w : World) (B : Nat) (S : Sto) (v0 v1 v2 r0 r1 : Value) (x : World) : Prop := Blk3 x w.heap.size v0 v1 v2 ∧ Blk2 x (w.heap.size + 1) r0 r1 ∧ St x B S v0 v1 v2 ∧ Below w.heap.size w x
theorem CallEnv.later {w x x' : World} {B : Nat} {S : Sto} {v0 v1 v2 r0 r1 : Value} (h : CallEnv w B S v0 v1 v2 r0 r1 x) (hb : Below x.heap.size x x') : CallEnv w B S v0 v1 v2 r0 r1 x' :=
  ⟨h.1.later hb, h.2.1.later hb, h.2.2.1.later hb, h.2.2.2.trans (hb.mono h.2.2.2.size)⟩
theorem CallEnv.new {w : World} {B : Nat} {S : Sto} {v0 v1 v2 : Value} (h : St w B S v0 v1 v2) (r0 r1 : Value) (t t' : TypeId) : CallEnv w B S v0 v1 v2 r0 r1 ((w.alloc (.cells #[v0, v1, v2] t)).alloc (.cells #[r0, r1] t')) := by
  refine ⟨(Blk3.new w _ _ _ _).alloc _, ?_, (h.alloc _).alloc _, (below_alloc _ _).alloc (by simp) _⟩
  have := Blk2.new (w.alloc (.cells #[v0, v1, v2] t)) r0 r1 t'
  rwa [World.size_alloc] at this
end Go.Proofs.YtjhloobjbbdmcajGreatDoor
