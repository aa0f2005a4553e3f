/-
  Own text. What is asked first, by the program (askFault) and by the model (l2Asked): the store's fault, then the key's.
-/
import Derived.Test.YtpfmbfmlpoibeaaGreatColsK
import Derived.Test.YtpfmbfmlpoibeaaGreatColsY
import Derived.Test.YtpfmbfmlpoibeaaGreatStorP
import Derived.Test.YtpfmbfmlpoibeaaGreatStorQ
namespace Go.Proofs.YtpfmbfmlpoibeaaGreat
open Go.RowKit

theorem ask_bad {S : Sto} {key : Int} (h : storeF S ≠ 0) : askF S key = storeF S := by unfold askF; rw [if_pos h]
theorem ask_key {S : Sto} {key : Int} (h : storeF S = 0) : askF S key = faultOf key := by unfold askF; rw [if_neg (fun q => q h)]
set_option maxRecDepth 10000 in
theorem askFault_any (S : Sto) (v0 v1 v2 : Value) (key : Int) (B : Nat) (w : World) (h : St w B S v0 v1 v2) :
    Calls Tryz.prog 32 #[.agg #[v0, v1, v2], .int .i64 key] w fun e w' => e = .returned (.int .i64 (askF S key)) ∧ Below w.heap.size w w' := by
  obtain ⟨a0, c0, a1, c1, a2, c2, rfl, rfl, rfl⟩ := h.form
  have H : Hid (St w B S (.slice a0 S.nc c0) (.slice a1 S.nl c1) (.slice a2 S.nw c2)) := h
  clear h
  by_cases hz : storeF S = 0
  · have E : Hid (askF S key = faultOf key) := ask_key hz
    have Z : Hid (storeF S = 0) := hz
    clear hz
    obtain ⟨f, hf⟩ : ∃ f, Hid (faultOf key = f) := ⟨_, rfl⟩
    go_enter Tryz.func32, Tryz.ntmps32
    go_wp2_with fail
    refine (implFault_any S _ _ _ B _ (H.out.alloc _)).mono ?_
    rw [Z.out]
    rintro e w1 ⟨rfl, q1⟩
    have Q : Hid (Below w.heap.size w w1) := (below_alloc _ _).trans (q1.mono (by simp))
    clear q1
    go_wp2_with fail
    refine (keyFault_any key _).mono ?_
    rw [hf.out]
    rintro e w2 ⟨rfl, rfl⟩
    go_wp2
    go_ret
    exact ⟨by rw [E.out, hf.out]; rfl, Q.out⟩
  · have E : Hid (askF S key = storeF S) := ask_bad hz
    obtain ⟨f, hf⟩ : ∃ f, storeF S = f := ⟨_, rfl⟩
    have HF : Hid (storeF S = f) := hf
    have hfn : (f == 0) = false := beq_eq_false_iff_ne.2 (by rw [← hf]; exact hz)
    clear hz hf
    go_enter Tryz.func32, Tryz.ntmps32
    go_wp2_with fail
    refine (implFault_any S _ _ _ B _ (H.out.alloc _)).mono ?_
    rw [HF.out]
    rintro e w1 ⟨rfl, q1⟩
    have Q : Hid (Below w.heap.size w w1) := (below_alloc _ _).trans (q1.mono (by simp))
    clear q1
    go_wp2
    go_ret
    exact ⟨by rw [E.out, HF.out]; rfl, Q.out⟩
set_option maxRecDepth 10000 in
theorem asked_any (S : Sto) (b : Nat) (v0 v1 v2 : Value) (key : Int) (w : World) (h : Lies w b S v0 v1 v2) :
    Calls Tryz.prog 186 #[.pointer (some ⟨b, 0, none⟩), .int .i64 key] w fun e w' => e = .returned (.int .i64 (askF S key)) ∧ Below w.heap.size w w' := by
  have H : Hid (Lies w b S v0 v1 v2) := h
  clear h
  by_cases hz : storeF S = 0
  · have E : Hid (askF S key = faultOf key) := ask_key hz
    have Z : Hid (storeF S = 0) := hz
    clear hz
    obtain ⟨f, hf⟩ : ∃ f, Hid (faultOf key = f) := ⟨_, rfl⟩
    go_enter Tryz.func186, Tryz.ntmps186
    go_wp2_with fail
    refine (l2Fault_any S b _ _ _ _ H.out).mono ?_
    rw [Z.out]
    rintro e w1 ⟨rfl, q1⟩
    have Q : Hid (Below w.heap.size w w1) := q1
    clear q1
    go_wp2_with fail
    refine (l1Fault_any key _).mono ?_
    rw [hf.out]
    rintro e w2 ⟨rfl, rfl⟩
    go_wp2
    go_ret
    exact ⟨by rw [E.out, hf.out]; rfl, Q.out⟩
  · have E : Hid (askF S key = storeF S) := ask_bad hz
    obtain ⟨f, hf⟩ : ∃ f, storeF S = f := ⟨_, rfl⟩
    have HF : Hid (storeF S = f) := hf
    have hfn : (f == 0) = false := beq_eq_false_iff_ne.2 (by rw [← hf]; exact hz)
    clear hz hf
    go_enter Tryz.func186, Tryz.ntmps186
    go_wp2_with fail
    refine (l2Fault_any S b _ _ _ _ H.out).mono ?_
    rw [HF.out]
    rintro e w1 ⟨rfl, q1⟩
    have Q : Hid (Below w.heap.size w w1) := q1
    clear q1
    go_wp2
    go_ret
    exact ⟨by rw [E.out, HF.out]; rfl, Q.out⟩
/-- What a function over a store stands on: its own copy of the store, and its result. -/
def CallEnv (w : World) (B : Nat) (S : Sto) (v0 v1 v2 r0 r1 : Value) (x : World) : Prop := Blk3 x w.heap.size v0 v1 v2 ∧ Blk2 x (w.heap.size + 1) r0 r1 ∧ St x B S v0 v1 v2 ∧ Below w.heap.size w x
theorem CallEnv.later {w x x' : World} {B : Nat} {S : Sto} {v0 v1 v2 r0 r1 : Value} (h : CallEnv w B S v0 v1 v2 r0 r1 x) (hb : Below x.heap.size x x') : CallEnv w B S v0 v1 v2 r0 r1 x' :=
  ⟨h.1.later hb, h.2.1.later hb, h.2.2.1.later hb, h.2.2.2.trans (hb.mono h.2.2.2.size)⟩
theorem CallEnv.new {w : World} {B : Nat} {S : Sto} {v0 v1 v2 : Value} (h : St w B S v0 v1 v2) (r0 r1 : Value) (t t' : TypeId) : CallEnv w B S v0 v1 v2 r0 r1 ((w.alloc (.cells #[v0, v1, v2] t)).alloc (.cells #[r0, r1] t')) := by
  refine ⟨(Blk3.new w _ _ _ _).alloc _, ?_, (h.alloc _).alloc _, (below_alloc _ _).alloc (by simp) _⟩
  have := Blk2.new (w.alloc (.cells #[v0, v1, v2] t)) r0 r1 t'
  rwa [World.size_alloc] at this
end Go.Proofs.YtpfmbfmlpoibeaaGreat
