/-
  Own text. Lists of whole numbers that a call made: plain facts on memory, and what the laws' helpers do with them (eqInt64S, markInt64S, heldInt64S). For every seat: no function of a key is named.
-/
import Derived.Test.YtjimckfkbkfggaaRows
import Derived.WalkKit
import Derived.WalkLawsBesides
import Derived.ProofKit
import Derived.OpenShut
import Derived.Handy
import Derived.Deep.Onto
import Derived.Laws.OwnMore
import Derived.BigQuiet
import Derived.Deep.QuietTactic
namespace Go.Proofs.Ytjimckfkbkfggaa
open Go.RowKit

theorem info_i64 : (Try.prog.info? 2).map (fun i => (i.zero, i.size, i.bytes)) = some (some (.int .i64 0), 1, 8) := by kernel_rfl
theorem ownsRow_form {w : World} {base : Nat} {e : TypeId} {size : Nat} {v : Value} {n : Nat} {xs : List Value} (h : w.ownsRow base e size v n xs) : ∃ ao cp, v = .slice ao n cp := by
  obtain ⟨_, ⟨rfl, rfl⟩ | ⟨g, cap, cur, rfl, _⟩⟩ := h
  · exact ⟨_, _, rfl⟩
  · exact ⟨_, _, rfl⟩
/-- A list of whole numbers that the call made, in new memory. -/
def Ints (w : World) (base : Nat) (v : Value) (xs : List Int) : Prop := w.ownsRow base 2 1 v xs.length (xs.map (Value.int .i64))
/-- The cell at a place of a list that the call made. -/
theorem Ints.at {w : World} {B : Nat} {ao : Option Addr} {cp : Nat} {xs : List Int} (h : Ints w B (.slice ao xs.length cp) xs) {k : Nat} (hk : k < xs.length) :
    ∃ g, ao = some ⟨g, 0, none⟩ ∧ B ≤ g ∧ w.cell? ⟨g, k, none⟩ = some (.int .i64 xs[k]) ∧ w.frozen? ⟨g, k, none⟩ = false := by
  have h0 := h
  obtain ⟨_, ⟨hv, hn⟩ | ⟨g, cap, cur, hv, hg, _⟩⟩ := h
  · omega
  · simp only [Value.slice.injEq] at hv
    obtain ⟨rfl, _, rfl⟩ := hv
    refine ⟨g, rfl, hg, ?_, World.ownsRow.frozenAt h0 k⟩
    rw [World.ownsRow.cellAt h0 k (by omega)]
    simp [hk]
theorem Ints.form {w : World} {B : Nat} {v : Value} {xs : List Int} (h : Ints w B v xs) : ∃ ao cp, v = .slice ao xs.length cp := ownsRow_form h

theorem Ints.later {w w' : World} {B : Nat} {v : Value} {xs : List Int} (h : Ints w B v xs) (hb : Below w.heap.size w w') : Ints w' B v xs := by
  obtain ⟨h1, h2⟩ := h
  refine ⟨h1, ?_⟩
  rcases h2 with h2 | ⟨g, cap, cur, hv, hg, hh, r⟩
  · exact Or.inl h2
  · have hlt : g < w.heap.size := by
      rcases Nat.lt_or_ge g w.heap.size with h | h
      · exact h
      · rw [Array.getElem?_eq_none h] at hh; cases hh
    exact Or.inr ⟨g, cap, cur, hv, hg, (hb.block g hlt).trans hh, r⟩
theorem Ints.alloc {w : World} {B : Nat} {v : Value} {xs : List Int} (h : Ints w B v xs) (o : Obj) : Ints (w.alloc o) B v xs := World.ownsRow.alloc h o
theorem Ints.mono {w : World} {B B' : Nat} {v : Value} {xs : List Int} (h : Ints w B v xs) (hb : B' ≤ B) : Ints w B' v xs := World.ownsRow.mono h hb
theorem Ints.drewN {w : World} {B : Nat} {v : Value} {xs : List Int} (h : Ints w B v xs) (n : Nat) : Ints (w.drewN n) B v xs := h
theorem Ints.lt {w : World} {B : Nat} {v : Value} {xs : List Int} (h : Ints w B v xs) : ∀ k, v.ownBlock = some k → B ≤ k ∧ k < w.heap.size := World.ownsRow.lt h
theorem Ints.grown {w w' : World} {B : Nat} {v : Value} {xs : List Int} (h : Ints w B v xs) {row : Option Nat} (hg : w.grownBy w' row) (hne : ∀ k, v.ownBlock = some k → row ≠ some k) : Ints w' B v xs :=
  World.ownsRow.kept h hg (by
    cases hv : v.ownBlock with
    | none => exact Or.inl rfl
    | some k => exact Or.inr (fun e => hne k hv e.symm))
theorem Ints.nil (w : World) (B : Nat) : Ints w B (.slice none 0 0) [] := World.ownsRow_nil w B _ 1
theorem grown_refl_alloc {w : World} (o : Obj) (row : Option Nat) : w.grownBy (w.alloc o) row := ⟨rfl, rfl, rfl, by simp, fun k hk _ => Below.heap_alloc w o k hk⟩
theorem grown_trans {a b c : World} {row : Option Nat} (h : a.grownBy b row) (k : b.grownBy c row) : a.grownBy c row :=
  ⟨k.os.trans h.os, k.tape.trans h.tape, k.output.trans h.output, Nat.le_trans h.size k.size, fun i hi hne => (k.block i (Nat.lt_of_lt_of_le hi h.size) hne).trans (h.block i hi hne)⟩


/-- n numbers from k on. -/
def up (k : Int) (n : Nat) : List Int := (List.range n).map (fun j => k + (j : Nat))
theorem up_length (k : Int) (n : Nat) : (up k n).length = n := by simp [up]
theorem up_get (k : Int) (n i : Nat) (h : i < (up k n).length) : (up k n)[i] = k + i := by simp [up]
theorem up_step (k : Int) (xs : List Int) (i : Nat) (h : i < xs.length) : (up k i ++ xs.drop i).set i (k + i) = up k (i + 1) ++ xs.drop (i + 1) := by
  have e : xs.drop i = xs[i] :: xs.drop (i + 1) := List.drop_eq_getElem_cons h
  rw [e, List.set_append_right _ _ (by simp [up])]
  simp [up, List.range_succ]
  rw [e]; rfl

theorem ret_n {a b : Int} (h : a = b) : Ending.returned (.int .i64 a) = .returned (.int .i64 b) := by rw [h]
set_option maxHeartbeats 400000 in
theorem eqInts_any (va vb : Value) (Ba Bb : Nat) (xs : List Int) (w : World) (ha : Ints w Ba va xs) (hb : Ints w Bb vb xs) (hl : xs.length ≤ 1000) :
    Calls Try.prog 26 #[va, vb] w fun e w' => e = .returned (.bool true) ∧ ∃ n, w' = w.drewN n := by
  obtain ⟨ao, ca, rfl⟩ := ha.form
  obtain ⟨bo, cb, rfl⟩ := hb.form
  have HA : Hid (Ints w Ba (.slice ao xs.length ca) xs) := ha
  have HB : Hid (Ints w Bb (.slice bo xs.length cb) xs) := hb
  clear ha hb
  go_enter Try.func26, Try.ntmps26
  go_wp2
  go_loopw [5] (fun i wr => ∃ k m : Nat, k ≤ xs.length ∧ i = .int .i64 k ∧ wr = w.drewN m) (fun i _ => xs.length - (intOf i).toNat)
  case atStart => exact ⟨0, 0, Nat.zero_le _, rfl, rfl⟩
  case round =>
    obtain ⟨k, m, hk, rfl, rfl⟩ := hrel
    by_cases hlt : k < xs.length
    · obtain ⟨g, rfl, _, hc, _⟩ := HA.out.at hlt
      obtain ⟨g', rfl, _, hc', _⟩ := HB.out.at hlt
      go_wp2
      go_quiet (fail)
      go_wp2
      go_roundw
      case rel => exact ⟨k + 1, _, by omega, by go_num, rfl⟩
      case measure => simp [intOf]; omega
    · go_wp2
      go_ret
      exact ⟨rfl, _, rfl⟩

set_option maxHeartbeats 400000 in
theorem markInts_any (v : Value) (B : Nat) (xs : List Int) (k0 : Int) (w : World) (h : Ints w B v xs) (hl : xs.length ≤ 1000) (hk0 : 0 ≤ k0) (hk1 : k0 ≤ 1000000) :
    Calls Try.prog 28 #[v, .int .i64 k0] w fun e w' => e = .returned (.int .i64 (k0 + xs.length)) ∧ Ints w' B v (up k0 xs.length) ∧ w.grownBy w' v.ownBlock := by
  obtain ⟨ao, ca, rfl⟩ := h.form
  have H0 : Hid (Ints w B (.slice ao xs.length ca) xs) := h
  clear h
  go_enter Try.func28, Try.ntmps28
  go_wp2
  go_loopw [1, 5] (fun k i wr => ∃ n : Nat, n ≤ xs.length ∧ i = .int .i64 n ∧ k = .int .i64 (k0 + n) ∧ Hid (wr.ownsRow B 2 1 (.slice ao xs.length ca) xs.length ((up k0 n ++ xs.drop n).map (Value.int .i64)) ∧ w.grownBy wr (Value.slice ao xs.length ca).ownBlock)) (fun _ i _ => xs.length - (intOf i).toNat)
  case atStart => exact ⟨0, Nat.zero_le _, rfl, by go_num, H0.out, ⟨rfl, rfl, rfl, Nat.le_refl _, fun _ _ _ => rfl⟩⟩
  case round =>
    obtain ⟨n, hn, rfl, rfl, hR⟩ := hrel
    by_cases hlt : n < xs.length
    · have hlen : (up k0 n ++ xs.drop n).length = xs.length := by simp [up]; omega
      have hI : Ints wr B (.slice ao (up k0 n ++ xs.drop n).length ca) (up k0 n ++ xs.drop n) := by unfold Ints; rw [hlen]; exact hR.out.1
      obtain ⟨g, rfl, _, hcx, hf⟩ := hI.at (k := n) (by omega)
      obtain ⟨u, hc⟩ : ∃ u, wr.cell? ⟨g, n, none⟩ = some u := ⟨_, hcx⟩
      clear hcx
      have hst := World.ownsRow.stored hR.out.1 n (.int .i64 (k0 + n))
      have hset : ((up k0 n ++ xs.drop n).map (Value.int .i64)).set n (.int .i64 (k0 + n)) = (up k0 (n + 1) ++ xs.drop (n + 1)).map (Value.int .i64) := by rw [← up_step k0 xs n hlt, List.map_set]
      rw [hset] at hst
      have hgr : w.grownBy (wr.setCell ⟨g, n, none⟩ (.int .i64 (k0 + n))) (some g) :=
        ⟨hst.2.os.trans hR.out.2.os, hst.2.tape.trans hR.out.2.tape, hst.2.output.trans hR.out.2.output, Nat.le_trans hR.out.2.size hst.2.size, fun k hk hne => (hst.2.block k (Nat.lt_of_lt_of_le hk hR.out.2.size) hne).trans (hR.out.2.block k hk hne)⟩
      have HS : Hid ((wr.setCell ⟨g, n, none⟩ (.int .i64 (k0 + n))).ownsRow B 2 1 (.slice (some ⟨g, 0, none⟩) xs.length ca) xs.length ((up k0 (n + 1) ++ xs.drop (n + 1)).map (Value.int .i64)) ∧ w.grownBy (wr.setCell ⟨g, n, none⟩ (.int .i64 (k0 + n))) (some g)) := ⟨hst.1, hgr⟩
      clear hst hgr hset hI hlen hR
      go_wp2
      go_roundw
      case rel => exact ⟨n + 1, by omega, by go_num, by go_num, HS⟩
      case measure => simp [intOf]; omega
    · have e : n = xs.length := by omega
      subst e
      go_wp2
      go_ret
      refine ⟨rfl, ?_, hR.out.2⟩
      have := hR.out.1
      rw [List.drop_length, List.append_nil] at this
      unfold Ints; rw [up_length]; exact this

end Go.Proofs.Ytjimckfkbkfggaa
