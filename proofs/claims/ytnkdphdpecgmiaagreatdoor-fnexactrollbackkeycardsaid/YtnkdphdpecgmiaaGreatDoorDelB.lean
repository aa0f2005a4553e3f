/-
  Own text. slices.IndexFunc and slices.DeleteFunc over rows of structs, under what the closure tells.
-/
import Derived.Test.YtnkdphdpecgmiaaGreatDoorDelA
import Derived.Test.YtnkdphdpecgmiaaGreatDoorColsK
namespace Go.Proofs.YtnkdphdpecgmiaaGreatDoor
open Go.RowKit Go.Sort Go.Shelf Go.Lib

theorem Own.congr {x : World} {B : Nat} {e : TypeId} {m n : Nat} {F G : Nat → Int} {v : Value} (h : Own x B e m n F v) (hF : ∀ p, p < n * m → F p = G p) : Own x B e m n G v := by
  have hv : vals F (n * m) = vals G (n * m) := by
    unfold vals
    refine List.map_congr_left (fun p hp => ?_)
    rw [hF p (List.mem_range.1 hp)]
  unfold Own at *
  rw [← hv]
  exact h
/-- A row under way: the kept structs L stand first, from number j on it is as it was. -/
def Mid (x : World) (g : Nat) (e : TypeId) (m n cap : Nat) (F : Nat → Int) (L : List (List Int)) (j : Nat) : Prop :=
  Blkk x g e (cap * m) ∧ (∀ p, p < L.length * m → x.cell? ⟨g, p, none⟩ = some (.int .i64 (L.flatten.getD p 0))) ∧ ∀ p, j * m ≤ p → p < n * m → x.cell? ⟨g, p, none⟩ = some (.int .i64 (F p))
theorem Mid.kept {x x' : World} {g : Nat} {e : TypeId} {m n cap : Nat} {F : Nat → Int} {L : List (List Int)} {j : Nat} (h : Mid x g e m n cap F L j) (hb : x'.heap[g]? = x.heap[g]?) : Mid x' g e m n cap F L j :=
  ⟨h.1.kept hb, fun p hp => (World.cell?_of_block (w := x) (a := ⟨g, p, none⟩) hb).trans (h.2.1 p hp), fun p h1 h2 => (World.cell?_of_block (w := x) (a := ⟨g, p, none⟩) hb).trans (h.2.2 p h1 h2)⟩
theorem Mid.later {x x' : World} {g : Nat} {e : TypeId} {m n cap : Nat} {F : Nat → Int} {L : List (List Int)} {j : Nat} (h : Mid x g e m n cap F L j) (hb : Below x.heap.size x x') : Mid x' g e m n cap F L j := h.kept (hb.block g h.1.lt)
theorem Mid.skip {x : World} {g : Nat} {e : TypeId} {m n cap : Nat} {F : Nat → Int} {L : List (List Int)} {j : Nat} (h : Mid x g e m n cap F L j) : Mid x g e m n cap F L (j + 1) := ⟨h.1, h.2.1, fun p h1 h2 => h.2.2 p (by rw [Nat.succ_mul] at h1; omega) h2⟩
theorem Mid.put {x : World} {g : Nat} {e : TypeId} {m n cap : Nat} {F : Nat → Int} {L : List (List Int)} {j : Nat} (h : Mid x g e m n cap F L j) (hL : ∀ t ∈ L, t.length = m) (t : List Int) (ht : t.length = m) (hj : L.length ≤ j) (hjn : j < n) (hn : n ≤ cap) : Mid (x.setCells g (L.length * m) (t.map (Value.int .i64))) g e m n cap F (L ++ [t]) (j + 1) := by
  have hle : (L.length + 1) * m ≤ cap * m := Nat.mul_le_mul_right m (by omega)
  have hlj : (L.length + 1) * m ≤ (j + 1) * m := Nat.mul_le_mul_right m (by omega)
  have hsm : (L.length + 1) * m = L.length * m + m := Nat.succ_mul _ _
  have hfl := flat_len L hL
  refine ⟨h.1.sets _ _ _, fun p hp => ?_, fun p h1 h2 => ?_⟩
  · rw [List.length_append, List.length_singleton, hsm] at hp
    rw [List.flatten_append]
    rcases Nat.lt_or_ge p (L.length * m) with q | q
    · rw [World.cell?_setCells_out g _ _ _ _ (fun _ _ => Or.inl q), h.2.1 p q]
      simp [List.getElem?_append, hfl, q]
    · obtain ⟨r, rfl⟩ : ∃ r, p = L.length * m + r := ⟨p - L.length * m, by omega⟩
      have hr : r < t.length := by omega
      rw [World.cell?_setCells_in g (t.map (Value.int .i64)) (L.length * m) x (fun q hq => by
        have hq' : q < m := by simpa [ht] using hq
        obtain ⟨u, hu⟩ := (h.1.cell (p := L.length * m + q) (by omega)).1
        rw [hu]; rfl) r (by simpa using hr)]
      simp [hfl, hr]
  · rw [World.cell?_setCells_out g _ _ _ _ (fun _ _ => Or.inr (by simp [ht]; omega))]
    exact h.2.2 p (by rw [Nat.succ_mul] at h1; omega) h2
end Go.Proofs.YtnkdphdpecgmiaaGreatDoor
