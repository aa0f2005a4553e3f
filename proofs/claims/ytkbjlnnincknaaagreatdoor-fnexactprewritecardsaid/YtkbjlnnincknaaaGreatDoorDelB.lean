/-
  Own text, merged of DelA, DelB.
-/
import Derived.Test.YtkbjlnnincknaaaGreatDoorPartD
import Derived.Test.YtkbjlnnincknaaaGreatDoorColsZ
import Derived.Lib.SliceRun
import Derived.Test.YtkbjlnnincknaaaGreatDoorColsK
namespace Go.Proofs.YtkbjlnnincknaaaGreatDoor
section
open Go.RowKit Go.Sort Go.Shelf Go.Lib
-- Own text. A row of structs in one block, of which some are struck: plain facts; clear of its end.
/-- The structs among the first k that are not struck. -/
def selD (F : Nat → Int) (m : Nat) (D : List Int → Bool) : Nat → List (List Int)
  | 0 => []
  | k + 1 => selD F m D k ++ (if D (struD F m k) = true then [] else [struD F m k])
theorem selD_gone {F : Nat → Int} {m : Nat} {D : List Int → Bool} {k : Nat} (h : D (struD F m k) = true) : selD F m D (k + 1) = selD F m D k := by rw [selD, if_pos h, List.append_nil]
theorem selD_kept {F : Nat → Int} {m : Nat} {D : List Int → Bool} {k : Nat} (h : D (struD F m k) = false) : selD F m D (k + 1) = selD F m D k ++ [struD F m k] := by rw [selD, if_neg (by rw [h]; exact Bool.false_ne_true)]
theorem selD_len (F : Nat → Int) (m : Nat) (D : List Int → Bool) : ∀ k, (∀ t ∈ selD F m D k, t.length = m)
  | 0 => fun t ht => by simp [selD] at ht
  | k + 1 => fun t ht => by
    cases h : D (struD F m k) with
    | true => rw [selD_gone h] at ht; exact selD_len F m D k t ht
    | false =>
      rw [selD_kept h] at ht
      rcases List.mem_append.1 ht with q | q
      · exact selD_len F m D k t q
      · simp at q; rw [q]; exact struD_len _ _ _
theorem selD_le (F : Nat → Int) (m : Nat) (D : List Int → Bool) : ∀ k, (selD F m D k).length ≤ k
  | 0 => Nat.le_refl _
  | k + 1 => by
    have ih := selD_le F m D k
    cases h : D (struD F m k) with
    | true => rw [selD_gone h]; omega
    | false => rw [selD_kept h, List.length_append, List.length_singleton]; omega
theorem selD_none {F : Nat → Int} {m : Nat} {D : List Int → Bool} : ∀ {k : Nat}, (∀ i, i < k → D (struD F m i) = false) → selD F m D k = (List.range k).map (struD F m)
  | 0, _ => rfl
  | k + 1, h => by
    rw [selD_kept (h k (by omega)), selD_none (fun i hi => h i (by omega)), List.range_succ, List.map_append]
    rfl
theorem selD_same {F : Nat → Int} {m : Nat} {D : List Int → Bool} {k : Nat} (h : ∀ i, i < k → D (struD F m i) = false) : (selD F m D k).length = k ∧ ∀ p, p < k * m → (selD F m D k).flatten.getD p 0 = F p := by
  have e := selD_none h
  have hl : (selD F m D k).length = k := by rw [e]; simp
  refine ⟨hl, fun p hp => ?_⟩
  obtain ⟨h1, h2⟩ := div_lt hp
  rw [flat_get (m := m) _ p (selD_len F m D k) (by rw [hl]; exact hp), e]
  have e1 : ((List.range k).map (struD F m)).getD (p / m) [] = struD F m (p / m) := by simp [h1]
  rw [e1, struD_get F m _ _ h2, Nat.mul_comm, Nat.div_add_mod]
theorem flat_len {m : Nat} : ∀ (L : List (List Int)), (∀ t ∈ L, t.length = m) → L.flatten.length = L.length * m
  | [], _ => by simp
  | x :: r, h => by
    rw [List.flatten_cons, List.length_append, h x List.mem_cons_self, flat_len r (fun t ht => h t (List.mem_cons_of_mem _ ht)), List.length_cons, Nat.succ_mul, Nat.add_comm]
/-- Block g is a row of N cells of type e. -/
def Blkk (x : World) (g : Nat) (e : TypeId) (N : Nat) : Prop := ∃ cur, x.heap[g]? = some (.cells cur e) ∧ cur.size = N
theorem Blkk.kept {x x' : World} {g : Nat} {e : TypeId} {N : Nat} (h : Blkk x g e N) (hb : x'.heap[g]? = x.heap[g]?) : Blkk x' g e N := by
  obtain ⟨cur, h1, h2⟩ := h
  exact ⟨cur, hb.trans h1, h2⟩
theorem Blkk.lt {x : World} {g : Nat} {e : TypeId} {N : Nat} (h : Blkk x g e N) : g < x.heap.size := by
  obtain ⟨cur, h1, _⟩ := h
  exact (Array.getElem?_eq_some_iff.1 h1).1
theorem Blkk.set {x : World} {g : Nat} {e : TypeId} {N : Nat} (h : Blkk x g e N) (o : Nat) (u : Value) : Blkk (x.setCell ⟨g, o, none⟩ u) g e N := by
  obtain ⟨cur, h1, h2⟩ := h
  refine ⟨cur.setIfInBounds o u, ?_, by simpa using h2⟩
  simp [World.setCell, Array.getElem?_modify, h1]
theorem Blkk.sets {g : Nat} {e : TypeId} {N : Nat} : ∀ (vs : List Value) (o : Nat) (x : World), Blkk x g e N → Blkk (x.setCells g o vs) g e N
  | [], _, _, h => h
  | v :: r, o, _, h => Blkk.sets r (o + 1) _ (h.set o v)
theorem Blkk.cell {x : World} {g : Nat} {e : TypeId} {N : Nat} (h : Blkk x g e N) {p : Nat} (hp : p < N) : (∃ u, x.cell? ⟨g, p, none⟩ = some u) ∧ x.frozen? ⟨g, p, none⟩ = false := by
  obtain ⟨cur, h1, h2⟩ := h
  refine ⟨⟨cur[p]'(by omega), ?_⟩, ?_⟩
  · simp [World.cell?, h1]
  · simp [World.frozen?, h1]
theorem own_of {x : World} {B g : Nat} {e : TypeId} {m n cap : Nat} {F : Nat → Int} (h : Blkk x g e (cap * m)) (hB : B ≤ g) (hn : n ≤ cap) (hc : cap ≤ maxLen) (hF : ∀ p, p < n * m → x.cell? ⟨g, p, none⟩ = some (.int .i64 (F p))) : Own x B e m n F (.slice (some ⟨g, 0, none⟩) n cap) := by
  obtain ⟨cur, h1, h2⟩ := h
  refine ⟨vals_length _ _, Or.inr ⟨g, cap, cur, rfl, hB, h1, hn, hc, h2, ?_⟩⟩
  apply List.ext_getElem?
  intro p
  rcases Nat.lt_or_ge p (n * m) with hp | hp
  · rw [vals_at F _ p hp]
    have hle : n * m ≤ cap * m := Nat.mul_le_mul_right m hn
    have := hF p hp
    have hps : p < cur.size := by omega
    simp [World.cell?, h1, hps] at this
    rw [List.getElem?_take, if_pos hp]
    simp [hps, this]
  · rw [List.getElem?_eq_none (by rw [List.length_take]; omega), List.getElem?_eq_none (by rw [vals_length]; exact hp)]
theorem Own.parts {x : World} {B : Nat} {e : TypeId} {m n : Nat} {F : Nat → Int} {v : Value} (h : Own x B e m n F v) : (v = .slice none 0 0 ∧ n = 0) ∨ ∃ g cap, v = .slice (some ⟨g, 0, none⟩) n cap ∧ B ≤ g ∧ n ≤ cap ∧ cap ≤ maxLen ∧ Blkk x g e (cap * m) ∧ ∀ p, p < n * m → x.cell? ⟨g, p, none⟩ = some (.int .i64 (F p)) := by
  have hr := h.row.1
  rcases h.2 with q | ⟨g, cap, cur, rfl, hg, hw, h1, h2, h3, _⟩
  · exact Or.inl q
  · refine Or.inr ⟨g, cap, rfl, hg, h1, h2, ⟨cur, hw, h3⟩, fun p hp => ?_⟩
    have hn : 0 < n := Nat.pos_of_ne_zero (fun e => by subst e; simp at hp)
    obtain ⟨ao, cp, hv, hr⟩ := hr
    obtain ⟨g', o', e, _, _, hc⟩ := hr hn
    simp at hv
    obtain ⟨rfl, rfl⟩ := hv
    simp at e
    obtain ⟨rfl, rfl⟩ := e
    have := hc p hp
    rwa [Nat.zero_add] at this
theorem grown_sets (g : Nat) : ∀ (vs : List Value) (o : Nat) (w : World), w.grownBy (w.setCells g o vs) (some g)
  | [], _, _ => ⟨rfl, rfl, rfl, Nat.le_refl _, fun _ _ _ => rfl⟩
  | v :: r, o, w => by
    have ih := grown_sets g r (o + 1) (w.setCell ⟨g, o, none⟩ v)
    refine ⟨ih.os, ih.tape, ih.output, Nat.le_trans (by simp) ih.size, fun i hi hne => (ih.block i (by simpa using hi) hne).trans (Below.heap_setCell w _ _ i (fun e => hne (by rw [e])))⟩
/-- 'clear(s[i:])' at a slice of structs. -/
theorem run_clear_row (t e : TypeId) (z : Value) (m : Nat) (ht : Tryz.prog.underlying t = some (.slice e)) (hv : ∀ w, (zeroValue e).run Tryz.prog w = .ok z w) (hz : z.cells.size = m) (h1 : ∀ v ∈ z.cells.toList, v.oneCell' = true) (w : World) (g a k c N : Nat) (hb : Blkk w g e N) (hN : a + k * m ≤ N) (hk : 0 < k) (hm : 0 < m) :
    ∃ w', (∀ ty, (Builtin.clear_ #[t] ty #[.slice (some ⟨g, a, none⟩) k c]).run Tryz.prog w = .ok (.tuple #[]) w') ∧ (Blkk w' g e N ∧ ∀ p, p < a → w'.cell? ⟨g, p, none⟩ = w.cell? ⟨g, p, none⟩) ∧ w.grownBy w' (some g) := by
  have hzl : (Builtin.zeroCells z.cells k).toList.length = k * m := by simp [Builtin.zeroCells, hz]
  refine ⟨w.setCells g a (Builtin.zeroCells z.cells k).toList, fun ty => ?_, ⟨hb.sets _ _ _, fun p hp => World.cell?_setCells_out g _ a w _ (fun _ _ => Or.inl hp)⟩, ?_⟩
  · have hst := run_storeCells_cells (P := Tryz.prog) g a (Builtin.zeroCells z.cells k).toList 0 w (fun j hj => by rw [Nat.add_zero]; obtain ⟨u, hu⟩ := (hb.cell (p := a + j) (by omega)).1; rw [hu]; rfl) (fun j hj => by rw [Nat.add_zero]; exact (hb.cell (p := a + j) (by omega)).2) (fun v hv' => by
      simp only [Builtin.zeroCells, Array.toList_map, List.mem_map] at hv'
      obtain ⟨i, _, rfl⟩ := hv'
      have hi : i % z.cells.size < z.cells.size := Nat.mod_lt _ (by omega)
      rw [getElem!_pos z.cells _ hi]
      exact h1 _ (Array.getElem_mem_toList hi))
    simp only [Nat.add_zero] at hst
    obtain ⟨q, rfl⟩ : ∃ q, k = q + 1 := ⟨k - 1, by omega⟩
    simp [Builtin.clear_, run_underlying ht, hv, hst]
  · exact grown_sets g _ a w
end

section
open Go.RowKit Go.Sort Go.Shelf Go.Lib
-- Own text. slices.IndexFunc and slices.DeleteFunc over rows of structs, under what the closure tells.
theorem Own.congr {x : World} {B : Nat} {e : TypeId} {m n : Nat} {F G : Nat → Int} {v : Value} (h : Own x B e m n F v) (hF : ∀ p, p < n * m → F p = G p) : Own x B e m n G v := by
  have hv : vals F (n * m) = vals G (n * m) := by
    unfold vals
    refine List.map_congr_left (fun p hp => ?_)
    rw [hF p (List.mem_range.1 hp)]
  unfold Own at *
  rw [← hv]
  exact h
/-- A row under way: the kept structs L stand first, from number j on it is as it was. -/
def Mid (x : World) (g : Nat) (e : TypeId) (m n cap : Nat) (F : Nat → Int) (L : List (List Int)) (j : Nat) : Prop :=
  Blkk x g e (cap * m) ∧ (∀ p, p < L.length * m → x.cell? ⟨g, p, none⟩ = some (.int .i64 (L.flatten.getD p 0))) ∧ ∀ p, j * m ≤ p → p < n * m → x.cell? ⟨g, p, none⟩ = some (.int .i64 (F p))
theorem Mid.kept {x x' : World} {g : Nat} {e : TypeId} {m n cap : Nat} {F : Nat → Int} {L : List (List Int)} {j : Nat} (h : Mid x g e m n cap F L j) (hb : x'.heap[g]? = x.heap[g]?) : Mid x' g e m n cap F L j :=
  ⟨h.1.kept hb, fun p hp => (World.cell?_of_block (w := x) (a := ⟨g, p, none⟩) hb).trans (h.2.1 p hp), fun p h1 h2 => (World.cell?_of_block (w := x) (a := ⟨g, p, none⟩) hb).trans (h.2.2 p h1 h2)⟩
theorem Mid.later {x x' : World} {g : Nat} {e : TypeId} {m n cap : Nat} {F : Nat → Int} {L : List (List Int)} {j : Nat} (h : Mid x g e m n cap F L j) (hb : Below x.heap.size x x') : Mid x' g e m n cap F L j := h.kept (hb.block g h.1.lt)
theorem Mid.skip {x : World} {g : Nat} {e : TypeId} {m n cap : Nat} {F : Nat → Int} {L : List (List Int)} {j : Nat} (h : Mid x g e m n cap F L j) : Mid x g e m n cap F L (j + 1) := ⟨h.1, h.2.1, fun p h1 h2 => h.2.2 p (by rw [Nat.succ_mul] at h1; omega) h2⟩
theorem Mid.put {x : World} {g : Nat} {e : TypeId} {m n cap : Nat} {F : Nat → Int} {L : List (List Int)} {j : Nat} (h : Mid x g e m n cap F L j) (hL : ∀ t ∈ L, t.length = m) (t : List Int) (ht : t.length = m) (hj : L.length ≤ j) (hjn : j < n) (hn : n ≤ cap) : Mid (x.setCells g (L.length * m) (t.map (Value.int .i64))) g e m n cap F (L ++ [t]) (j + 1) := by
  have hle : (L.length + 1) * m ≤ cap * m := Nat.mul_le_mul_right m (by omega)
  have hlj : (L.length + 1) * m ≤ (j + 1) * m := Nat.mul_le_mul_right m (by omega)
  have hsm : (L.length + 1) * m = L.length * m + m := Nat.succ_mul _ _
  have hfl := flat_len L hL
  refine ⟨h.1.sets _ _ _, fun p hp => ?_, fun p h1 h2 => ?_⟩
  · rw [List.length_append, List.length_singleton, hsm] at hp
    rw [List.flatten_append]
    rcases Nat.lt_or_ge p (L.length * m) with q | q
    · rw [World.cell?_setCells_out g _ _ _ _ (fun _ _ => Or.inl q), h.2.1 p q]
      simp [List.getElem?_append, hfl, q]
    · obtain ⟨r, rfl⟩ : ∃ r, p = L.length * m + r := ⟨p - L.length * m, by omega⟩
      have hr : r < t.length := by omega
      rw [World.cell?_setCells_in g (t.map (Value.int .i64)) (L.length * m) x (fun q hq => by
        have hq' : q < m := by simpa [ht] using hq
        obtain ⟨u, hu⟩ := (h.1.cell (p := L.length * m + q) (by omega)).1
        rw [hu]; rfl) r (by simpa using hr)]
      simp [hfl, hr]
  · rw [World.cell?_setCells_out g _ _ _ _ (fun _ _ => Or.inr (by simp [ht]; omega))]
    exact h.2.2 p (by rw [Nat.succ_mul] at h1; omega) h2
end
end Go.Proofs.YtkbjlnnincknaaaGreatDoor
