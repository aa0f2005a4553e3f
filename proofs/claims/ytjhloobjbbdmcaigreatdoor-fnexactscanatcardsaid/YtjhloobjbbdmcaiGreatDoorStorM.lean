/-
  Own text. What a scan tells, as a plain list of numbers: of each key that has something at a time the key and its value.
-/
import Derived.Test.YtjhloobjbbdmcaiGreatDoorStorI
namespace Go.Proofs.YtjhloobjbbdmcaiGreatDoor
open Go.RowKit

theorem reads_one {S : Sto} (z0 : scan (cellF S.c) S.nc = 0) {key ts : Int} {i j i' j' : Nat} (h : reads S key ts i j) (h' : reads S key ts i' j') : i = i' ∧ j = j' := by
  obtain rfl := h.1.one h'.1
  refine ⟨rfl, ?_⟩
  rcases Nat.lt_trichotomy j j' with e | e | e
  · exact absurd ⟨h.2.2.2.1.trans h'.2.2.2.1.symm, h.2.2.2.2.trans h'.2.2.2.2.symm⟩ (cells_rise z0 j' h'.2.2.1 j e).ne
  · exact e
  · exact absurd ⟨h'.2.2.2.1.trans h.2.2.2.1.symm, h'.2.2.2.2.trans h.2.2.2.2.symm⟩ (cells_rise z0 j h.2.2.1 j' e).ne
theorem reads_or {S : Sto} (hn : needs S) (key ts : Int) : (∀ i, lastW S.k S.nw key ts i → S.k (i * 4 + 3) ≠ 1) ∨ ∃ i j, reads S key ts i j := by
  by_cases hl : ∀ i, lastW S.k S.nw key ts i → S.k (i * 4 + 3) ≠ 1
  · exact Or.inl hl
  · have he : ∃ i, lastW S.k S.nw key ts i ∧ S.k (i * 4 + 3) = 1 := Classical.byContradiction fun q => hl (fun i hi e => q ⟨i, hi, e⟩)
    obtain ⟨i, hi, h1⟩ := he
    obtain ⟨j, hj, hc⟩ := hn.1 i hi.1 h1
    rw [hi.2.1.1] at hc
    exact Or.inr ⟨i, j, hi, h1, hj, hc⟩
open Classical in
/-- What is read of a key at a time, if there is something. -/
noncomputable def rv (S : Sto) (key ts : Int) : Option Int := if h : ∃ v, ∃ i j, reads S key ts i j ∧ v = S.c (j * 3 + 2) then some (Classical.choose h) else none
theorem rv_some {S : Sto} (z0 : scan (cellF S.c) S.nc = 0) {key ts : Int} {i j : Nat} (h : reads S key ts i j) : rv S key ts = some (S.c (j * 3 + 2)) := by
  have hh : ∃ v, ∃ i j, reads S key ts i j ∧ v = S.c (j * 3 + 2) := ⟨_, i, j, h, rfl⟩
  unfold rv
  rw [dif_pos hh]
  obtain ⟨i', j', h', e⟩ := Classical.choose_spec hh
  rw [e, (reads_one z0 h h').2]
theorem rv_none {S : Sto} {key ts : Int} (h : ∀ i, lastW S.k S.nw key ts i → S.k (i * 4 + 3) ≠ 1) : rv S key ts = none := by
  unfold rv
  rw [dif_neg]
  rintro ⟨_, i, j, hr, _⟩
  exact h i hr.1 hr.2.1
noncomputable def scanL (S : Sto) (ts a : Int) : Nat → List Int
  | 0 => []
  | m + 1 => scanL S ts a m ++ (match rv S (a + m) ts with | some v => [a + m, v] | none => [])
noncomputable def scanN (S : Sto) (ts a : Int) : Nat → Nat
  | 0 => 0
  | m + 1 => scanN S ts a m + (match rv S (a + m) ts with | some _ => 1 | none => 0)
theorem scanL_length (S : Sto) (ts a : Int) : ∀ m, (scanL S ts a m).length = scanN S ts a m * 2
  | 0 => rfl
  | m + 1 => by
    have ih := scanL_length S ts a m
    unfold scanL scanN
    cases rv S (a + m) ts with
    | none => simp [ih]
    | some v => simp [ih]; omega
theorem scanN_le (S : Sto) (ts a : Int) : ∀ m, scanN S ts a m ≤ m
  | 0 => Nat.le_refl _
  | m + 1 => by
    have ih := scanN_le S ts a m
    unfold scanN
    cases rv S (a + m) ts with
    | none => simp; omega
    | some v => simp; omega
theorem scanL_yes {S : Sto} {ts a v : Int} {m : Nat} (h : rv S (a + m) ts = some v) : scanL S ts a (m + 1) = scanL S ts a m ++ [a + m, v] ∧ scanN S ts a (m + 1) = scanN S ts a m + 1 := by
  constructor
  · rw [scanL, h]
  · rw [scanN, h]
theorem scanL_no {S : Sto} {ts a : Int} {m : Nat} (h : rv S (a + m) ts = none) : scanL S ts a (m + 1) = scanL S ts a m ∧ scanN S ts a (m + 1) = scanN S ts a m := by
  constructor
  · rw [scanL, h, List.append_nil]
  · rw [scanN, h, Nat.add_zero]
/-- A row of pairs that a call has made, as a list of numbers. -/
def OwnL (w : World) (B : Nat) (e : TypeId) (v : Value) (n : Nat) (L : List Int) : Prop := w.ownsRow B e 2 v n (L.map (Value.int .i64))
theorem vals_list (L : List Int) : vals (fun p => L.getD p 0) L.length = L.map (Value.int .i64) := by
  apply List.ext_getElem?
  intro p
  rcases Nat.lt_or_ge p L.length with h | h
  · rw [vals_at _ _ _ h]
    simp [h]
  · rw [List.getElem?_eq_none (by rw [vals_length]; exact h), List.getElem?_eq_none (by simpa using h)]
theorem OwnL.own {w : World} {B : Nat} {e : TypeId} {v : Value} {n : Nat} {L : List Int} (h : OwnL w B e v n L) (hl : L.length = n * 2) : Own w B e 2 n (fun p => L.getD p 0) v := by
  unfold Own
  rw [← hl, vals_list]
  exact h
theorem OwnL.later {w w' : World} {B : Nat} {e : TypeId} {v : Value} {n : Nat} {L : List Int} (h : OwnL w B e v n L) (hb : Below w.heap.size w w') : OwnL w' B e v n L := by
  refine ⟨h.1, ?_⟩
  rcases h.2 with q | ⟨g, cap, cur, rfl, hg, hw, r⟩
  · exact Or.inl q
  · exact Or.inr ⟨g, cap, cur, rfl, hg, (hb.block g (Array.getElem?_eq_some_iff.1 hw).1).trans hw, r⟩
theorem OwnL.nil (w : World) (B : Nat) (e : TypeId) : OwnL w B e (.slice none 0 0) 0 [] := ⟨rfl, Or.inl ⟨rfl, rfl⟩⟩
theorem OwnL.form {w : World} {B : Nat} {e : TypeId} {v : Value} {n : Nat} {L : List Int} (h : OwnL w B e v n L) : ∃ ao cp, v = .slice ao n cp := by
  rcases h.2 with ⟨rfl, rfl⟩ | ⟨g, cap, cur, rfl, _⟩
  · exact ⟨_, _, rfl⟩
  · exact ⟨_, _, rfl⟩
/-- A block on one of the keys from a on, m of them. -/
def anyBlocks (S : Sto) (ts a : Int) (m : Nat) : Prop := ∃ q, q < m ∧ blocks S.l S.nl (a + q) ts
end Go.Proofs.YtjhloobjbbdmcaiGreatDoor
