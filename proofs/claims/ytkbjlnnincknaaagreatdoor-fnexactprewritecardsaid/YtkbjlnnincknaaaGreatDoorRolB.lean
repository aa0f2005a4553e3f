/-
  Own text, merged of RolA, RolB.
-/
import Derived.Test.YtkbjlnnincknaaaGreatDoorCmpD
namespace Go.Proofs.YtkbjlnnincknaaaGreatDoor
section
open Go.RowKit Go.Maps Go.Sort Go.Shelf Go.Lib
-- Own text. What a rollback leaves of a store, as plain lists; the map without a cell has just the cells that stay.
theorem selM_mem {F : Nat → Int} {m : Nat} {D : List Int → Bool} {x : List Int} : ∀ {k : Nat}, x ∈ selD F m D k → ∃ i, i < k ∧ x = struD F m i ∧ D x = false
  | 0, h => by simp [selD] at h
  | k + 1, h => by
    cases e : D (struD F m k) with
    | true =>
      rw [selD_gone e] at h
      obtain ⟨i, hi, r⟩ := selM_mem h
      exact ⟨i, by omega, r⟩
    | false =>
      rw [selD_kept e] at h
      rcases List.mem_append.1 h with h | h
      · obtain ⟨i, hi, r⟩ := selM_mem h
        exact ⟨i, by omega, r⟩
      · simp at h
        subst h
        exact ⟨k, by omega, rfl, e⟩
theorem selM_in {F : Nat → Int} {m : Nat} {D : List Int → Bool} {i : Nat} (h : D (struD F m i) = false) : ∀ {k : Nat}, i < k → struD F m i ∈ selD F m D k
  | 0, hi => by omega
  | k + 1, hi => by
    by_cases q : i = k
    · subst q; rw [selD_kept h]; simp
    · cases e : D (struD F m k) with
      | true => rw [selD_gone e]; exact selM_in h (by omega)
      | false => rw [selD_kept e]; exact List.mem_append.2 (Or.inl (selM_in h (by omega)))
theorem selM_rise {F : Nat → Int} {m : Nat} (hm : 2 ≤ m) {D : List Int → Bool} {n : Nat} (hr : ∀ j, j < n → ∀ i, i < j → pairLt (F (i * m)) (F (i * m + 1)) (F (j * m)) (F (j * m + 1))) : ∀ k, k ≤ n → (selD F m D k).Pairwise (Lt2 (fun x => x.getD 0 0) (fun x => x.getD 1 0))
  | 0, _ => by simp [selD]
  | k + 1, hk => by
    have ih := selM_rise hm (D := D) hr k (by omega)
    cases e : D (struD F m k) with
    | true => rw [selD_gone e]; exact ih
    | false =>
      rw [selD_kept e]
      refine List.pairwise_append.2 ⟨ih, by simp, ?_⟩
      intro x hx y hy
      simp at hy
      subst hy
      obtain ⟨i, hi, rfl, _⟩ := selM_mem hx
      have := hr k (by omega) i hi
      show (struD F m i).getD 0 0 < (struD F m k).getD 0 0 ∨ (struD F m i).getD 0 0 = (struD F m k).getD 0 0 ∧ (struD F m i).getD 1 0 < (struD F m k).getD 1 0
      rw [struD_get F m i 0 (by omega), struD_get F m k 0 (by omega), struD_get F m i 1 (by omega), struD_get F m k 1 (by omega)]
      exact this
/-- The cells without that of a key and start. -/
def goneK (a s : Int) (t : List Int) : Bool := t.getD 0 0 == a && t.getD 1 0 == s
def unlC (F : Nat → Int) (a s : Int) (n : Nat) : List (List Int) := selD F 3 (goneK a s) n
theorem goneK_iff {F : Nat → Int} {a s : Int} {i : Nat} : goneK a s (struD F 3 i) = true ↔ cellIs F a s i := by
  unfold goneK cellIs
  rw [struD_get F 3 i 0 (by omega), struD_get F 3 i 1 (by omega), Bool.and_eq_true, beq_iff_eq, beq_iff_eq]
  exact Iff.rfl
theorem goneK_not {F : Nat → Int} {a s : Int} {i : Nat} (h : ¬ cellIs F a s i) : goneK a s (struD F 3 i) = false := by
  cases e : goneK a s (struD F 3 i) with
  | false => rfl
  | true => exact absurd (goneK_iff.1 e) h
/-- A store of which what began at s for the key a is taken back. -/
def rollS (S : Sto) (a s : Int) (k : Nat) : Sto := ⟨(unlC S.c a s S.nc).length, fun p => (unlC S.c a s S.nc).flatten.getD p 0, (unlL S.l a s S.nl).length, fun p => (unlL S.l a s S.nl).flatten.getD p 0, S.nw + 1, insF S.k 4 S.nw k [a, s, s, 4]⟩
theorem selD_one {F : Nat → Int} {m : Nat} {D : List Int → Bool} {j : Nat} (hj : D (struD F m j) = true) : ∀ k, j < k → (∀ i, i < k → i ≠ j → D (struD F m i) = false) → (selD F m D k).length = k - 1 ∧ ∀ p, p < (k - 1) * m → (selD F m D k).flatten.getD p 0 = if p < j * m then F p else F (p + m)
  | 0, h, _ => absurd h (Nat.not_lt_zero _)
  | k + 1, h, ha => by
    rcases Nat.lt_or_ge j k with q | q
    · obtain ⟨i1, i2⟩ := selD_one hj k q (fun i hi hn => ha i (by omega) hn)
      rw [selD_kept (ha k (by omega) (by omega))]
      refine ⟨by rw [List.length_append, i1]; simp; omega, fun p hp => ?_⟩
      have hfl : (selD F m D k).flatten.length = (k - 1) * m := by rw [flat_len _ (selD_len F m D k), i1]
      rw [List.flatten_append, List.getD_eq_getElem?_getD]
      by_cases hq : p < (k - 1) * m
      · rw [List.getElem?_append_left (by rw [hfl]; exact hq), ← List.getD_eq_getElem?_getD]
        exact i2 p hq
      · have e1 : (k + 1 - 1) * m = (k - 1) * m + m := by rw [show k + 1 - 1 = (k - 1) + 1 by omega, Nat.succ_mul]
        have e2 : j * m ≤ (k - 1) * m := Nat.mul_le_mul_right m (by omega)
        have e3 : k * m = (k - 1) * m + m := by rw [← Nat.succ_mul, show (k - 1).succ = k by omega]
        rw [List.getElem?_append_right (by rw [hfl]; omega), hfl, if_neg (by omega), ← List.getD_eq_getElem?_getD]
        simp only [List.flatten_cons, List.flatten_nil, List.append_nil]
        rw [struD_get F m k _ (by omega)]
        congr 1
        omega
    · obtain rfl : j = k := by omega
      rw [selD_gone hj]
      obtain ⟨i1, i2⟩ := selD_same (fun i hi => ha i (by omega) (by omega)) (F := F) (m := m) (D := D) (k := j)
      refine ⟨by rw [i1]; omega, fun p hp => ?_⟩
      rw [show j + 1 - 1 = j by omega] at hp
      rw [i2 p hp, if_pos hp]
/-- Cells of a store without a fault: no two of one key and start. -/
theorem cell_once {S : Sto} (h : scan (cellF S.c) S.nc = 0) {a s : Int} {i j : Nat} (hi : i < S.nc) (hj : j < S.nc) (h1 : cellIs S.c a s i) (h2 : cellIs S.c a s j) : i = j := by
  unfold cellIs at h1 h2
  rcases Nat.lt_trichotomy i j with q | q | q
  · have := cells_rise h j hj i q
    unfold pairLt at this
    omega
  · exact q
  · have := cells_rise h i hi j q
    unfold pairLt at this
    omega
theorem roll_map {S : Sto} (hz : scan (cellF S.c) S.nc = 0) (a s : Int) : MapRow (delM (cellM S S.nc) a s) (unlC S.c a s S.nc).length (fun p => (unlC S.c a s S.nc).flatten.getD p 0) := by
  refine mapRow_list (selD_len _ _ _ _) (selM_rise (by omega) (n := S.nc) (cells_rise hz) S.nc (Nat.le_refl _)) (fun x y v hm => ?_) (fun x y v hx hy hm => ?_)
  · obtain ⟨i, hi, e, hd⟩ := selM_mem hm
    rw [e] at hd
    have hn : ¬ cellIs S.c a s i := fun q => by rw [goneK_iff.2 q] at hd; cases hd
    rw [struD_three] at e
    simp at e
    obtain ⟨rfl, rfl, rfl⟩ := e
    have hc := cellF_zero (scan_zero hz i hi)
    have hk := faultOf_zero hc.1
    refine ⟨⟨wf_small hk.1 (by omega), wf_small (by omega) hc.2.2.1⟩, ?_⟩
    unfold delM
    rw [if_neg (show ¬ (S.c (i * 3) = a ∧ S.c (i * 3 + 1) = s) from hn)]
    exact cellM_at hz hi ⟨rfl, rfl⟩
  · unfold delM at hm
    split at hm
    · cases hm
    · rename_i hne
      obtain ⟨i, hi, h1, h2, h3⟩ := cellM_some hm
      have hs : struD S.c 3 i = [x, y, v] := by rw [struD_three, h1, h2, h3]
      rw [← hs]
      exact selM_in (goneK_not (fun q => hne ⟨h1.symm.trans q.1, h2.symm.trans q.2⟩)) hi
theorem cellAt_is (S : Sto) (b : Nat) (v0 v1 v2 : Value) (a s r : Int) (w : World) (h : Lies w b S v0 v1 v2) (hn : S.nc ≤ 200) (hr : FirstAt (cellIs S.c a s) S.nc r) :
    Calls Tryz.prog 46 #[.pointer (some ⟨b, 0, none⟩), .int .i64 a, .int .i64 s] w fun e w' => e = .returned (.int .i64 r) ∧ w' = w :=
  (l2Cell_any S b v0 v1 v2 a s w h hn).mono fun e w' ⟨r', he, hf, hw⟩ => ⟨by rw [he, hf.one hr], hw⟩
/-- 'delete(m, k)' at a map of two whole numbers. -/
theorem wpList_pdrop (w : World) {ops : Array Oper} {rest : List Oper} {o : Oper} {a : Act} {Q : Exit → Act → World → Prop} (hg : o.guard = none) (mo xo : Operand) (hop : o.op = Op.call { callee := Callee.builtin Builtin.delete, args := #[mo, xo], argTypes := #[92, 112] })
    (b n : Nat) (m : Int → Int → Option Int) (hm : a.eval mo = .map (some b)) (h : PM w b n m) (x y : Int) (hx : a.eval xo = .agg #[.int .i64 x, .int .i64 y]) (hwx : Wf x) (hwy : Wf y)
    (hK : ∀ w', PM w' b n (delM m x y) → w.grownBy w' (some b) → wpList Tryz.prog ops Q rest (a.put o.dst (.tuple #[])) w') :
    wpList Tryz.prog ops Q (o :: rest) a w := by
  obtain ⟨D, h1, h2⟩ := h
  refine wpList_delete_own w hg mo xo 92 112 hop _ placeKeyed Tryz.underlying92 _ b n D hm h1 _ _ hx (keyOf_place hwx hwy) ?_
  intro w' hr ht
  refine hK w' ⟨_, hr, fun p q hp hq => ?_⟩ ht.grown
  unfold delM
  by_cases e : p = x ∧ q = y
  · obtain ⟨rfl, rfl⟩ := e
    rw [if_pos ⟨rfl, rfl⟩]
    exact ⟨has_del_same, atKey_del_same _⟩
  · rw [if_neg e, has_del_other (fun q => e (kp_inj hp hq hwx hwy q)), atKey_del_other (fun q => e (kp_inj hp hq hwx hwy q))]
    exact h2 p q hp hq
end

section
open Go.RowKit Go.Lib
-- Own text. The model's l3Rollback: what it answers of a store without a fault.
theorem Row.tailR {w : World} {B m n g o : Nat} {F : Nat → Int} {cp : Nat} (h : Row w B m n F (.slice (some ⟨g, o, none⟩) n cp)) (k : Nat) (hc : n ≤ cp) : Row w B m (n - k) (fun p => F (k * m + p)) (.slice (if cp = k then some ⟨g, o, none⟩ else some ⟨g, o + k * m, none⟩) (n - k) (cp - k)) := by
  by_cases hk : k < n
  · exact h.tailS hk hc
  · exact Row.over _ _ _ _ _ _ _ _ hk
theorem roll_cells {F : Nat → Int} {n j : Nat} (hj : j < n) : ∀ p, p < (n - 1) * 3 → (nums F (j * 3) ++ nums (fun p => F ((j + 1) * 3 + p)) ((n - (j + 1)) * 3)).getD p 0 = if p < j * 3 then F p else F (p + 3) := by
  intro p hp
  rw [List.getD_eq_getElem?_getD]
  by_cases q : p < j * 3
  · rw [List.getElem?_append_left (by rw [nums_length]; exact q), if_pos q]
    simp [nums, q]
  · rw [List.getElem?_append_right (by rw [nums_length]; omega), nums_length, if_neg q]
    have h1 : p - j * 3 < (n - (j + 1)) * 3 := by omega
    simp only [nums, List.getElem?_map, List.getElem?_range h1, Option.map_some, Option.getD_some]
    congr 1
    omega
end
end Go.Proofs.YtkbjlnnincknaaaGreatDoor
