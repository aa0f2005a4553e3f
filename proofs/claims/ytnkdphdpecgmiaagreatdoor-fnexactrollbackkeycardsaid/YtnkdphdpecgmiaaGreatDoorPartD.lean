/-
  Own text. The structs of a part of a row, as a list: their keys rise; a row that holds that list is the model's row.
-/
import Derived.Test.YtnkdphdpecgmiaaGreatDoorPartA
import Derived.Test.YtnkdphdpecgmiaaGreatDoorSortC
import Derived.Test.YtnkdphdpecgmiaaGreatDoorStorP
namespace Go.Proofs.YtnkdphdpecgmiaaGreatDoor
open Go.RowKit Go.Sort Go.Shelf Go.Lib

/-- The struct number k of a row. -/
def struD (F : Nat → Int) (m k : Nat) : List Int := (List.range m).map fun q => F (k * m + q)
theorem struD_get (F : Nat → Int) (m k q : Nat) (hq : q < m) : (struD F m k).getD q 0 = F (k * m + q) := by simp [struD, hq]
theorem struD_len (F : Nat → Int) (m k : Nat) : (struD F m k).length = m := by simp [struD]
def keepD (F : Nat → Int) (m : Nat) (a b : Int) : Nat → List (List Int)
  | 0 => []
  | k + 1 => keepD F m a b k ++ (if a ≤ F (k * m) ∧ F (k * m) ≤ b then [struD F m k] else [])
theorem keepD_mem {F : Nat → Int} {m : Nat} {a b : Int} {x : List Int} : ∀ {k : Nat}, x ∈ keepD F m a b k → ∃ i, i < k ∧ x = struD F m i
  | 0, h => by simp [keepD] at h
  | k + 1, h => by
    unfold keepD at h
    rcases List.mem_append.1 h with h | h
    · obtain ⟨i, hi, e⟩ := keepD_mem h
      exact ⟨i, by omega, e⟩
    · split at h
      · simp at h
        exact ⟨k, by omega, h⟩
      · simp at h
theorem keepD_rise {F : Nat → Int} {m : Nat} (hm : 2 ≤ m) {a b : Int} {n : Nat} (hr : ∀ j, j < n → ∀ i, i < j → pairLt (F (i * m)) (F (i * m + 1)) (F (j * m)) (F (j * m + 1))) : ∀ k, k ≤ n → (keepD F m a b k).Pairwise (Lt2 (fun x => x.getD 0 0) (fun x => x.getD 1 0))
  | 0, _ => by simp [keepD]
  | k + 1, hk => by
    have ih := keepD_rise hm (a := a) (b := b) hr k (by omega)
    unfold keepD
    split
    · refine List.pairwise_append.2 ⟨ih, by simp, ?_⟩
      intro x hx y hy
      simp at hy
      subst hy
      obtain ⟨i, hi, rfl⟩ := keepD_mem hx
      have := hr k (by omega) i hi
      unfold Lt2
      show (struD F m i).getD 0 0 < (struD F m k).getD 0 0 ∨ (struD F m i).getD 0 0 = (struD F m k).getD 0 0 ∧ (struD F m i).getD 1 0 < (struD F m k).getD 1 0
      rw [struD_get F m i 0 (by omega), struD_get F m k 0 (by omega), struD_get F m i 1 (by omega), struD_get F m k 1 (by omega)]
      exact this
    · rw [List.append_nil]
      exact ih
theorem keepD_flat (F : Nat → Int) (m : Nat) (a b : Int) : ∀ k, (keepD F m a b k).flatten = keepL F m a b k
  | 0 => rfl
  | k + 1 => by
    have ih := keepD_flat F m a b k
    unfold keepD keepL
    rw [List.flatten_append, ih]
    split
    · simp [struD]
    · simp
theorem keepD_len (F : Nat → Int) (m : Nat) (a b : Int) : ∀ k, (keepD F m a b k).length = keepN F m a b k
  | 0 => rfl
  | k + 1 => by
    have ih := keepD_len F m a b k
    unfold keepD keepN
    rw [List.length_append, ih]
    split <;> simp
theorem keepD_all {F : Nat → Int} {m : Nat} {a b : Int} {k : Nat} : ∀ x ∈ keepD F m a b k, x.length = m := fun x hx => by
  obtain ⟨i, _, rfl⟩ := keepD_mem hx
  exact struD_len _ _ _
theorem flat_get {m : Nat} : ∀ (l : List (List Int)) (t : Nat), (∀ x ∈ l, x.length = m) → t < l.length * m → l.flatten.getD t 0 = (l.getD (t / m) []).getD (t % m) 0
  | [], t, _, ht => by simp at ht
  | x :: r, t, hl, ht => by
    have hx : x.length = m := hl x List.mem_cons_self
    have hm : 0 < m := Nat.pos_of_ne_zero (fun e => by subst e; simp at ht)
    rcases Nat.lt_or_ge t m with h | h
    · rw [Nat.div_eq_of_lt h, Nat.mod_eq_of_lt h, List.flatten_cons]
      simp [List.getElem?_append, hx, h]
    · have ih := flat_get r (t - m) (fun y hy => hl y (List.mem_cons_of_mem _ hy)) (by simp only [List.length_cons, Nat.succ_mul] at ht; omega)
      have e1 : t / m = (t - m) / m + 1 := Nat.div_eq_sub_div hm h
      have e2 : t % m = (t - m) % m := Nat.mod_eq_sub_mod h
      have hn : ¬ t < x.length := by omega
      rw [e1, e2, List.flatten_cons]
      rw [List.getD_cons_succ, ← ih]
      simp [List.getElem?_append, hx, Nat.not_lt.2 h]
/-- A row that holds the list is the row that the model answers. -/
theorem keep_row {F : Nat → Int} {m : Nat} {a b : Int} {k : Nat} {d : Array (List Int)} (h : d.toList = keepD F m a b k) (t : Nat) (ht : t < keepN F m a b k * m) : rowF m d t = keepF F m a b k t := by
  unfold keepF rowF
  rw [← keepD_flat, flat_get (m := m) _ t keepD_all (by rw [keepD_len]; exact ht), ← h]
  have h1 : t / m < d.size := by rw [← Array.length_toList, h, keepD_len]; exact (div_lt ht).1
  rw [getElem!_pos d _ h1]
  simp [h1]
end Go.Proofs.YtnkdphdpecgmiaaGreatDoor
