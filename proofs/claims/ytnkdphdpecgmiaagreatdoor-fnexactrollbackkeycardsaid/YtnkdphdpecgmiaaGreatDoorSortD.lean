/-
  Own text. slices.SortFunc over a row of cells, an empty one too; the lists that a map's entries make.
-/
import Derived.Test.YtnkdphdpecgmiaaGreatDoorPartD
import Derived.Test.YtnkdphdpecgmiaaGreatDoorRangA
namespace Go.Proofs.YtnkdphdpecgmiaaGreatDoor
open Go.RowKit Go.Sort Go.Shelf Go.Lib

theorem sortCell_any (B n : Nat) (F : Nat → Int) (v : Value) (w : World) (h : Row w B 3 n F v) (hf : Free w (n * 3) v) (hn : n ≤ 1048576) :
    Calls Tryz.prog 102 #[v, .func (.func 103) #[] #[]] w fun e w' => e = .returned (.tuple #[]) ∧ ∃ d : Array (List Int), d.size = n ∧ (d.toList.Perm (rowD 3 n F).toList ∧ SortedIn (ltOf (cf2 (fun x => x.getD 0 0) (fun x => x.getD 1 0))) 0 n d) ∧ (Row w' B 3 n (rowF 3 d) v ∧ Free w' (n * 3) v) ∧ w.grownBy w' (turn n v) := by
  obtain ⟨ao, cp, rfl⟩ := h.form
  rcases Nat.eq_zero_or_pos n with e | e
  · subst e
    have hcon := AnyF.slices_SortFunc_none Tryz.sortCell ao cp (.func (.func 103) #[] #[]) w
    change Calls Tryz.prog 102 _ _ _ at hcon
    refine hcon.mono ?_
    rintro e w' ⟨rfl, rfl⟩
    refine ⟨rfl, #[], rfl, ⟨by simp [rowD], fun i j _ hij hj => by omega⟩, ⟨⟨_, _, rfl, fun q => absurd q (Nat.lt_irrefl 0)⟩, by rw [Nat.zero_mul]; exact Free.of0 _ _⟩, ⟨rfl, rfl, rfl, Nat.le_refl _, fun _ _ _ => rfl⟩⟩
  · obtain ⟨g, o, rfl, hB, hg, _⟩ := h.at e
    refine (sortCell_is B n g o cp F w h hf hB hg hn).mono ?_
    rintro e' w' ⟨rfl, d, h1, h2, h3, h4⟩
    refine ⟨rfl, d, h1, h2, h3, ?_⟩
    have : turn n (.slice (some ⟨g, o, none⟩) n cp) = some g := by unfold turn; rw [if_neg (by omega)]; rfl
    rw [this]
    exact h4
/-- The entries of a map that have come: all that are not left, each once. -/
def Col3 (m : Int → Int → Option Int) (left : Int → Int → Bool) (L : List (List Int)) : Prop :=
  (∀ t ∈ L, ∃ x y v, t = [x, y, v] ∧ Wf x ∧ Wf y ∧ m x y = some v ∧ left x y = false) ∧ (∀ x y v, Wf x → Wf y → m x y = some v → left x y = false → [x, y, v] ∈ L) ∧ L.Nodup ∧ ∀ x y, left x y = true → (m x y).isSome = true
theorem Col3.start (m : Int → Int → Option Int) : Col3 m (fun x y => (m x y).isSome) [] := by
  refine ⟨fun t ht => absurd ht (by simp), fun x y v _ _ h h' => ?_, by simp, fun _ _ h => h⟩
  have h2 : (m x y).isSome = false := h'
  rw [h] at h2
  simp at h2
theorem Col3.len {m : Int → Int → Option Int} {left : Int → Int → Bool} {L : List (List Int)} (h : Col3 m left L) : ∀ t ∈ L, t.length = 3 := fun t ht => by
  obtain ⟨x, y, v, rfl, _⟩ := h.1 t ht
  rfl
theorem Col3.step {m : Int → Int → Option Int} {left : Int → Int → Bool} {L : List (List Int)} (h : Col3 m left L) {x y c : Int} (hx : Wf x) (hy : Wf y) (hl : left x y = true) (hm : m x y = some c) : Col3 m (strike left x y) (L ++ [[x, y, c]]) := by
  refine ⟨fun t ht => ?_, fun p q v hp hq h1 h2 => ?_, ?_, fun p q h1 => ?_⟩
  · rcases List.mem_append.1 ht with ht | ht
    · obtain ⟨p, q, v, rfl, h1, h2, h3, h4⟩ := h.1 t ht
      exact ⟨p, q, v, rfl, h1, h2, h3, by unfold strike; rw [h4]; rfl⟩
    · simp at ht
      subst ht
      exact ⟨x, y, c, rfl, hx, hy, hm, by simp [strike]⟩
  · by_cases e : p = x ∧ q = y
    · obtain ⟨rfl, rfl⟩ := e
      rw [hm] at h1
      simp at h1
      subst h1
      simp
    · refine List.mem_append.2 (Or.inl (h.2.1 p q v hp hq h1 ?_))
      unfold strike at h2
      rw [decide_eq_false e] at h2
      simpa using h2
  · refine List.nodup_append.2 ⟨h.2.2.1, by simp, ?_⟩
    intro a ha b hb e
    simp at hb
    subst hb
    subst e
    obtain ⟨p, q, v, e, _, _, _, h4⟩ := h.1 _ ha
    simp at e
    obtain ⟨rfl, rfl, _⟩ := e
    rw [hl] at h4
    simp at h4
  · unfold strike at h1
    exact h.2.2.2 p q (by simp at h1; exact h1.1)
/-- A row of cells that rises and has just what a map has. -/
structure MapRow (m : Int → Int → Option Int) (nc : Nat) (c : Nat → Int) : Prop where
  rise : ∀ j, j < nc → ∀ i, i < j → pairLt (c (i * 3)) (c (i * 3 + 1)) (c (j * 3)) (c (j * 3 + 1))
  wf : ∀ i, i < nc → Wf (c (i * 3)) ∧ Wf (c (i * 3 + 1))
  has : ∀ i, i < nc → m (c (i * 3)) (c (i * 3 + 1)) = some (c (i * 3 + 2))
  all : ∀ x y v, Wf x → Wf y → m x y = some v → ∃ i, i < nc ∧ c (i * 3) = x ∧ c (i * 3 + 1) = y ∧ c (i * 3 + 2) = v
theorem rowD_list (m n : Nat) (F : Nat → Int) : (rowD m n F).toList = (List.range n).map (struD F m) := by
  unfold rowD struD
  simp
theorem struD_three (c : Nat → Int) (i : Nat) : struD c 3 i = [c (i * 3), c (i * 3 + 1), c (i * 3 + 2)] := rfl
theorem MapRow.up {m : Int → Int → Option Int} {nc : Nat} {c : Nat → Int} (h : MapRow m nc c) : ((rowD 3 nc c).toList).Pairwise (Lt2 (fun x => x.getD 0 0) (fun x => x.getD 1 0)) := by
  rw [rowD_list, List.pairwise_map, List.pairwise_iff_getElem]
  intro i j hi hj hij
  simp at hi hj
  simp only [List.getElem_range]
  exact h.rise j hj i hij
theorem Lt2.nodup {k s : List Int → Int} {l : List (List Int)} (h : l.Pairwise (Lt2 k s)) : l.Nodup := h.imp (fun {a b} h e => h.ne (by subst e; exact ⟨rfl, rfl⟩))
theorem MapRow.perm {m : Int → Int → Option Int} {nc : Nat} {c : Nat → Int} (h : MapRow m nc c) {left : Int → Int → Bool} {L : List (List Int)} (hL : Col3 m left L) (hd : ∀ x y, Wf x → Wf y → left x y = false) : L.Perm (rowD 3 nc c).toList := by
  refine (List.perm_ext_iff_of_nodup hL.2.2.1 (Lt2.nodup h.up)).2 (fun t => ?_)
  rw [rowD_list, List.mem_map]
  constructor
  · intro ht
    obtain ⟨x, y, v, rfl, hx, hy, hm, _⟩ := hL.1 t ht
    obtain ⟨i, hi, rfl, rfl, rfl⟩ := h.all x y v hx hy hm
    exact ⟨i, List.mem_range.2 hi, struD_three c i⟩
  · rintro ⟨i, hi, rfl⟩
    have hi' := List.mem_range.1 hi
    rw [struD_three]
    exact hL.2.1 _ _ _ (h.wf i hi').1 (h.wf i hi').2 (h.has i hi') (hd _ _ (h.wf i hi').1 (h.wf i hi').2)
theorem rowD_flat {m : Nat} (hm : 0 < m) (L : List (List Int)) (hL : ∀ t ∈ L, t.length = m) : (rowD m L.length (fun p => L.flatten.getD p 0)).toList = L := by
  rw [rowD_list]
  apply List.ext_getElem (by simp)
  intro i h1 h2
  have hi : i < L.length := h2
  simp only [List.getElem_map, List.getElem_range]
  apply List.ext_getElem
  · rw [struD_len, hL _ (List.getElem_mem _)]
  · intro q h3 h4
    have hq : q < m := by rw [struD_len] at h3; exact h3
    have hlt : i * m + q < L.length * m := by
      calc i * m + q < i * m + m := by omega
        _ = (i + 1) * m := by rw [Nat.succ_mul]
        _ ≤ L.length * m := Nat.mul_le_mul_right m hi
    have e := flat_get (m := m) L (i * m + q) hL hlt
    have d1 : (i * m + q) / m = i := by rw [Nat.mul_comm, Nat.mul_add_div hm, Nat.div_eq_of_lt hq, Nat.add_zero]
    have d2 : (i * m + q) % m = q := by rw [Nat.mul_comm, Nat.mul_add_mod, Nat.mod_eq_of_lt hq]
    rw [d1, d2] at e
    have s1 : (struD (fun p => L.flatten.getD p 0) m i)[q] = L.flatten.getD (i * m + q) 0 := by simp [struD]
    rw [s1, e]
    simp [hi, hL _ (List.getElem_mem hi), hq]
/-- What the sort of a map's entries leaves. -/
theorem MapRow.sorted {m : Int → Int → Option Int} {nc : Nat} {c : Nat → Int} (h : MapRow m nc c) {left : Int → Int → Bool} {L : List (List Int)} (hL : Col3 m left L) (hd : ∀ x y, Wf x → Wf y → left x y = false) : L.length = nc ∧ ∀ d : Array (List Int), d.size = L.length → d.toList.Perm (rowD 3 L.length (fun p => L.flatten.getD p 0)).toList → SortedIn (ltOf (cf2 (fun x => x.getD 0 0) (fun x => x.getD 1 0))) 0 L.length d → ∀ t, t < nc * 3 → rowF 3 d t = c t := by
  have hp := h.perm hL hd
  have hlen : L.length = nc := by rw [hp.length_eq, Array.length_toList, rowD_size]
  refine ⟨hlen, fun d h1 h2 h3 t ht => ?_⟩
  rw [rowD_flat (by omega) L hL.len] at h2
  have e := sorted_is h1 h3 (h2.trans hp) h.up
  have e2 : d = rowD 3 nc c := by
    apply Array.ext'
    exact e
  rw [e2]
  exact rowF_rowD 3 nc c t ht
/-- A list of structs whose keys rise, which has just what a map has, is a map's row. -/
theorem mapRow_list {m : Int → Int → Option Int} {L : List (List Int)} (hl : ∀ t ∈ L, t.length = 3) (hu : L.Pairwise (Lt2 (fun x => x.getD 0 0) (fun x => x.getD 1 0))) (hw : ∀ x y v, [x, y, v] ∈ L → (Wf x ∧ Wf y) ∧ m x y = some v) (ha : ∀ x y v, Wf x → Wf y → m x y = some v → [x, y, v] ∈ L) : MapRow m L.length (fun p => L.flatten.getD p 0) := by
  have three : ∀ t ∈ L, t = [t.getD 0 0, t.getD 1 0, t.getD 2 0] := fun t ht => by
    have h3 := hl t ht
    match t, h3 with
    | [a, b, c], _ => rfl
  have get : ∀ i (hi : i < L.length) q, q < 3 → L.flatten.getD (i * 3 + q) 0 = (L[i]'hi).getD q 0 := fun i hi q hq => by
    rw [flat_get (m := 3) L (i * 3 + q) hl (by omega)]
    have d1 : (i * 3 + q) / 3 = i := by omega
    have d2 : (i * 3 + q) % 3 = q := by omega
    rw [d1, d2]
    simp [hi]
  have mem : ∀ i (hi : i < L.length), [L.flatten.getD (i * 3) 0, L.flatten.getD (i * 3 + 1) 0, L.flatten.getD (i * 3 + 2) 0] ∈ L := fun i hi => by
    have g0 := get i hi 0 (by omega)
    rw [Nat.add_zero] at g0
    rw [g0, get i hi 1 (by omega), get i hi 2 (by omega), ← three _ (List.getElem_mem hi)]
    exact List.getElem_mem hi
  refine ⟨fun j hj i hij => ?_, fun i hi => (hw _ _ _ (mem i hi)).1, fun i hi => (hw _ _ _ (mem i hi)).2, fun x y v hx hy hm => ?_⟩
  · have h := (List.pairwise_iff_getElem.1 hu) i j (by omega) hj hij
    have g0 := get i (by omega) 0 (by omega)
    have g1 := get j hj 0 (by omega)
    rw [Nat.add_zero] at g0 g1
    show pairLt (L.flatten.getD (i * 3) 0) (L.flatten.getD (i * 3 + 1) 0) (L.flatten.getD (j * 3) 0) (L.flatten.getD (j * 3 + 1) 0)
    rw [g0, g1, get i (by omega) 1 (by omega), get j hj 1 (by omega)]
    exact h
  · obtain ⟨i, hi, e⟩ := List.mem_iff_getElem.1 (ha x y v hx hy hm)
    have g0 := get i hi 0 (by omega)
    rw [Nat.add_zero] at g0
    refine ⟨i, hi, ?_, ?_, ?_⟩
    · show L.flatten.getD (i * 3) 0 = x
      rw [g0, e]; rfl
    · show L.flatten.getD (i * 3 + 1) 0 = y
      rw [get i hi 1 (by omega), e]; rfl
    · show L.flatten.getD (i * 3 + 2) 0 = v
      rw [get i hi 2 (by omega), e]; rfl
theorem puts_some {p q v : Nat → Int} {x y u : Int} : ∀ {n : Nat}, puts p q v n x y = some u → ∃ i, i < n ∧ p i = x ∧ q i = y ∧ v i = u
  | 0, h => by simp [puts] at h
  | n + 1, h => by
    unfold puts putM at h
    by_cases e : x = p n ∧ y = q n
    · rw [if_pos e] at h
      simp at h
      exact ⟨n, by omega, e.1.symm, e.2.symm, h⟩
    · rw [if_neg e] at h
      obtain ⟨i, hi, r⟩ := puts_some h
      exact ⟨i, by omega, r⟩
theorem cellM_some {S : Sto} {x y u : Int} (h : cellM S S.nc x y = some u) : ∃ i, i < S.nc ∧ S.c (i * 3) = x ∧ S.c (i * 3 + 1) = y ∧ S.c (i * 3 + 2) = u := puts_some h
end Go.Proofs.YtnkdphdpecgmiaaGreatDoor
