/-
  Own text. slices.SortFunc over a row of structs of numbers, by the library's contract: a permutation, sorted; nothing else is turned.
-/
import Derived.Test.YtnkdphdpecgmiaaGreatDoorSortA
import Derived.Test.YtnkdphdpecgmiaaGreatDoorColsA
import Derived.Test.YtnkdphdpecgmiaaGreatDoorLay
namespace Go.Proofs.YtnkdphdpecgmiaaGreatDoor
open Go.RowKit Go.Sort Go.Shelf Go.Lib

/-- A struct of m numbers, as its cells. -/
def encM (m : Nat) (x : List Int) : List Value := (List.range m).map fun q => Value.int .i64 (x.getD q 0)
theorem encM_len (m : Nat) (x : List Int) : (encM m x).length = m := by simp [encM]
theorem encM_one (m : Nat) (x : List Int) : ∀ v ∈ encM m x, v.oneCell' = true := by
  intro v hv
  simp only [encM, List.mem_map] at hv
  obtain ⟨q, _, rfl⟩ := hv
  rfl
theorem encM_get (m : Nat) (x : List Int) (q : Nat) (hq : q < m) : (encM m x)[q]! = .int .i64 (x.getD q 0) := by
  rw [getElem!_pos _ q (by rw [encM_len]; exact hq)]
  simp [encM]
/-- The structs of a row. -/
def rowD (m n : Nat) (F : Nat → Int) : Array (List Int) := (Array.range n).map fun i => (List.range m).map fun q => F (i * m + q)
theorem rowD_size (m n : Nat) (F : Nat → Int) : (rowD m n F).size = n := by simp [rowD]
theorem rowD_get (m n : Nat) (F : Nat → Int) (i : Nat) (hi : i < n) : (rowD m n F)[i]! = (List.range m).map fun q => F (i * m + q) := by
  rw [getElem!_pos _ i (by rw [rowD_size]; exact hi)]
  simp [rowD]
/-- The numbers of a row of structs. -/
def rowF (m : Nat) (d : Array (List Int)) : Nat → Int := fun t => (d[t / m]!).getD (t % m) 0
theorem div_lt {m n t : Nat} (ht : t < n * m) : t / m < n ∧ t % m < m := by
  have hm : 0 < m := Nat.pos_of_ne_zero (fun e => by subst e; simp at ht)
  exact ⟨(Nat.div_lt_iff_lt_mul hm).2 ht, Nat.mod_lt _ hm⟩
theorem rowF_rowD (m n : Nat) (F : Nat → Int) (t : Nat) (ht : t < n * m) : rowF m (rowD m n F) t = F t := by
  obtain ⟨h1, h2⟩ := div_lt ht
  unfold rowF
  rw [rowD_get m n F _ h1]
  have : ((List.range m).map fun q => F (t / m * m + q)).getD (t % m) 0 = F (t / m * m + t % m) := by simp [h2]
  rw [this, Nat.mul_comm, Nat.div_add_mod]
theorem holds_row {w : World} {B m n blk off cap : Nat} {F : Nat → Int} (h : Row w B m n F (.slice (some ⟨blk, off, none⟩) n cap)) (hf : Free w (n * m) (.slice (some ⟨blk, off, none⟩) n cap)) : HoldsK (encM m) m w blk off (rowD m n F) := by
  intro t ht
  rw [size_flatK, rowD_size] at ht
  obtain ⟨h1, h2⟩ := div_lt ht
  rw [get_flatK _ _ _ _ (by rw [rowD_size]; exact ht), encM_get _ _ _ h2]
  have hF := rowF_rowD m n F t ht
  unfold rowF at hF
  rw [hF]
  refine ⟨?_, hf blk off n cap rfl t ht⟩
  obtain ⟨g, o, he, _, _, hc⟩ := h.at h1
  simp at he
  obtain ⟨rfl, rfl⟩ := he
  have := hc (t % m) h2
  rw [Nat.add_assoc, Nat.mul_comm (t / m) m, Nat.div_add_mod] at this
  exact this
theorem row_holds {w : World} {B m n blk off cap : Nat} {d : Array (List Int)} (hd : d.size = n) (hB : B ≤ blk) (hb : blk < w.heap.size) (h : HoldsK (encM m) m w blk off d) : Row w B m n (rowF m d) (.slice (some ⟨blk, off, none⟩) n cap) ∧ Free w (n * m) (.slice (some ⟨blk, off, none⟩) n cap) := by
  have hc : ∀ t, t < n * m → w.cell? ⟨blk, off + t, none⟩ = some (.int .i64 (rowF m d t)) ∧ w.frozen? ⟨blk, off + t, none⟩ = false := by
    intro t ht
    obtain ⟨h1, h2⟩ := div_lt ht
    have := h t (by rw [size_flatK, hd]; exact ht)
    rw [get_flatK _ _ _ _ (by rw [hd]; exact ht), encM_get _ _ _ h2] at this
    exact this
  refine ⟨⟨_, _, rfl, fun _ => ⟨blk, off, rfl, hB, hb, fun t ht => (hc t ht).1⟩⟩, ?_⟩
  intro g o n' c hv t ht
  simp only [Value.slice.injEq, Option.some.injEq, Addr.mk.injEq] at hv
  obtain ⟨⟨rfl, rfl, _⟩, _, _⟩ := hv
  exact (hc t ht).2
theorem sort_grown (enc : List Int → List Value) (k : Nat) (w : World) (blk off q : Nat) (d : Array (List Int)) (os : Array Obj) : w.grownBy (sortWorldK enc k w blk off q d os) (some blk) := by
  refine ⟨rfl, rfl, rfl, size_sortWorldK_c enc k w blk off q d os, fun i hi hne => ?_⟩
  unfold sortWorldK putRowK putRow grow
  have h1 : i < (mapBlock (Go.Sort.ahead w q) blk (putCells id off (flatK enc k d))).heap.size := by simpa [mapBlock, Go.Sort.ahead] using hi
  show ((mapBlock (Go.Sort.ahead w q) blk (putCells id off (flatK enc k d))).heap ++ os)[i]? = w.heap[i]?
  rw [Array.getElem?_append_left h1]
  simp [mapBlock, Go.Sort.ahead, Array.getElem?_modify]
  intro e
  exact absurd (by rw [e]) hne
theorem extract_all (d : Array (List Int)) (n : Nat) (h : d.size = n) : d.extract 0 n = d := by
  subst h
  simp
theorem cmpCell_lays (blk off size : Nat) (w : World) : CmpLays Tryz.prog 103 #[] (encM 3) 3 (cf2 (fun x => x.getD 0 0) (fun x => x.getD 1 0)) blk off size w :=
  fun _ _ _ _ x y => compareCells_lays (x.getD 0 0) (x.getD 1 0) (x.getD 2 0) (y.getD 0 0) (y.getD 1 0) (y.getD 2 0) _ rfl _
set_option maxHeartbeats 1000000 in
theorem sortCell_is (B n blk off cap : Nat) (F : Nat → Int) (w : World) (h : Row w B 3 n F (.slice (some ⟨blk, off, none⟩) n cap)) (hf : Free w (n * 3) (.slice (some ⟨blk, off, none⟩) n cap)) (hB : B ≤ blk) (hb : blk < w.heap.size) (hn : n ≤ 1048576) :
    Calls Tryz.prog 102 #[.slice (some ⟨blk, off, none⟩) n cap, .func (.func 103) #[] #[]] w fun e w' => e = .returned (.tuple #[]) ∧ ∃ d : Array (List Int), d.size = n ∧ (d.toList.Perm (rowD 3 n F).toList ∧ SortedIn (ltOf (cf2 (fun x => x.getD 0 0) (fun x => x.getD 1 0))) 0 n d) ∧ (Row w' B 3 n (rowF 3 d) (.slice (some ⟨blk, off, none⟩) n cap) ∧ Free w' (n * 3) (.slice (some ⟨blk, off, none⟩) n cap)) ∧ w.grownBy w' (some blk) := by
  have eg : ∀ args w, (callFunc 103 args).run Tryz.prog w = .ok (.enter 103 args) w := enters_of Tryz.func103 (by kernel_rfl) rfl
  have hH := holds_row h hf
  have hcon := AnyQ.slices_SortFunc Tryz.sortCell 3 Tryz.isAgg86 Tryz.sizeOf86 (encM 3) (encM_len 3) (encM_one 3) (cf2 (fun x => x.getD 0 0) (fun x => x.getD 1 0)) (swo_cf2 _ _) 103 #[] blk off cap (rowD 3 n F) w eg (cmpCell_lays blk off _ w) hH hb (by rw [rowD_size]; omega)
  rw [rowD_size] at hcon
  change Calls Tryz.prog 102 _ _ _ at hcon
  refine hcon.mono ?_
  rintro e w' ⟨rfl, d, q, os, ⟨p1, _, p3⟩, hs, rfl⟩
  rw [rowD_size] at p1
  refine ⟨rfl, d, p1, ⟨?_, hs⟩, row_holds p1 hB (Nat.lt_of_lt_of_le hb (size_sortWorldK_c _ _ _ _ _ _ _ _)) (holdsK_sortWorldK_c _ _ _ _ _ (rowD 3 n F) _ _ _ hH hb (by rw [rowD_size, p1])), sort_grown _ _ _ _ _ _ _ _⟩
  rw [extract_all d n p1, extract_all (rowD 3 n F) n (rowD_size _ _ _)] at p3
  exact p3
end Go.Proofs.YtnkdphdpecgmiaaGreatDoor
