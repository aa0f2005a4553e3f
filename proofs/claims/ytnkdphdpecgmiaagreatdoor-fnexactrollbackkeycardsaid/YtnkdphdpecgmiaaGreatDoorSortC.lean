/-
  Own text. Of one list there is one sorted permutation, where no two are alike: plain facts.
-/
import Derived.Test.YtnkdphdpecgmiaaGreatDoorSortB
namespace Go.Proofs.YtnkdphdpecgmiaaGreatDoor
open Go.RowKit Go.Sort Go.Shelf Go.Lib

theorem perm_strict {α : Type} {lt : α → α → Prop} (asym : ∀ x y, lt x y → ¬ lt y x) : ∀ {l l' : List α}, l.Perm l' → l.Pairwise lt → l'.Pairwise lt → l = l'
  | [], l', hp, _, _ => (List.nil_perm.1 hp).symm
  | a :: t, l', hp, h, h' => by
    cases l' with
    | nil => exact absurd (List.perm_nil.1 hp) (by simp)
    | cons b t' =>
      have hab : a = b := by
        have ha : a ∈ b :: t' := hp.mem_iff.1 List.mem_cons_self
        have hb : b ∈ a :: t := hp.mem_iff.2 List.mem_cons_self
        rcases List.mem_cons.1 ha with e | ha'
        · exact e
        · rcases List.mem_cons.1 hb with e | hb'
          · exact e.symm
          · exact absurd ((List.pairwise_cons.1 h').1 a ha') (asym a b ((List.pairwise_cons.1 h).1 b hb'))
      subst hab
      rw [perm_strict asym ((List.perm_cons a).1 hp) (List.pairwise_cons.1 h).2 (List.pairwise_cons.1 h').2]
/-- Below, by two numbers. -/
def Lt2 {α : Type} (k s : α → Int) (x y : α) : Prop := k x < k y ∨ k x = k y ∧ s x < s y
theorem Lt2.asym {α : Type} {k s : α → Int} {x y : α} (h : Lt2 k s x y) : ¬ Lt2 k s y x := by
  unfold Lt2 at *
  omega
theorem Lt2.total {α : Type} {k s : α → Int} {x y : α} (h : ¬ Lt2 k s y x) (hn : ¬ (k x = k y ∧ s x = s y)) : Lt2 k s x y := by
  unfold Lt2 at *
  omega
theorem Lt2.ne {α : Type} {k s : α → Int} {x y : α} (h : Lt2 k s x y) : ¬ (k x = k y ∧ s x = s y) := by
  unfold Lt2 at h
  omega
/-- What a sort by two numbers leaves is the list in which they rise, if there is one. -/
theorem sorted_is {k s : List Int → Int} {d : Array (List Int)} {n : Nat} (hd : d.size = n) (hs : SortedIn (ltOf (cf2 k s)) 0 n d) {l : List (List Int)} (hp : d.toList.Perm l) (hl : l.Pairwise (Lt2 k s)) : d.toList = l := by
  refine perm_strict (fun _ _ h => h.asym) hp ?_ hl
  have h1 : l.Pairwise (fun x y => ¬ (k x = k y ∧ s x = s y)) := hl.imp (fun h => h.ne)
  have h2 : d.toList.Pairwise (fun x y => ¬ (k x = k y ∧ s x = s y)) := (hp.pairwise_iff (fun {x y} h q => h ⟨q.1.symm, q.2.symm⟩)).2 h1
  rw [List.pairwise_iff_getElem] at h2 ⊢
  intro i j hi hj hij
  refine Lt2.total ?_ (h2 i j hi hj hij)
  have hi' : i < d.size := by simpa using hi
  have hj' : j < d.size := by simpa using hj
  have h3 := hs i j (Nat.zero_le _) hij (by omega)
  rw [lt_cf2, getElem!_pos d i hi', getElem!_pos d j hj'] at h3
  have h4 := of_decide_eq_false h3
  simpa [Lt2] using h4
end Go.Proofs.YtnkdphdpecgmiaaGreatDoor
