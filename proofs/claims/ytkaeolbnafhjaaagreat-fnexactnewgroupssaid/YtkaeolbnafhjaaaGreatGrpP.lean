/-
  Own text. Rows of ranges and of stores under way: what groupsTold and l7Cut stand on.
-/
import Derived.Test.YtkaeolbnafhjaaaGreatGrpG
import Derived.Test.YtkaeolbnafhjaaaGreatGrpO
namespace Go.Proofs.YtkaeolbnafhjaaaGreat
open Go.RowKit

/-- The lists of the first k stores, one behind the other. -/
def listU (U : Nat → Nat → Value) : Nat → List Value
  | 0 => []
  | k + 1 => listU U k ++ [U k 0, U k 1, U k 2]
theorem listU_len (U : Nat → Nat → Value) : ∀ k, (listU U k).length = k * 3
  | 0 => rfl
  | k + 1 => by
    show (listU U k ++ [U k 0, U k 1, U k 2]).length = (k + 1) * 3
    rw [List.length_append, listU_len U k]
    simp only [List.length_cons, List.length_nil]
    omega
theorem listU_at (U : Nat → Nat → Value) : ∀ k i, i < k → (listU U k)[i * 3]? = some (U i 0) ∧ (listU U k)[i * 3 + 1]? = some (U i 1) ∧ (listU U k)[i * 3 + 2]? = some (U i 2)
  | 0, i, hi => absurd hi (Nat.not_lt_zero i)
  | k + 1, i, hi => by
    have hl := listU_len U k
    show (listU U k ++ [U k 0, U k 1, U k 2])[i * 3]? = _ ∧ (listU U k ++ [U k 0, U k 1, U k 2])[i * 3 + 1]? = _ ∧ (listU U k ++ [U k 0, U k 1, U k 2])[i * 3 + 2]? = _
    by_cases q : i = k
    · subst q
      rw [List.getElem?_append_right (by omega), List.getElem?_append_right (by omega), List.getElem?_append_right (by omega), hl, Nat.sub_self, show i * 3 + 1 - i * 3 = 1 by omega, show i * 3 + 2 - i * 3 = 2 by omega]
      exact ⟨rfl, rfl, rfl⟩
    · obtain ⟨h0, h1, h2⟩ := listU_at U k i (by omega)
      rw [List.getElem?_append_left (by omega), List.getElem?_append_left (by omega), List.getElem?_append_left (by omega)]
      exact ⟨h0, h1, h2⟩
theorem listU_put (U : Nat → Nat → Value) (u0 u1 u2 : Value) : ∀ k j, j ≤ k → listU (putU U k u0 u1 u2) j = listU U j
  | _, 0, _ => rfl
  | k, j + 1, hj => by
    show listU (putU U k u0 u1 u2) j ++ [putU U k u0 u1 u2 j 0, putU U k u0 u1 u2 j 1, putU U k u0 u1 u2 j 2] = listU U j ++ [U j 0, U j 1, U j 2]
    rw [listU_put U u0 u1 u2 k j (by omega)]
    unfold putU
    rw [if_neg (by omega), if_neg (by omega), if_neg (by omega)]
theorem listU_new (U : Nat → Nat → Value) (u0 u1 u2 : Value) (k : Nat) : listU (putU U k u0 u1 u2) (k + 1) = listU U k ++ [u0, u1, u2] := by
  show listU (putU U k u0 u1 u2) k ++ [putU U k u0 u1 u2 k 0, putU U k u0 u1 u2 k 1, putU U k u0 u1 u2 k 2] = _
  rw [listU_put U u0 u1 u2 k k (Nat.le_refl _)]
  simp [putU]
/-- A row of stores that a call owns. -/
def OwnV (x : World) (B : Nat) (v : Value) (k : Nat) (U : Nat → Nat → Value) : Prop := x.ownsRow B 39 3 v k (listU U k)
theorem OwnV.block {x : World} {B : Nat} {v : Value} {k : Nat} {U : Nat → Nat → Value} (h : OwnV x B v k U) : ∀ q, v.ownBlock = some q → B ≤ q ∧ q < x.heap.size := World.ownsRow.lt h
theorem OwnV.keptB {x x' : World} {B : Nat} {v : Value} {k : Nat} {U : Nat → Nat → Value} (h : OwnV x B v k U) (hb : ∀ q, v.ownBlock = some q → x'.heap[q]? = x.heap[q]?) : OwnV x' B v k U := by
  obtain ⟨h1, h2⟩ := h
  refine ⟨h1, ?_⟩
  rcases h2 with q | ⟨g, cap, cur, rfl, q1, q2, q3⟩
  · exact Or.inl q
  · exact Or.inr ⟨g, cap, cur, rfl, q1, (hb g rfl).trans q2, q3⟩
theorem OwnV.later {x x' : World} {B : Nat} {v : Value} {k : Nat} {U : Nat → Nat → Value} (h : OwnV x B v k U) (hb : Below x.heap.size x x') : OwnV x' B v k U := h.keptB (fun q hq => hb.block q (h.block q hq).2)
theorem OwnV.far {x : World} {B : Nat} {v : Value} {k : Nat} {U : Nat → Nat → Value} (h : OwnV x B v k U) {a : Addr} (ha : a.block < B) (u : Value) : OwnV (x.setCell a u) B v k U := h.keptB (fun q hq => Below.heap_setCell x a u q (by have := (h.block q hq).1; omega))
theorem OwnV.fill {x : World} {B g cp : Nat} {k : Nat} {U : Nat → Nat → Value} (h : OwnV x B (.slice (some ⟨g, 0, none⟩) k cp) k U) : FillS x g k k U := by
  have hc : ∀ p, p < k * 3 → x.cell? ⟨g, p, none⟩ = (listU U k)[p]? := fun p hp => World.ownsRow.cellAt h p hp
  refine ⟨(h.block g rfl).2, fun p hp => ⟨⟨(listU U k)[p]'(by rw [listU_len]; exact hp), ?_⟩, World.ownsRow.frozenAt h p⟩, fun i hi => ?_⟩
  · rw [hc p hp, List.getElem?_eq_getElem]
  · obtain ⟨h0, h1, h2⟩ := listU_at U k i hi
    exact ⟨(hc _ (by omega)).trans h0, (hc _ (by omega)).trans h1, (hc _ (by omega)).trans h2⟩
/-- Groups under way: kr ranges and k stores are laid. -/
structure GT (w x : World) (kr k : Nat) (F : Nat → Int) (S : Nat → Sto) (U : Nat → Nat → Value) (z : Nat → Nat) (vr vs : Value) : Prop where
  below : Below w.heap.size w x
  res : Blk3 x w.heap.size (.int .i64 0) (.slice none 0 0) (.slice none 0 0)
  blk : Blk2 x (w.heap.size + 1) vr vs
  lo : w.heap.size + 2 ≤ x.heap.size
  rr : OwnM x (w.heap.size + 2) 81 3 vr kr (nums F (kr * 3))
  rs : OwnV x (w.heap.size + 2) vs k U
  fine : Fine x z k S U
  zl : ∀ i, i ≤ k → w.heap.size + 2 ≤ z i
  zh : z k ≤ x.heap.size
  sr : ∀ q, vr.ownBlock = some q → Spare k S U q
  ss : ∀ q, vs.ownBlock = some q → Spare k S U q
  ap : ApaO vr vs
theorem GT.later {w x x' : World} {kr k : Nat} {F : Nat → Int} {S : Nat → Sto} {U : Nat → Nat → Value} {z : Nat → Nat} {vr vs : Value} (h : GT w x kr k F S U z vr vs) (hb : Below x.heap.size x x') : GT w x' kr k F S U z vr vs :=
  ⟨h.below.trans (hb.mono h.below.size), h.res.later hb, h.blk.later hb, Nat.le_trans h.lo hb.size, h.rr.later hb, h.rs.later hb, h.fine.later hb, h.zl, Nat.le_trans h.zh hb.size, h.sr, h.ss, h.ap⟩
/-- What is turned is a list of its own: the stores' lists stand. -/
theorem Fine.past {x x' : World} {z : Nat → Nat} {k : Nat} {S : Nat → Sto} {U : Nat → Nat → Value} {v : Value} (h : Fine x z k S U) (hg : x.grownBy x' v.ownBlock) (hs : ∀ q, v.ownBlock = some q → Spare k S U q) : Fine x' z k S U := fun i hi => by
  obtain ⟨⟨⟨s0, s1, s2⟩, ⟨f0, f1, f2⟩, h3⟩, h4⟩ := h i hi
  have x0 : 0 < (S i).nc → ∀ k, (U i 0).ownBlock = some k → some k ≠ v.ownBlock := fun hp k hk e => (hs k e.symm i hi).1 hp k hk rfl
  have x1 : 0 < (S i).nl → ∀ k, (U i 1).ownBlock = some k → some k ≠ v.ownBlock := fun hp k hk e => (hs k e.symm i hi).2.1 hp k hk rfl
  have x2 : 0 < (S i).nw → ∀ k, (U i 2).ownBlock = some k → some k ≠ v.ownBlock := fun hp k hk e => (hs k e.symm i hi).2.2 hp k hk rfl
  exact ⟨⟨⟨s0.turned hg x0, s1.turned hg x1, s2.turned hg x2⟩, ⟨f0.turned s0 hg x0, f1.turned s1 hg x1, f2.turned s2 hg x2⟩, h3⟩, h4⟩
/-- A block behind all of them holds none of their lists. -/
theorem Fine.spare {x : World} {z : Nat → Nat} {k : Nat} {S : Nat → Sto} {U : Nat → Nat → Value} (h : Fine x z k S U) {q : Nat} (hq : z k ≤ q) : Spare k S U q := fun i hi => by
  obtain ⟨_, h4, _⟩ := h i hi
  have := h.up k (Nat.le_refl _) (i + 1) (by omega)
  exact h4.mono (fun p hp => by omega)
theorem blk2_past {x x' : World} {b : Nat} {row : Option Nat} {a0 a1 : Value} (h : Blk2 x b a0 a1) (hg : x.grownBy x' row) (hb : row ≠ some b) : Blk2 x' b a0 a1 := h.kept (hg.block b h.lt (fun q => hb q.symm))
theorem blk3_past {x x' : World} {b : Nat} {row : Option Nat} {a0 a1 a2 : Value} (h : Blk3 x b a0 a1 a2) (hg : x.grownBy x' row) (hb : row ≠ some b) : Blk3 x' b a0 a1 a2 := h.kept (hg.block b h.lt (fun q => hb q.symm))
theorem GT.putR {w x y : World} {kr k : Nat} {F : Nat → Int} {S : Nat → Sto} {U : Nat → Nat → Value} {z : Nat → Nat} {vr vs u : Value} (h : GT w x kr k F S U z vr vs) (ho : OwnM y (w.heap.size + 2) 81 3 u (kr + 1) (nums F ((kr + 1) * 3))) (hg : x.grownBy y vr.ownBlock) (hat : u.ownBlock = vr.ownBlock ∨ u.ownBlock = some x.heap.size) :
    GT w (y.setCell ⟨w.heap.size + 1, 0, none⟩ u) (kr + 1) k F S U z u vs := by
  have nb : ∀ b, b < w.heap.size + 2 → vr.ownBlock ≠ some b := fun b hb e => by have := (h.rr.block b e).1; omega
  have hlt : (⟨w.heap.size + 1, 0, none⟩ : Addr).block < w.heap.size + 2 := Nat.lt_succ_self _
  refine ⟨(below_past h.below h.rr (by omega) hg).setCell (Nat.le_succ _) _, (blk3_past h.res hg (nb _ (by omega))).setFar (by simp) _, (blk2_past h.blk hg (nb _ (by omega))).set0 _, by have := h.lo; have := hg.size; simp [World.setCell]; omega, ho.far hlt _, (h.rs.keptB (fun q hq => hg.block q (h.rs.block q hq).2 (fun e => h.ap q e.symm hq))).far hlt _, (h.fine.past hg h.sr).far (fun i hi => by have := h.zl i (by omega); show w.heap.size + 1 < z i; omega) _, h.zl, by have := h.zh; have := hg.size; simp [World.setCell]; omega, fun q hq => ?_, h.ss, fun q hq e => ?_⟩
  · rcases hat with e | e
    · exact h.sr q (e ▸ hq)
    · rw [e] at hq
      simp at hq
      exact h.fine.spare (by have := h.zh; omega)
  · rcases hat with e' | e'
    · exact h.ap q (e' ▸ hq) e
    · rw [e'] at hq
      simp at hq
      have := (h.rs.block q e).2
      omega
theorem GT.putS {w x y : World} {kr k : Nat} {F : Nat → Int} {S : Nat → Sto} {U : Nat → Nat → Value} {z : Nat → Nat} {vr vs u u0 u1 u2 : Value} {zz zt : Nat} (h : GT w x kr k F S U z vr vs) (hk : St x zz (S k) u0 u1 u2 ∧ FreeS x (S k) u0 u1 u2 ∧ ApartD (S k) u0 u1 u2) (hok : OwnIn (S k) u0 u1 u2 (fun q => zz ≤ q ∧ q < zt)) (hz : z k ≤ zz ∧ zz ≤ zt ∧ zt ≤ x.heap.size) (hr0 : ∀ q, vr.ownBlock = some q → q < zz) (hs0 : ∀ q, vs.ownBlock = some q → q < zz)
    (ho : OwnV y (w.heap.size + 2) u (k + 1) (putU U k u0 u1 u2)) (hg : x.grownBy y vs.ownBlock) (hat : u.ownBlock = vs.ownBlock ∨ u.ownBlock = some x.heap.size) :
    GT w (y.setCell ⟨w.heap.size + 1, 1, none⟩ u) kr (k + 1) F S (putU U k u0 u1 u2) (fun i => if i = k + 1 then zt else z i) vr u := by
  have nb : ∀ b, b < w.heap.size + 2 → vs.ownBlock ≠ some b := fun b hb e => by have := (h.rs.block b e).1; omega
  have hlt : (⟨w.heap.size + 1, 1, none⟩ : Addr).block < w.heap.size + 2 := Nat.lt_succ_self _
  have f1 : Fine x (fun i => if i = k + 1 then zt else z i) (k + 1) S (putU U k u0 u1 u2) := h.fine.put rfl ⟨hk.1.mono hz.1, hk.2⟩ (hok.mono (fun q hq => ⟨Nat.le_trans hz.1 hq.1, hq.2⟩)) (by omega)
  have spOld : ∀ q, q < zz → Spare k S U q → Spare (k + 1) S (putU U k u0 u1 u2) q := fun q hq hs i hi => by
    by_cases e : i = k
    · subst e
      simp only [putU, if_true]
      exact hok.mono (fun p hp => by omega)
    · have := hs i (by omega)
      simp only [putU, if_neg e]
      exact this
  have zl' : ∀ i, i ≤ k + 1 → w.heap.size + 2 ≤ (if i = k + 1 then zt else z i) := fun i hi => by
    by_cases e : i = k + 1
    · rw [if_pos e]; have := h.zl k (Nat.le_refl _); omega
    · rw [if_neg e]; exact h.zl i (by omega)
  have bel : Below w.heap.size w y := ⟨hg.os.trans h.below.os, hg.tape.trans h.below.tape, hg.output.trans h.below.output, Nat.le_trans h.below.size hg.size, fun i hi => (hg.block i (Nat.lt_of_lt_of_le hi h.below.size) (fun e => nb i (by omega) e.symm)).trans (h.below.block i hi)⟩
  refine ⟨bel.setCell (Nat.le_succ _) _, (blk3_past h.res hg (nb _ (by omega))).setFar (by simp) _, (blk2_past h.blk hg (nb _ (by omega))).set1 _, by have := h.lo; have := hg.size; simp [World.setCell]; omega, (h.rr.keptB (fun q hq => hg.block q (h.rr.block q hq).2 (fun e => h.ap q hq e.symm))).far hlt _, ho.far hlt _, (f1.past hg (fun q hq => spOld q (hs0 q hq) (h.ss q hq))).far (fun i hi => by have := zl' i (by omega); show w.heap.size + 1 < _; omega) _, zl', ?_, fun q hq => spOld q (hr0 q hq) (h.sr q hq), fun q hq => ?_, fun q hq e => ?_⟩
  · show (if k + 1 = k + 1 then zt else z (k + 1)) ≤ _
    rw [if_pos rfl]
    have := hg.size
    simp [World.setCell]
    omega
  · rcases hat with e | e
    · exact spOld q (hs0 q (e ▸ hq)) (h.ss q (e ▸ hq))
    · rw [e] at hq
      simp at hq
      refine f1.spare ?_
      show (if k + 1 = k + 1 then zt else z (k + 1)) ≤ q
      rw [if_pos rfl]
      omega
  · rcases hat with e' | e'
    · exact h.ap q hq (e' ▸ e)
    · rw [e'] at e
      simp at e
      have := hr0 q hq
      omega
theorem GT.fineR {w x : World} {k : Nat} {F : Nat → Int} {S : Nat → Sto} {U : Nat → Nat → Value} {z : Nat → Nat} {ra : Option Addr} {rc : Nat} {sa : Option Addr} {sc : Nat} (h : GT w x k k F S U z (.slice ra k rc) (.slice sa k sc)) : FineR x (w.heap.size + 2) x.heap.size k F k S ra rc sa U z := by
  have hl : (nums F (k * 3)).length = k * 3 := nums_length _ _
  have o := (h.rr.own hl).row
  refine ⟨⟨o.1.congr (fun p hp => ?_), o.2⟩, ⟨fun hk => ?_, h.fine⟩, ⟨fun i hi => h.zl i (by omega), fun i hi => Nat.le_trans (h.fine.up k (Nat.le_refl _) (i + 1) (by omega)) h.zh, Nat.le_refl _⟩, fun hk q hq => ⟨h.sr q hq, fun _ e => ?_, (h.rr.block q hq).2⟩⟩
  · simp [nums, hp]
  · rcases h.rs.2 with ⟨q, e⟩ | ⟨g, cap, cur, q, hb, hc, _⟩
    · omega
    · simp only [Value.slice.injEq] at q
      obtain ⟨rfl, _, rfl⟩ := q
      exact ⟨g, rfl, hb, OwnV.fill h.rs, h.ss g rfl⟩
  · subst e
    exact h.ap q hq rfl
end Go.Proofs.YtkaeolbnafhjaaaGreat
