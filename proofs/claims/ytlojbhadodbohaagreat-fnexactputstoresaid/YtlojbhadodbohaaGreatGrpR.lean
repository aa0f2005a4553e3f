/-
  Own text, merged of GrpP, GrpQ, GrpR.
-/
import Derived.Test.YtlojbhadodbohaaGreatGrpG
import Derived.Test.YtlojbhadodbohaaGreatGrpO
import Derived.Test.YtlojbhadodbohaaGreatGrpM
import Derived.Test.YtlojbhadodbohaaGreatRngI
namespace Go.Proofs.YtlojbhadodbohaaGreat
section
open Go.RowKit
-- Own text. Rows of ranges and of stores under way: what groupsTold and l7Cut stand on.
/-- The lists of the first k stores, one behind the other. -/
def listU (U : Nat → Nat → Value) : Nat → List Value
  | 0 => []
  | k + 1 => listU U k ++ [U k 0, U k 1, U k 2]
theorem listU_len (U : Nat → Nat → Value) : ∀ k, (listU U k).length = k * 3
  | 0 => rfl
  | k + 1 => by
    show (listU U k ++ [U k 0, U k 1, U k 2]).length = (k + 1) * 3
    rw [List.length_append, listU_len U k]
    simp only [List.length_cons, List.length_nil]
    omega
theorem listU_at (U : Nat → Nat → Value) : ∀ k i, i < k → (listU U k)[i * 3]? = some (U i 0) ∧ (listU U k)[i * 3 + 1]? = some (U i 1) ∧ (listU U k)[i * 3 + 2]? = some (U i 2)
  | 0, i, hi => absurd hi (Nat.not_lt_zero i)
  | k + 1, i, hi => by
    have hl := listU_len U k
    show (listU U k ++ [U k 0, U k 1, U k 2])[i * 3]? = _ ∧ (listU U k ++ [U k 0, U k 1, U k 2])[i * 3 + 1]? = _ ∧ (listU U k ++ [U k 0, U k 1, U k 2])[i * 3 + 2]? = _
    by_cases q : i = k
    · subst q
      rw [List.getElem?_append_right (by omega), List.getElem?_append_right (by omega), List.getElem?_append_right (by omega), hl, Nat.sub_self, show i * 3 + 1 - i * 3 = 1 by omega, show i * 3 + 2 - i * 3 = 2 by omega]
      exact ⟨rfl, rfl, rfl⟩
    · obtain ⟨h0, h1, h2⟩ := listU_at U k i (by omega)
      rw [List.getElem?_append_left (by omega), List.getElem?_append_left (by omega), List.getElem?_append_left (by omega)]
      exact ⟨h0, h1, h2⟩
theorem listU_put (U : Nat → Nat → Value) (u0 u1 u2 : Value) : ∀ k j, j ≤ k → listU (putU U k u0 u1 u2) j = listU U j
  | _, 0, _ => rfl
  | k, j + 1, hj => by
    show listU (putU U k u0 u1 u2) j ++ [putU U k u0 u1 u2 j 0, putU U k u0 u1 u2 j 1, putU U k u0 u1 u2 j 2] = listU U j ++ [U j 0, U j 1, U j 2]
    rw [listU_put U u0 u1 u2 k j (by omega)]
    unfold putU
    rw [if_neg (by omega), if_neg (by omega), if_neg (by omega)]
theorem listU_new (U : Nat → Nat → Value) (u0 u1 u2 : Value) (k : Nat) : listU (putU U k u0 u1 u2) (k + 1) = listU U k ++ [u0, u1, u2] := by
  show listU (putU U k u0 u1 u2) k ++ [putU U k u0 u1 u2 k 0, putU U k u0 u1 u2 k 1, putU U k u0 u1 u2 k 2] = _
  rw [listU_put U u0 u1 u2 k k (Nat.le_refl _)]
  simp [putU]
/-- A row of stores that a call owns. -/
def OwnV (x : World) (B : Nat) (v : Value) (k : Nat) (U : Nat → Nat → Value) : Prop := x.ownsRow B 45 3 v k (listU U k)
theorem OwnV.block {x : World} {B : Nat} {v : Value} {k : Nat} {U : Nat → Nat → Value} (h : OwnV x B v k U) : ∀ q, v.ownBlock = some q → B ≤ q ∧ q < x.heap.size := World.ownsRow.lt h
theorem OwnV.keptB {x x' : World} {B : Nat} {v : Value} {k : Nat} {U : Nat → Nat → Value} (h : OwnV x B v k U) (hb : ∀ q, v.ownBlock = some q → x'.heap[q]? = x.heap[q]?) : OwnV x' B v k U := by
  obtain ⟨h1, h2⟩ := h
  refine ⟨h1, ?_⟩
  rcases h2 with q | ⟨g, cap, cur, rfl, q1, q2, q3⟩
  · exact Or.inl q
  · exact Or.inr ⟨g, cap, cur, rfl, q1, (hb g rfl).trans q2, q3⟩
theorem OwnV.later {x x' : World} {B : Nat} {v : Value} {k : Nat} {U : Nat → Nat → Value} (h : OwnV x B v k U) (hb : Below x.heap.size x x') : OwnV x' B v k U := h.keptB (fun q hq => hb.block q (h.block q hq).2)
theorem OwnV.far {x : World} {B : Nat} {v : Value} {k : Nat} {U : Nat → Nat → Value} (h : OwnV x B v k U) {a : Addr} (ha : a.block < B) (u : Value) : OwnV (x.setCell a u) B v k U := h.keptB (fun q hq => Below.heap_setCell x a u q (by have := (h.block q hq).1; omega))
theorem OwnV.fill {x : World} {B g cp : Nat} {k : Nat} {U : Nat → Nat → Value} (h : OwnV x B (.slice (some ⟨g, 0, none⟩) k cp) k U) : FillS x g k k U := by
  have hc : ∀ p, p < k * 3 → x.cell? ⟨g, p, none⟩ = (listU U k)[p]? := fun p hp => World.ownsRow.cellAt h p hp
  refine ⟨(h.block g rfl).2, fun p hp => ⟨⟨(listU U k)[p]'(by rw [listU_len]; exact hp), ?_⟩, World.ownsRow.frozenAt h p⟩, fun i hi => ?_⟩
  · rw [hc p hp, List.getElem?_eq_getElem]
  · obtain ⟨h0, h1, h2⟩ := listU_at U k i hi
    exact ⟨(hc _ (by omega)).trans h0, (hc _ (by omega)).trans h1, (hc _ (by omega)).trans h2⟩
/-- Groups under way: kr ranges and k stores are laid. -/
structure GT (w x : World) (kr k : Nat) (F : Nat → Int) (S : Nat → Sto) (U : Nat → Nat → Value) (z : Nat → Nat) (vr vs : Value) : Prop where
  below : Below w.heap.size w x
  res : Blk3 x w.heap.size (.int .i64 0) (.slice none 0 0) (.slice none 0 0)
  blk : Blk2 x (w.heap.size + 1) vr vs
  lo : w.heap.size + 2 ≤ x.heap.size
  rr : OwnM x (w.heap.size + 2) 102 3 vr kr (nums F (kr * 3))
  rs : OwnV x (w.heap.size + 2) vs k U
  fine : Fine x z k S U
  zl : ∀ i, i ≤ k → w.heap.size + 2 ≤ z i
  zh : z k ≤ x.heap.size
  sr : ∀ q, vr.ownBlock = some q → Spare k S U q
  ss : ∀ q, vs.ownBlock = some q → Spare k S U q
  ap : ApaO vr vs
theorem GT.later {w x x' : World} {kr k : Nat} {F : Nat → Int} {S : Nat → Sto} {U : Nat → Nat → Value} {z : Nat → Nat} {vr vs : Value} (h : GT w x kr k F S U z vr vs) (hb : Below x.heap.size x x') : GT w x' kr k F S U z vr vs :=
  ⟨h.below.trans (hb.mono h.below.size), h.res.later hb, h.blk.later hb, Nat.le_trans h.lo hb.size, h.rr.later hb, h.rs.later hb, h.fine.later hb, h.zl, Nat.le_trans h.zh hb.size, h.sr, h.ss, h.ap⟩
/-- What is turned is a list of its own: the stores' lists stand. -/
theorem Fine.past {x x' : World} {z : Nat → Nat} {k : Nat} {S : Nat → Sto} {U : Nat → Nat → Value} {v : Value} (h : Fine x z k S U) (hg : x.grownBy x' v.ownBlock) (hs : ∀ q, v.ownBlock = some q → Spare k S U q) : Fine x' z k S U := fun i hi => by
  obtain ⟨⟨⟨s0, s1, s2⟩, ⟨f0, f1, f2⟩, h3⟩, h4⟩ := h i hi
  have x0 : 0 < (S i).nc → ∀ k, (U i 0).ownBlock = some k → some k ≠ v.ownBlock := fun hp k hk e => (hs k e.symm i hi).1 hp k hk rfl
  have x1 : 0 < (S i).nl → ∀ k, (U i 1).ownBlock = some k → some k ≠ v.ownBlock := fun hp k hk e => (hs k e.symm i hi).2.1 hp k hk rfl
  have x2 : 0 < (S i).nw → ∀ k, (U i 2).ownBlock = some k → some k ≠ v.ownBlock := fun hp k hk e => (hs k e.symm i hi).2.2 hp k hk rfl
  exact ⟨⟨⟨s0.turned hg x0, s1.turned hg x1, s2.turned hg x2⟩, ⟨f0.turned s0 hg x0, f1.turned s1 hg x1, f2.turned s2 hg x2⟩, h3⟩, h4⟩
/-- A block behind all of them holds none of their lists. -/
theorem Fine.spare {x : World} {z : Nat → Nat} {k : Nat} {S : Nat → Sto} {U : Nat → Nat → Value} (h : Fine x z k S U) {q : Nat} (hq : z k ≤ q) : Spare k S U q := fun i hi => by
  obtain ⟨_, h4, _⟩ := h i hi
  have := h.up k (Nat.le_refl _) (i + 1) (by omega)
  exact h4.mono (fun p hp => by omega)
theorem blk2_past {x x' : World} {b : Nat} {row : Option Nat} {a0 a1 : Value} (h : Blk2 x b a0 a1) (hg : x.grownBy x' row) (hb : row ≠ some b) : Blk2 x' b a0 a1 := h.kept (hg.block b h.lt (fun q => hb q.symm))
theorem blk3_past {x x' : World} {b : Nat} {row : Option Nat} {a0 a1 a2 : Value} (h : Blk3 x b a0 a1 a2) (hg : x.grownBy x' row) (hb : row ≠ some b) : Blk3 x' b a0 a1 a2 := h.kept (hg.block b h.lt (fun q => hb q.symm))
theorem GT.putR {w x y : World} {kr k : Nat} {F : Nat → Int} {S : Nat → Sto} {U : Nat → Nat → Value} {z : Nat → Nat} {vr vs u : Value} (h : GT w x kr k F S U z vr vs) (ho : OwnM y (w.heap.size + 2) 102 3 u (kr + 1) (nums F ((kr + 1) * 3))) (hg : x.grownBy y vr.ownBlock) (hat : u.ownBlock = vr.ownBlock ∨ u.ownBlock = some x.heap.size) :
    GT w (y.setCell ⟨w.heap.size + 1, 0, none⟩ u) (kr + 1) k F S U z u vs := by
  have nb : ∀ b, b < w.heap.size + 2 → vr.ownBlock ≠ some b := fun b hb e => by have := (h.rr.block b e).1; omega
  have hlt : (⟨w.heap.size + 1, 0, none⟩ : Addr).block < w.heap.size + 2 := Nat.lt_succ_self _
  refine ⟨(below_past h.below h.rr (by omega) hg).setCell (Nat.le_succ _) _, (blk3_past h.res hg (nb _ (by omega))).setFar (by simp) _, (blk2_past h.blk hg (nb _ (by omega))).set0 _, by have := h.lo; have := hg.size; simp [World.setCell]; omega, ho.far hlt _, (h.rs.keptB (fun q hq => hg.block q (h.rs.block q hq).2 (fun e => h.ap q e.symm hq))).far hlt _, (h.fine.past hg h.sr).far (fun i hi => by have := h.zl i (by omega); show w.heap.size + 1 < z i; omega) _, h.zl, by have := h.zh; have := hg.size; simp [World.setCell]; omega, fun q hq => ?_, h.ss, fun q hq e => ?_⟩
  · rcases hat with e | e
    · exact h.sr q (e ▸ hq)
    · rw [e] at hq
      simp at hq
      exact h.fine.spare (by have := h.zh; omega)
  · rcases hat with e' | e'
    · exact h.ap q (e' ▸ hq) e
    · rw [e'] at hq
      simp at hq
      have := (h.rs.block q e).2
      omega
theorem GT.putS {w x y : World} {kr k : Nat} {F : Nat → Int} {S : Nat → Sto} {U : Nat → Nat → Value} {z : Nat → Nat} {vr vs u u0 u1 u2 : Value} {zz zt : Nat} (h : GT w x kr k F S U z vr vs) (hk : St x zz (S k) u0 u1 u2 ∧ FreeS x (S k) u0 u1 u2 ∧ ApartD (S k) u0 u1 u2) (hok : OwnIn (S k) u0 u1 u2 (fun q => zz ≤ q ∧ q < zt)) (hz : z k ≤ zz ∧ zz ≤ zt ∧ zt ≤ x.heap.size) (hr0 : ∀ q, vr.ownBlock = some q → q < zz) (hs0 : ∀ q, vs.ownBlock = some q → q < zz)
    (ho : OwnV y (w.heap.size + 2) u (k + 1) (putU U k u0 u1 u2)) (hg : x.grownBy y vs.ownBlock) (hat : u.ownBlock = vs.ownBlock ∨ u.ownBlock = some x.heap.size) :
    GT w (y.setCell ⟨w.heap.size + 1, 1, none⟩ u) kr (k + 1) F S (putU U k u0 u1 u2) (fun i => if i = k + 1 then zt else z i) vr u := by
  have nb : ∀ b, b < w.heap.size + 2 → vs.ownBlock ≠ some b := fun b hb e => by have := (h.rs.block b e).1; omega
  have hlt : (⟨w.heap.size + 1, 1, none⟩ : Addr).block < w.heap.size + 2 := Nat.lt_succ_self _
  have f1 : Fine x (fun i => if i = k + 1 then zt else z i) (k + 1) S (putU U k u0 u1 u2) := h.fine.put rfl ⟨hk.1.mono hz.1, hk.2⟩ (hok.mono (fun q hq => ⟨Nat.le_trans hz.1 hq.1, hq.2⟩)) (by omega)
  have spOld : ∀ q, q < zz → Spare k S U q → Spare (k + 1) S (putU U k u0 u1 u2) q := fun q hq hs i hi => by
    by_cases e : i = k
    · subst e
      simp only [putU, if_true]
      exact hok.mono (fun p hp => by omega)
    · have := hs i (by omega)
      simp only [putU, if_neg e]
      exact this
  have zl' : ∀ i, i ≤ k + 1 → w.heap.size + 2 ≤ (if i = k + 1 then zt else z i) := fun i hi => by
    by_cases e : i = k + 1
    · rw [if_pos e]; have := h.zl k (Nat.le_refl _); omega
    · rw [if_neg e]; exact h.zl i (by omega)
  have bel : Below w.heap.size w y := ⟨hg.os.trans h.below.os, hg.tape.trans h.below.tape, hg.output.trans h.below.output, Nat.le_trans h.below.size hg.size, fun i hi => (hg.block i (Nat.lt_of_lt_of_le hi h.below.size) (fun e => nb i (by omega) e.symm)).trans (h.below.block i hi)⟩
  refine ⟨bel.setCell (Nat.le_succ _) _, (blk3_past h.res hg (nb _ (by omega))).setFar (by simp) _, (blk2_past h.blk hg (nb _ (by omega))).set1 _, by have := h.lo; have := hg.size; simp [World.setCell]; omega, (h.rr.keptB (fun q hq => hg.block q (h.rr.block q hq).2 (fun e => h.ap q hq e.symm))).far hlt _, ho.far hlt _, (f1.past hg (fun q hq => spOld q (hs0 q hq) (h.ss q hq))).far (fun i hi => by have := zl' i (by omega); show w.heap.size + 1 < _; omega) _, zl', ?_, fun q hq => spOld q (hr0 q hq) (h.sr q hq), fun q hq => ?_, fun q hq e => ?_⟩
  · show (if k + 1 = k + 1 then zt else z (k + 1)) ≤ _
    rw [if_pos rfl]
    have := hg.size
    simp [World.setCell]
    omega
  · rcases hat with e | e
    · exact spOld q (hs0 q (e ▸ hq)) (h.ss q (e ▸ hq))
    · rw [e] at hq
      simp at hq
      refine f1.spare ?_
      show (if k + 1 = k + 1 then zt else z (k + 1)) ≤ q
      rw [if_pos rfl]
      omega
  · rcases hat with e' | e'
    · exact h.ap q hq (e' ▸ e)
    · rw [e'] at e
      simp at e
      have := hr0 q hq
      omega
theorem GT.fineR {w x : World} {k : Nat} {F : Nat → Int} {S : Nat → Sto} {U : Nat → Nat → Value} {z : Nat → Nat} {ra : Option Addr} {rc : Nat} {sa : Option Addr} {sc : Nat} (h : GT w x k k F S U z (.slice ra k rc) (.slice sa k sc)) : FineR x (w.heap.size + 2) x.heap.size k F k S ra rc sa U z := by
  have hl : (nums F (k * 3)).length = k * 3 := nums_length _ _
  have o := (h.rr.own hl).row
  refine ⟨⟨o.1.congr (fun p hp => ?_), o.2⟩, ⟨fun hk => ?_, h.fine⟩, ⟨fun i hi => h.zl i (by omega), fun i hi => Nat.le_trans (h.fine.up k (Nat.le_refl _) (i + 1) (by omega)) h.zh, Nat.le_refl _⟩, fun hk q hq => ⟨h.sr q hq, fun _ e => ?_, (h.rr.block q hq).2⟩⟩
  · simp [nums, hp]
  · rcases h.rs.2 with ⟨q, e⟩ | ⟨g, cap, cur, q, hb, hc, _⟩
    · omega
    · simp only [Value.slice.injEq] at q
      obtain ⟨rfl, _, rfl⟩ := q
      exact ⟨g, rfl, hb, OwnV.fill h.rs, h.ss g rfl⟩
  · subst e
    exact h.ap q hq rfl
end

section
open Go.RowKit Go.Maps
-- Own text. What the program's groupsTold answers: the ranges and the stores that are worked on, in new memory.
theorem ColsO.kept0 {x x' : World} {B b oo N : Nat} {m : Int → Int → Option Int} {nl : Nat} {l : Nat → Int} {nw : Nat} {k : Nat → Int} {g : Nat} {u1 u2 : Value} (h : ColsO x B b oo N m nl l nw k g u1 u2) (hb : Below x.heap.size x x') : ColsO x' B b oo N m nl l nw k g u1 u2 := h.later hb
theorem RSt.later {x x' : World} {B b : Nat} {fr to ep : Int} {N : Nat} {m : Int → Int → Option Int} {nl : Nat} {l : Nat → Int} {nw : Nat} {k : Nat → Int} {g : Nat} {u1 u2 : Value} (h : RSt x B b fr to ep N m nl l nw k g u1 u2) (hb : Below x.heap.size x x') : RSt x' B b fr to ep N m nl l nw k g u1 u2 := by
  have hl := h.2.1.2.2.1.lt
  exact ⟨⟨(hb.cell (p := ⟨b, 0, none⟩) hl).trans h.1.1, (hb.cell (p := ⟨b, 1, none⟩) hl).trans h.1.2.1, (hb.cell (p := ⟨b, 2, none⟩) hl).trans h.1.2.2⟩, h.2.1.later hb, h.2.2⟩
/-- The stores that are worked on: number i lies in block P i. -/
def Told (w : World) (B n : Nat) (F : Nat → Int) (S : Nat → Sto) (P : Nat → Nat) : Prop := ∀ i, i < n → ∃ N m g u1 u2, (N ≤ 400 ∧ (S i).nl ≤ 200 ∧ (S i).nw ≤ 200) ∧ MapRow m (S i).nc (S i).c ∧ RSt w B (P i) (F (i * 3)) (F (i * 3 + 1)) (F (i * 3 + 2)) N m (S i).nl (S i).l (S i).nw (S i).k g u1 u2
def PtrRow (w : World) (n : Nat) (pa : Option Addr) (P : Nat → Nat) : Prop := 0 < n → ∃ gp op, pa = some ⟨gp, op, none⟩ ∧ gp < w.heap.size ∧ ∀ i, i < n → w.cell? ⟨gp, op + i, none⟩ = some (.pointer (some ⟨P i, 0, none⟩))
theorem nums_three (F : Nat → Int) (k : Nat) : nums F ((k + 1) * 3) = nums F (k * 3) ++ [F (k * 3), F (k * 3 + 1), F (k * 3 + 2)] := by
  unfold nums
  rw [show (k + 1) * 3 = k * 3 + 1 + 1 + 1 by omega, List.range_succ, List.range_succ, List.range_succ]
  simp
theorem within_set (x : World) (b j : Nat) (u : Value) : Within b (b + 1) x (x.setCell ⟨b, j, none⟩ u) := ⟨rfl, rfl, rfl, by simp [World.setCell], fun q _ ho => Below.heap_setCell x ⟨b, j, none⟩ u q (by show q ≠ b; omega)⟩
theorem FineR.mono {w : World} {lo lo' tp nr : Nat} {F : Nat → Int} {n : Nat} {S : Nat → Sto} {ra : Option Addr} {rc : Nat} {sa : Option Addr} {U : Nat → Nat → Value} {z : Nat → Nat} (h : FineR w lo tp nr F n S ra rc sa U z) (hl : lo' ≤ lo) : FineR w lo' tp nr F n S ra rc sa U z :=
  ⟨⟨h.1.1.mono hl, h.1.2⟩, ⟨fun hn => by obtain ⟨g, x1, x2, x3⟩ := h.2.1.1 hn; exact ⟨g, x1, by omega, x3⟩, h.2.1.2⟩, ⟨fun i hi => Nat.le_trans hl (h.2.2.1.1 i hi), h.2.2.1.2⟩, h.2.2.2⟩
theorem FineR.up {w : World} {lo lo' tp nr : Nat} {F : Nat → Int} {n : Nat} {S : Nat → Sto} {ra : Option Addr} {rc : Nat} {sa : Option Addr} {U : Nat → Nat → Value} {z : Nat → Nat} (h : FineR w lo tp nr F n S ra rc sa U z) (hl : lo' ≤ lo) : FineR w lo' w.heap.size nr F n S ra rc sa U z := by
  have h' := h.mono hl
  refine ⟨h'.1, h'.2.1, ⟨h'.2.2.1.1, fun i hi => Nat.le_trans (h'.2.2.1.2.1 i hi) h'.2.2.1.2.2, Nat.le_refl _⟩, fun hn q e => ?_⟩
  obtain ⟨x1, x2, x3⟩ := h'.2.2.2 hn q e
  exact ⟨x1, x2, Nat.lt_of_lt_of_le x3 h'.2.2.1.2.2⟩
def RgS (pk : Nat) (fr to ep : Int) (x : World) : Prop := x.cell? ⟨pk, 0, none⟩ = some (.int .i64 fr) ∧ x.cell? ⟨pk, 1, none⟩ = some (.int .i64 to) ∧ x.cell? ⟨pk, 2, none⟩ = some (.int .i64 ep)
theorem RgS.below {w x : World} {pk : Nat} {fr to ep : Int} (h : RgS pk fr to ep w) (hb : Below w.heap.size w x) : RgS pk fr to ep x :=
  ⟨(hb.cell (p := ⟨pk, 0, none⟩) (World.block_lt_of_cell? w _ h.1)).trans h.1, (hb.cell (p := ⟨pk, 1, none⟩) (World.block_lt_of_cell? w _ h.2.1)).trans h.2.1, (hb.cell (p := ⟨pk, 2, none⟩) (World.block_lt_of_cell? w _ h.2.2)).trans h.2.2⟩
set_option maxRecDepth 100000 in
set_option maxHeartbeats 16000000 in
theorem groupsTold_is (n : Nat) (pa : Option Addr) (pc : Nat) (F : Nat → Int) (S : Nat → Sto) (P : Nat → Nat) (B : Nat) (w : World) (hp : PtrRow w n pa P) (ht : Told w B n F S P) (hn : n ≤ 12) :
    Calls Tryz.prog 46 #[.slice pa n pc] w (ResGr w 0 n F n S) := by
  have HP : Hid (PtrRow w n pa P) := hp
  have HT : Hid (Told w B n F S P) := ht
  clear hp ht
  go_enter Tryz.func46, Tryz.ntmps46
  go_wp2
  go_loopw [8] (fun i wr => ∃ (k : Nat) (U : Nat → Nat → Value) (z : Nat → Nat) (ra : Option Addr) (rc : Nat) (sa : Option Addr) (sc : Nat), k ≤ n ∧ i = .int .i64 k ∧ Hid (GT w wr k k F S U z (.slice ra k rc) (.slice sa k sc))) (fun i _ => n - (intOf i).toNat)
  case atStart =>
    refine ⟨0, fun _ _ => .bool true, fun _ => w.heap.size + 2, none, 0, none, 0, Nat.zero_le _, rfl, ⟨(below_alloc _ _).alloc (by simp) _, (Blk3.new w _ _ _ _).alloc _, ?_, by simp, OwnM.nil _ _ _ _, ⟨rfl, Or.inl ⟨rfl, rfl⟩⟩, fun i hi => absurd hi (Nat.not_lt_zero i), fun _ _ => Nat.le_refl _, by simp, (fun q e => by cases e), (fun q e => by cases e), (fun q e => by cases e)⟩⟩
    have := Blk2.new (w.alloc (.cells #[.int .i64 0, .slice none 0 0, .slice none 0 0] 38)) (.slice none 0 0) (.slice none 0 0) 36
    rwa [World.size_alloc] at this
  case round =>
    obtain ⟨k, U, z, ra, rc, sa, sc, hk, rfl, TT⟩ := hrel
    by_cases hlt : k < n
    · obtain ⟨gp, op, rfl, hgp, hpc⟩ := HP.out (by omega)
      have pk := (TT.out.below.cell (p := ⟨gp, op + k, none⟩) hgp).trans (hpc k hlt)
      obtain ⟨N, m, gm, u1, u2, hN, hM, hR⟩ := HT.out k hlt
      obtain ⟨fr, hfr⟩ : ∃ x, F (k * 3) = x := ⟨_, rfl⟩
      obtain ⟨to, hto⟩ : ∃ x, F (k * 3 + 1) = x := ⟨_, rfl⟩
      obtain ⟨ep, hep⟩ : ∃ x, F (k * 3 + 2) = x := ⟨_, rfl⟩
      rw [hfr, hto, hep] at hR
      have HF : Hid (F (k * 3) = fr ∧ F (k * 3 + 1) = to ∧ F (k * 3 + 2) = ep) := ⟨hfr, hto, hep⟩
      have RG : Hid (RgS (P k) fr to ep w) := hR.1
      have RS : Hid ((N ≤ 400 ∧ (S k).nl ≤ 200 ∧ (S k).nw ≤ 200) ∧ MapRow m (S k).nc (S k).c ∧ RSt w B (P k) fr to ep N m (S k).nl (S k).l (S k).nw (S k).k gm u1 u2) := ⟨hN, hM, hR⟩
      obtain ⟨i0, hi, hz0, hz1, hz2⟩ := info_parts info_Range
      obtain ⟨j0, gi, gz0, gz1, gz2⟩ := info_parts info_Store
      have F0 : wr.drew.cell? ⟨w.heap.size + 1, 0, none⟩ = some (.slice ra k rc) := TT.out.blk.1.1
      have F0d : wr.cell? ⟨w.heap.size + 1, 0, none⟩ = some (.slice ra k rc) := TT.out.blk.1.1
      have F1 : (wr.alloc (.cells #[.int .i64 fr, .int .i64 to, .int .i64 ep] 102)).drew.cell? ⟨w.heap.size + 1, 0, none⟩ = some (.slice ra k rc) := (TT.out.later (below_alloc _ _)).blk.1.1
      have F1d : (wr.alloc (.cells #[.int .i64 fr, .int .i64 to, .int .i64 ep] 102)).cell? ⟨w.heap.size + 1, 0, none⟩ = some (.slice ra k rc) := (TT.out.later (below_alloc _ _)).blk.1.1
      have TA : Hid (GT w (wr.alloc (.cells #[.int .i64 fr, .int .i64 to, .int .i64 ep] 102)).drew k k F S U z (.slice ra k rc) (.slice sa k sc)) := TT.out.later (below_alloc _ _).drew
      clear hN hM hR hfr hto hep hpc
      go_upto_region 5 with fail
      clear pk
      refine wp_region_held_drew (S := RgS (P k) fr to ep) (by kernel_rfl) (RG.out.below TT.out.below.drew) (fun hS => ?_)
      refine wpAnyH_take (i := 0) (v := ?_) rfl (by kernel_rfl) (by kernel_rfl) (by kernel_rfl) (fun _ _ _ h => h) (Or.inl ⟨by kernel_rfl, ?_⟩) hS ?_
      rotate_left
      · intro wx hx
        obtain ⟨hx0, hx1, hx2⟩ := hx
        go_simp
        try with_reducible rfl
      refine wpAnyH_take (i := 2) (v := ?_) rfl (by kernel_rfl) (by kernel_rfl) (by kernel_rfl) (fun _ _ _ h => h) (Or.inl ⟨by kernel_rfl, ?_⟩) hS ?_
      rotate_left
      · intro wx hx
        obtain ⟨hx0, hx1, hx2⟩ := hx
        go_simp
        try with_reducible rfl
      refine wpAnyH_take (i := 3) (v := ?_) rfl (by kernel_rfl) (by kernel_rfl) (by kernel_rfl) (fun _ _ _ h => h) (Or.inl ⟨by kernel_rfl, ?_⟩) hS ?_
      rotate_left
      · intro wx hx
        obtain ⟨hx0, hx1, hx2⟩ := hx
        go_simp
        try with_reducible rfl
      refine wpAnyH_take (i := 4) (v := ?_) rfl (by kernel_rfl) (by kernel_rfl) (by kernel_rfl) (fun _ _ _ h => h) (Or.inl ⟨by kernel_rfl, ?_⟩) hS ?_
      rotate_left
      · intro wx hx
        obtain ⟨hx0, hx1, hx2⟩ := hx
        go_simp
        try with_reducible rfl
      refine wpAnyH_take (i := 5) (v := ?_) rfl (by kernel_rfl) (by kernel_rfl) (by kernel_rfl) (fun _ _ _ h => h) (Or.inl ⟨by kernel_rfl, ?_⟩) hS ?_
      rotate_left
      · intro wx hx
        obtain ⟨hx0, hx1, hx2⟩ := hx
        go_simp
        try with_reducible rfl
      refine wpAnyH_ready (rs := [1, 6]) (by kernel_rfl) (by simp) ?_
      refine AllReadyH.cons rfl (fun K hK => ?_) (AllReadyH.cons rfl (fun K hK => ?_) AllReadyH.nil)
      · go_simp
        refine hK.out _ _ hS (fun hS => ?_)
        clear hK K
        refine wpAnyH_ready (rs := [6]) (by kernel_rfl) (by simp) ?_
        refine AllReadyH.cons rfl (fun K hK => ?_) AllReadyH.nil
        go_simp
        refine hK.out _ _ (RG.out.below TA.out.below) (fun hS => ?_)
        clear hK K
        refine wpAnyH_ready (rs := [7]) (by kernel_rfl) (by simp) ?_
        refine AllReadyH.cons rfl (fun K hK => ?_) AllReadyH.nil
        refine step_append_lies _ (by rfl) _ _ 33 (by rfl) (w.heap.size + 2) 102 i0 (.agg #[.int .i64 0, .int .i64 0, .int .i64 0]) 3 24 Tryz.underlying33 hi hz0 hz1 hz2 rfl (by omega) (.slice ra k rc) k _ (by rfl) TA.out.rr ⟨wr.heap.size, 0, none⟩ 1 1 [.int .i64 fr, .int .i64 to, .int .i64 ep] (by rfl) (by rfl) (World.news_of_block (cs := #[.int .i64 fr, .int .i64 to, .int .i64 ep]) (t := 102) (fr := (0, 0)) (heap_alloc_new wr _)) (by simp [Value.oneCell']) (by omega) (by unfold maxLen; omega) (by omega) TA.out.lo (wr.heap.size + 1) (by simp) ?_
        intro gg cap y OY GY AY LY
        have OR : OwnM y (w.heap.size + 2) 102 3 (.slice (some ⟨gg, 0, none⟩) (k + 1) cap) (k + 1) (nums F ((k + 1) * 3)) := by
          unfold OwnM
          rw [nums_three, HF.out.1, HF.out.2.1, HF.out.2.2, List.map_append]
          exact OY
        have T1 := TA.out.putR OR GY (by rcases AY with e | e; exact Or.inl e.symm; exact Or.inr (by rw [e]; simp [Value.ownBlock]))
        have hS' := RG.out.below (below_past TA.out.below TA.out.rr (by omega) GY)
        refine hK.out _ _ hS' (fun hS => ?_)
        clear hK K hS'
        refine wpAnyH_take (i := 8) (v := ?_) rfl (by kernel_rfl) (by kernel_rfl) (by kernel_rfl) (fun _ _ _ h => h) (Or.inl ⟨by kernel_rfl, ?_⟩) hS ?_
        rotate_left
        · intro wx hx
          obtain ⟨hx0, hx1, hx2⟩ := hx
          go_simp
          try with_reducible rfl
        obtain ⟨⟨t0, t1⟩, ft0, ft1⟩ := blk2_past TA.out.blk GY (fun e => by have := (TA.out.rr.block _ e).1; omega)
        have T1' : Hid (GT w (y.setCell ⟨w.heap.size + 1, 0, none⟩ (.slice (some ⟨gg, 0, none⟩) (k + 1) cap)) (k + 1) k F S U z (.slice (some ⟨gg, 0, none⟩) (k + 1) cap) (.slice sa k sc)) := T1
        clear T1
        refine wpAnyH_ready (rs := [9]) (by kernel_rfl) (by simp) ?_
        refine AllReadyH.cons rfl (fun K hK => ?_) AllReadyH.nil
        go_simp
        refine hK.out _ _ (RG.out.below T1'.out.below) (fun hS => ?_)
        clear hK K
        refine wpAnyH_done (by kernel_rfl) ?_ _
        clear hS
        go_simp
        generalize y.setCell ⟨w.heap.size + 1, 0, none⟩ (.slice (some ⟨gg, 0, none⟩) (k + 1) cap) = x1 at T1' ⊢
        clear t0 t1 ft0 ft1 OY GY AY LY OR TA TT F0 F1 F1d F0d
        go_wp2_with fail
        have G0 : x1.drew.cell? ⟨w.heap.size + 1, 1, none⟩ = some (.slice sa k sc) := T1'.out.blk.1.2
        refine wp_region_held_drew (S := fun _ => True) (by kernel_rfl) trivial (fun hS => ?_)
        refine wpAnyH_take (i := 0) (v := ?_) rfl (by kernel_rfl) (by kernel_rfl) (by kernel_rfl) (fun _ _ _ h => h) (Or.inl ⟨by kernel_rfl, ?_⟩) hS ?_
        rotate_left
        · intro wx hx
          go_simp
          try with_reducible rfl
        refine wpAnyH_take (i := 2) (v := ?_) rfl (by kernel_rfl) (by kernel_rfl) (by kernel_rfl) (fun _ _ _ h => h) (Or.inl ⟨by kernel_rfl, ?_⟩) hS ?_
        rotate_left
        · intro wx hx
          go_simp
          try with_reducible rfl
        refine wpAnyH_take (i := 3) (v := ?_) rfl (by kernel_rfl) (by kernel_rfl) (by kernel_rfl) (fun _ _ _ h => h) (Or.inl ⟨by kernel_rfl, ?_⟩) hS ?_
        rotate_left
        · intro wx hx
          go_simp
          try with_reducible rfl
        refine wpAnyH_take (i := 4) (v := ?_) rfl (by kernel_rfl) (by kernel_rfl) (by kernel_rfl) (fun _ _ _ h => h) (Or.inl ⟨by kernel_rfl, ?_⟩) hS ?_
        rotate_left
        · intro wx hx
          go_simp
          try with_reducible rfl
        refine wpAnyH_ready (rs := [1, 5]) (by kernel_rfl) (by simp) ?_
        refine AllReadyH.cons rfl (fun K hK => ?_) (AllReadyH.cons rfl (fun K hK => ?_) AllReadyH.nil)
        · go_simp
          refine hK.out _ _ trivial (fun hS => ?_)
          clear hK K
          refine wpAnyH_ready (rs := [5]) (by kernel_rfl) (by simp) ?_
          refine AllReadyH.cons rfl (fun K hK => ?_) AllReadyH.nil
          go_simp
          go_wp2_with fail
          refine (store_isO _ (P k) 3 _ _ _ _ _ _ gm u1 u2 _ (((RS.out.2.2.later T1'.out.below).2.1).later (below_dr (Below.refl _ _) 1)) RS.out.1.2.1 RS.out.1.2.2 RS.out.1.1 (S k).nc (S k).c RS.out.2.1).mono ?_
          rintro e x2 ⟨d0, e0, d1, e1, d2, e2, rfl, ⟨s3, f3, a3⟩, q2⟩
          have q2' : Below x1.heap.size x1 x2 := ⟨q2.os, q2.tape, q2.output, q2.size, q2.block⟩
          have ZX : Hid (x1.heap.size ≤ x2.heap.size) := q2'.size
          have TB : Hid (GT w x2 (k + 1) k F S U z (.slice (some ⟨gg, 0, none⟩) (k + 1) cap) (.slice sa k sc)) := T1'.out.later q2'
          have SC : Hid ((St (x2.alloc (.cells #[.slice d0 (S k).nc e0, .slice d1 (S k).nl e1, .slice d2 (S k).nw e2] 45)) x1.heap.size (S k) (.slice d0 (S k).nc e0) (.slice d1 (S k).nl e1) (.slice d2 (S k).nw e2) ∧ FreeS (x2.alloc (.cells #[.slice d0 (S k).nc e0, .slice d1 (S k).nl e1, .slice d2 (S k).nw e2] 45)) (S k) (.slice d0 (S k).nc e0) (.slice d1 (S k).nl e1) (.slice d2 (S k).nw e2) ∧ ApartD (S k) (.slice d0 (S k).nc e0) (.slice d1 (S k).nl e1) (.slice d2 (S k).nw e2)) ∧ OwnIn (S k) (.slice d0 (S k).nc e0) (.slice d1 (S k).nl e1) (.slice d2 (S k).nw e2) (fun q => x1.heap.size ≤ q ∧ q < x2.heap.size)) := ⟨⟨s3.alloc _, f3.later s3 (below_alloc _ _), a3⟩, s3.ownIn⟩
          have TC : Hid (GT w (x2.alloc (.cells #[.slice d0 (S k).nc e0, .slice d1 (S k).nl e1, .slice d2 (S k).nw e2] 45)) (k + 1) k F S U z (.slice (some ⟨gg, 0, none⟩) (k + 1) cap) (.slice sa k sc)) := TB.out.later (below_alloc _ _)
          have G2 : x2.cell? ⟨w.heap.size + 1, 1, none⟩ = some (.slice sa k sc) := TB.out.blk.1.2
          have G3 : (x2.alloc (.cells #[.slice d0 (S k).nc e0, .slice d1 (S k).nl e1, .slice d2 (S k).nw e2] 45)).cell? ⟨w.heap.size + 1, 1, none⟩ = some (.slice sa k sc) := TC.out.blk.1.2
          have G3d : True := trivial
          clear s3 f3 a3 q2 q2' TB
          go_wp2_with fail
          refine hK.out _ _ trivial (fun hS => ?_)
          clear hK K
          refine wpAnyH_ready (rs := [6]) (by kernel_rfl) (by simp) ?_
          refine AllReadyH.cons rfl (fun K hK => ?_) AllReadyH.nil
          go_simp
          refine hK.out _ _ trivial (fun hS => ?_)
          clear hK K
          refine wpAnyH_ready (rs := [7]) (by kernel_rfl) (by simp) ?_
          refine AllReadyH.cons rfl (fun K hK => ?_) AllReadyH.nil
          refine step_append_lies _ (by rfl) _ _ 34 (by rfl) (w.heap.size + 2) 45 j0 (.agg #[.slice none 0 0, .slice none 0 0, .slice none 0 0]) 3 72 Tryz.underlying34 gi gz0 gz1 gz2 rfl (by omega) (.slice sa k sc) k _ (by rfl) TC.out.rs ⟨x2.heap.size, 0, none⟩ 1 1 [.slice d0 (S k).nc e0, .slice d1 (S k).nl e1, .slice d2 (S k).nw e2] (by rfl) (by rfl) (World.news_of_block (cs := #[.slice d0 (S k).nc e0, .slice d1 (S k).nl e1, .slice d2 (S k).nw e2]) (t := 45) (fr := (0, 0)) (heap_alloc_new x2 _)) (by simp [Value.oneCell']) (by omega) (by unfold maxLen; omega) (by omega) TC.out.lo (x2.heap.size + 1) (by simp) ?_
          intro hh cap' y OY GY AY LY
          have OS : OwnV y (w.heap.size + 2) (.slice (some ⟨hh, 0, none⟩) (k + 1) cap') (k + 1) (putU U k (.slice d0 (S k).nc e0) (.slice d1 (S k).nl e1) (.slice d2 (S k).nw e2)) := by
            unfold OwnV
            rw [listU_new]
            exact OY
          have T2 : Hid (GT w (y.setCell ⟨w.heap.size + 1, 1, none⟩ (.slice (some ⟨hh, 0, none⟩) (k + 1) cap')) (k + 1) (k + 1) F S (putU U k (.slice d0 (S k).nc e0) (.slice d1 (S k).nl e1) (.slice d2 (S k).nw e2)) (fun i => if i = k + 1 then x2.heap.size else z i) (.slice (some ⟨gg, 0, none⟩) (k + 1) cap) (.slice (some ⟨hh, 0, none⟩) (k + 1) cap')) := TC.out.putS (zz := x1.heap.size) (zt := x2.heap.size) SC.out.1 SC.out.2 ⟨T1'.out.zh, ZX.out, by simp⟩ (fun q e => (T1'.out.rr.block q e).2) (fun q e => (T1'.out.rs.block q e).2) OS GY (by rcases AY with e | e; exact Or.inl e.symm; exact Or.inr (by rw [e]; simp [Value.ownBlock]))
          refine hK.out _ _ trivial (fun hS => ?_)
          clear hK K
          refine wpAnyH_take (i := 8) (v := ?_) rfl (by kernel_rfl) (by kernel_rfl) (by kernel_rfl) (fun _ _ _ h => h) (Or.inl ⟨by kernel_rfl, ?_⟩) hS ?_
          rotate_left
          · intro wx hx
            go_simp
            try with_reducible rfl
          obtain ⟨⟨t0, t1⟩, ft0, ft1⟩ := blk2_past TC.out.blk GY (fun e => by have := (TC.out.rs.block _ e).1; omega)
          refine wpAnyH_ready (rs := [9]) (by kernel_rfl) (by simp) ?_
          refine AllReadyH.cons rfl (fun K hK => ?_) AllReadyH.nil
          go_simp
          refine hK.out _ _ trivial (fun hS => ?_)
          clear hK K
          refine wpAnyH_done (by kernel_rfl) ?_ _
          clear hS
          go_simp
          generalize y.setCell ⟨w.heap.size + 1, 1, none⟩ (.slice (some ⟨hh, 0, none⟩) (k + 1) cap') = x4 at T2 ⊢
          clear t0 t1 ft0 ft1 OY GY AY LY OS TC SC ZX T1' G0 G2 G3 G3d
          go_wp2
          go_roundw
          case rel => exact ⟨k + 1, putU U k (.slice d0 (S k).nc e0) (.slice d1 (S k).nl e1) (.slice d2 (S k).nw e2), fun i => if i = k + 1 then x2.heap.size else z i, some ⟨gg, 0, none⟩, cap, some ⟨hh, 0, none⟩, cap', by omega, by go_num, T2⟩
          case measure => simp [intOf]; omega
        · go_simp
          go_wp2_with fail
          refine (store_isO _ (P k) 3 _ _ _ _ _ _ gm u1 u2 _ (((RS.out.2.2.later T1'.out.below).2.1).later (below_dr (Below.refl _ _) 1)) RS.out.1.2.1 RS.out.1.2.2 RS.out.1.1 (S k).nc (S k).c RS.out.2.1).mono ?_
          rintro e x2 ⟨d0, e0, d1, e1, d2, e2, rfl, ⟨s3, f3, a3⟩, q2⟩
          have q2' : Below x1.heap.size x1 x2 := ⟨q2.os, q2.tape, q2.output, q2.size, q2.block⟩
          have ZX : Hid (x1.heap.size ≤ x2.heap.size) := q2'.size
          have TB : Hid (GT w x2 (k + 1) k F S U z (.slice (some ⟨gg, 0, none⟩) (k + 1) cap) (.slice sa k sc)) := T1'.out.later q2'
          have SC : Hid ((St (x2.alloc (.cells #[.slice d0 (S k).nc e0, .slice d1 (S k).nl e1, .slice d2 (S k).nw e2] 45)) x1.heap.size (S k) (.slice d0 (S k).nc e0) (.slice d1 (S k).nl e1) (.slice d2 (S k).nw e2) ∧ FreeS (x2.alloc (.cells #[.slice d0 (S k).nc e0, .slice d1 (S k).nl e1, .slice d2 (S k).nw e2] 45)) (S k) (.slice d0 (S k).nc e0) (.slice d1 (S k).nl e1) (.slice d2 (S k).nw e2) ∧ ApartD (S k) (.slice d0 (S k).nc e0) (.slice d1 (S k).nl e1) (.slice d2 (S k).nw e2)) ∧ OwnIn (S k) (.slice d0 (S k).nc e0) (.slice d1 (S k).nl e1) (.slice d2 (S k).nw e2) (fun q => x1.heap.size ≤ q ∧ q < x2.heap.size)) := ⟨⟨s3.alloc _, f3.later s3 (below_alloc _ _), a3⟩, s3.ownIn⟩
          have TC : Hid (GT w (x2.alloc (.cells #[.slice d0 (S k).nc e0, .slice d1 (S k).nl e1, .slice d2 (S k).nw e2] 45)) (k + 1) k F S U z (.slice (some ⟨gg, 0, none⟩) (k + 1) cap) (.slice sa k sc)) := TB.out.later (below_alloc _ _)
          have G2 : x2.cell? ⟨w.heap.size + 1, 1, none⟩ = some (.slice sa k sc) := TB.out.blk.1.2
          have G3 : (x2.alloc (.cells #[.slice d0 (S k).nc e0, .slice d1 (S k).nl e1, .slice d2 (S k).nw e2] 45)).cell? ⟨w.heap.size + 1, 1, none⟩ = some (.slice sa k sc) := TC.out.blk.1.2
          have G3d : True := trivial
          clear s3 f3 a3 q2 q2' TB
          go_wp2_with fail
          refine hK.out _ _ trivial (fun hS => ?_)
          clear hK K
          refine wpAnyH_ready (rs := [1, 6]) (by kernel_rfl) (by simp) ?_
          refine AllReadyH.cons rfl (fun K hK => ?_) (AllReadyH.cons rfl (fun K hK => ?_) AllReadyH.nil)
          · go_simp
            refine hK.out _ _ trivial (fun hS => ?_)
            clear hK K
            refine wpAnyH_ready (rs := [6]) (by kernel_rfl) (by simp) ?_
            refine AllReadyH.cons rfl (fun K hK => ?_) AllReadyH.nil
            go_simp
            refine hK.out _ _ trivial (fun hS => ?_)
            clear hK K
            refine wpAnyH_ready (rs := [7]) (by kernel_rfl) (by simp) ?_
            refine AllReadyH.cons rfl (fun K hK => ?_) AllReadyH.nil
            refine step_append_lies _ (by rfl) _ _ 34 (by rfl) (w.heap.size + 2) 45 j0 (.agg #[.slice none 0 0, .slice none 0 0, .slice none 0 0]) 3 72 Tryz.underlying34 gi gz0 gz1 gz2 rfl (by omega) (.slice sa k sc) k _ (by rfl) TC.out.rs ⟨x2.heap.size, 0, none⟩ 1 1 [.slice d0 (S k).nc e0, .slice d1 (S k).nl e1, .slice d2 (S k).nw e2] (by rfl) (by rfl) (World.news_of_block (cs := #[.slice d0 (S k).nc e0, .slice d1 (S k).nl e1, .slice d2 (S k).nw e2]) (t := 45) (fr := (0, 0)) (heap_alloc_new x2 _)) (by simp [Value.oneCell']) (by omega) (by unfold maxLen; omega) (by omega) TC.out.lo (x2.heap.size + 1) (by simp) ?_
            intro hh cap' y OY GY AY LY
            have OS : OwnV y (w.heap.size + 2) (.slice (some ⟨hh, 0, none⟩) (k + 1) cap') (k + 1) (putU U k (.slice d0 (S k).nc e0) (.slice d1 (S k).nl e1) (.slice d2 (S k).nw e2)) := by
              unfold OwnV
              rw [listU_new]
              exact OY
            have T2 : Hid (GT w (y.setCell ⟨w.heap.size + 1, 1, none⟩ (.slice (some ⟨hh, 0, none⟩) (k + 1) cap')) (k + 1) (k + 1) F S (putU U k (.slice d0 (S k).nc e0) (.slice d1 (S k).nl e1) (.slice d2 (S k).nw e2)) (fun i => if i = k + 1 then x2.heap.size else z i) (.slice (some ⟨gg, 0, none⟩) (k + 1) cap) (.slice (some ⟨hh, 0, none⟩) (k + 1) cap')) := TC.out.putS (zz := x1.heap.size) (zt := x2.heap.size) SC.out.1 SC.out.2 ⟨T1'.out.zh, ZX.out, by simp⟩ (fun q e => (T1'.out.rr.block q e).2) (fun q e => (T1'.out.rs.block q e).2) OS GY (by rcases AY with e | e; exact Or.inl e.symm; exact Or.inr (by rw [e]; simp [Value.ownBlock]))
            refine hK.out _ _ trivial (fun hS => ?_)
            clear hK K
            refine wpAnyH_take (i := 8) (v := ?_) rfl (by kernel_rfl) (by kernel_rfl) (by kernel_rfl) (fun _ _ _ h => h) (Or.inl ⟨by kernel_rfl, ?_⟩) hS ?_
            rotate_left
            · intro wx hx
              go_simp
              try with_reducible rfl
            obtain ⟨⟨t0, t1⟩, ft0, ft1⟩ := blk2_past TC.out.blk GY (fun e => by have := (TC.out.rs.block _ e).1; omega)
            refine wpAnyH_ready (rs := [9]) (by kernel_rfl) (by simp) ?_
            refine AllReadyH.cons rfl (fun K hK => ?_) AllReadyH.nil
            go_simp
            refine hK.out _ _ trivial (fun hS => ?_)
            clear hK K
            refine wpAnyH_done (by kernel_rfl) ?_ _
            clear hS
            go_simp
            generalize y.setCell ⟨w.heap.size + 1, 1, none⟩ (.slice (some ⟨hh, 0, none⟩) (k + 1) cap') = x4 at T2 ⊢
            clear t0 t1 ft0 ft1 OY GY AY LY OS TC SC ZX T1' G0 G2 G3 G3d
            go_wp2
            go_roundw
            case rel => exact ⟨k + 1, putU U k (.slice d0 (S k).nc e0) (.slice d1 (S k).nl e1) (.slice d2 (S k).nw e2), fun i => if i = k + 1 then x2.heap.size else z i, some ⟨gg, 0, none⟩, cap, some ⟨hh, 0, none⟩, cap', by omega, by go_num, T2⟩
            case measure => simp [intOf]; omega
          · go_simp
            refine hK.out _ _ trivial (fun hS => ?_)
            clear hK K
            refine wpAnyH_ready (rs := [1]) (by kernel_rfl) (by simp) ?_
            refine AllReadyH.cons rfl (fun K hK => ?_) AllReadyH.nil
            go_simp
            refine hK.out _ _ trivial (fun hS => ?_)
            clear hK K
            refine wpAnyH_ready (rs := [7]) (by kernel_rfl) (by simp) ?_
            refine AllReadyH.cons rfl (fun K hK => ?_) AllReadyH.nil
            refine step_append_lies _ (by rfl) _ _ 34 (by rfl) (w.heap.size + 2) 45 j0 (.agg #[.slice none 0 0, .slice none 0 0, .slice none 0 0]) 3 72 Tryz.underlying34 gi gz0 gz1 gz2 rfl (by omega) (.slice sa k sc) k _ (by rfl) TC.out.rs ⟨x2.heap.size, 0, none⟩ 1 1 [.slice d0 (S k).nc e0, .slice d1 (S k).nl e1, .slice d2 (S k).nw e2] (by rfl) (by rfl) (World.news_of_block (cs := #[.slice d0 (S k).nc e0, .slice d1 (S k).nl e1, .slice d2 (S k).nw e2]) (t := 45) (fr := (0, 0)) (heap_alloc_new x2 _)) (by simp [Value.oneCell']) (by omega) (by unfold maxLen; omega) (by omega) TC.out.lo (x2.heap.size + 1) (by simp) ?_
            intro hh cap' y OY GY AY LY
            have OS : OwnV y (w.heap.size + 2) (.slice (some ⟨hh, 0, none⟩) (k + 1) cap') (k + 1) (putU U k (.slice d0 (S k).nc e0) (.slice d1 (S k).nl e1) (.slice d2 (S k).nw e2)) := by
              unfold OwnV
              rw [listU_new]
              exact OY
            have T2 : Hid (GT w (y.setCell ⟨w.heap.size + 1, 1, none⟩ (.slice (some ⟨hh, 0, none⟩) (k + 1) cap')) (k + 1) (k + 1) F S (putU U k (.slice d0 (S k).nc e0) (.slice d1 (S k).nl e1) (.slice d2 (S k).nw e2)) (fun i => if i = k + 1 then x2.heap.size else z i) (.slice (some ⟨gg, 0, none⟩) (k + 1) cap) (.slice (some ⟨hh, 0, none⟩) (k + 1) cap')) := TC.out.putS (zz := x1.heap.size) (zt := x2.heap.size) SC.out.1 SC.out.2 ⟨T1'.out.zh, ZX.out, by simp⟩ (fun q e => (T1'.out.rr.block q e).2) (fun q e => (T1'.out.rs.block q e).2) OS GY (by rcases AY with e | e; exact Or.inl e.symm; exact Or.inr (by rw [e]; simp [Value.ownBlock]))
            refine hK.out _ _ trivial (fun hS => ?_)
            clear hK K
            refine wpAnyH_take (i := 8) (v := ?_) rfl (by kernel_rfl) (by kernel_rfl) (by kernel_rfl) (fun _ _ _ h => h) (Or.inl ⟨by kernel_rfl, ?_⟩) hS ?_
            rotate_left
            · intro wx hx
              go_simp
              try with_reducible rfl
            obtain ⟨⟨t0, t1⟩, ft0, ft1⟩ := blk2_past TC.out.blk GY (fun e => by have := (TC.out.rs.block _ e).1; omega)
            refine wpAnyH_ready (rs := [9]) (by kernel_rfl) (by simp) ?_
            refine AllReadyH.cons rfl (fun K hK => ?_) AllReadyH.nil
            go_simp
            refine hK.out _ _ trivial (fun hS => ?_)
            clear hK K
            refine wpAnyH_done (by kernel_rfl) ?_ _
            clear hS
            go_simp
            generalize y.setCell ⟨w.heap.size + 1, 1, none⟩ (.slice (some ⟨hh, 0, none⟩) (k + 1) cap') = x4 at T2 ⊢
            clear t0 t1 ft0 ft1 OY GY AY LY OS TC SC ZX T1' G0 G2 G3 G3d
            go_wp2
            go_roundw
            case rel => exact ⟨k + 1, putU U k (.slice d0 (S k).nc e0) (.slice d1 (S k).nl e1) (.slice d2 (S k).nw e2), fun i => if i = k + 1 then x2.heap.size else z i, some ⟨gg, 0, none⟩, cap, some ⟨hh, 0, none⟩, cap', by omega, by go_num, T2⟩
            case measure => simp [intOf]; omega
      · go_simp
        refine hK.out _ _ (RG.out.below TA.out.below) (fun hS => ?_)
        clear hK K
        refine wpAnyH_ready (rs := [1]) (by kernel_rfl) (by simp) ?_
        refine AllReadyH.cons rfl (fun K hK => ?_) AllReadyH.nil
        go_simp
        refine hK.out _ _ hS (fun hS => ?_)
        clear hK K
        refine wpAnyH_ready (rs := [7]) (by kernel_rfl) (by simp) ?_
        refine AllReadyH.cons rfl (fun K hK => ?_) AllReadyH.nil
        refine step_append_lies _ (by rfl) _ _ 33 (by rfl) (w.heap.size + 2) 102 i0 (.agg #[.int .i64 0, .int .i64 0, .int .i64 0]) 3 24 Tryz.underlying33 hi hz0 hz1 hz2 rfl (by omega) (.slice ra k rc) k _ (by rfl) TA.out.rr ⟨wr.heap.size, 0, none⟩ 1 1 [.int .i64 fr, .int .i64 to, .int .i64 ep] (by rfl) (by rfl) (World.news_of_block (cs := #[.int .i64 fr, .int .i64 to, .int .i64 ep]) (t := 102) (fr := (0, 0)) (heap_alloc_new wr _)) (by simp [Value.oneCell']) (by omega) (by unfold maxLen; omega) (by omega) TA.out.lo (wr.heap.size + 1) (by simp) ?_
        intro gg cap y OY GY AY LY
        have OR : OwnM y (w.heap.size + 2) 102 3 (.slice (some ⟨gg, 0, none⟩) (k + 1) cap) (k + 1) (nums F ((k + 1) * 3)) := by
          unfold OwnM
          rw [nums_three, HF.out.1, HF.out.2.1, HF.out.2.2, List.map_append]
          exact OY
        have T1 := TA.out.putR OR GY (by rcases AY with e | e; exact Or.inl e.symm; exact Or.inr (by rw [e]; simp [Value.ownBlock]))
        have hS' := RG.out.below (below_past TA.out.below TA.out.rr (by omega) GY)
        refine hK.out _ _ hS' (fun hS => ?_)
        clear hK K hS'
        refine wpAnyH_take (i := 8) (v := ?_) rfl (by kernel_rfl) (by kernel_rfl) (by kernel_rfl) (fun _ _ _ h => h) (Or.inl ⟨by kernel_rfl, ?_⟩) hS ?_
        rotate_left
        · intro wx hx
          obtain ⟨hx0, hx1, hx2⟩ := hx
          go_simp
          try with_reducible rfl
        obtain ⟨⟨t0, t1⟩, ft0, ft1⟩ := blk2_past TA.out.blk GY (fun e => by have := (TA.out.rr.block _ e).1; omega)
        have T1' : Hid (GT w (y.setCell ⟨w.heap.size + 1, 0, none⟩ (.slice (some ⟨gg, 0, none⟩) (k + 1) cap)) (k + 1) k F S U z (.slice (some ⟨gg, 0, none⟩) (k + 1) cap) (.slice sa k sc)) := T1
        clear T1
        refine wpAnyH_ready (rs := [9]) (by kernel_rfl) (by simp) ?_
        refine AllReadyH.cons rfl (fun K hK => ?_) AllReadyH.nil
        go_simp
        refine hK.out _ _ (RG.out.below T1'.out.below) (fun hS => ?_)
        clear hK K
        refine wpAnyH_done (by kernel_rfl) ?_ _
        clear hS
        go_simp
        generalize y.setCell ⟨w.heap.size + 1, 0, none⟩ (.slice (some ⟨gg, 0, none⟩) (k + 1) cap) = x1 at T1' ⊢
        clear t0 t1 ft0 ft1 OY GY AY LY OR TA TT F0 F1 F1d F0d
        go_wp2_with fail
        have G0 : x1.drew.cell? ⟨w.heap.size + 1, 1, none⟩ = some (.slice sa k sc) := T1'.out.blk.1.2
        refine wp_region_held_drew (S := fun _ => True) (by kernel_rfl) trivial (fun hS => ?_)
        refine wpAnyH_take (i := 0) (v := ?_) rfl (by kernel_rfl) (by kernel_rfl) (by kernel_rfl) (fun _ _ _ h => h) (Or.inl ⟨by kernel_rfl, ?_⟩) hS ?_
        rotate_left
        · intro wx hx
          go_simp
          try with_reducible rfl
        refine wpAnyH_take (i := 2) (v := ?_) rfl (by kernel_rfl) (by kernel_rfl) (by kernel_rfl) (fun _ _ _ h => h) (Or.inl ⟨by kernel_rfl, ?_⟩) hS ?_
        rotate_left
        · intro wx hx
          go_simp
          try with_reducible rfl
        refine wpAnyH_take (i := 3) (v := ?_) rfl (by kernel_rfl) (by kernel_rfl) (by kernel_rfl) (fun _ _ _ h => h) (Or.inl ⟨by kernel_rfl, ?_⟩) hS ?_
        rotate_left
        · intro wx hx
          go_simp
          try with_reducible rfl
        refine wpAnyH_take (i := 4) (v := ?_) rfl (by kernel_rfl) (by kernel_rfl) (by kernel_rfl) (fun _ _ _ h => h) (Or.inl ⟨by kernel_rfl, ?_⟩) hS ?_
        rotate_left
        · intro wx hx
          go_simp
          try with_reducible rfl
        refine wpAnyH_ready (rs := [1, 5]) (by kernel_rfl) (by simp) ?_
        refine AllReadyH.cons rfl (fun K hK => ?_) (AllReadyH.cons rfl (fun K hK => ?_) AllReadyH.nil)
        · go_simp
          refine hK.out _ _ trivial (fun hS => ?_)
          clear hK K
          refine wpAnyH_ready (rs := [5]) (by kernel_rfl) (by simp) ?_
          refine AllReadyH.cons rfl (fun K hK => ?_) AllReadyH.nil
          go_simp
          go_wp2_with fail
          refine (store_isO _ (P k) 3 _ _ _ _ _ _ gm u1 u2 _ (((RS.out.2.2.later T1'.out.below).2.1).later (below_dr (Below.refl _ _) 1)) RS.out.1.2.1 RS.out.1.2.2 RS.out.1.1 (S k).nc (S k).c RS.out.2.1).mono ?_
          rintro e x2 ⟨d0, e0, d1, e1, d2, e2, rfl, ⟨s3, f3, a3⟩, q2⟩
          have q2' : Below x1.heap.size x1 x2 := ⟨q2.os, q2.tape, q2.output, q2.size, q2.block⟩
          have ZX : Hid (x1.heap.size ≤ x2.heap.size) := q2'.size
          have TB : Hid (GT w x2 (k + 1) k F S U z (.slice (some ⟨gg, 0, none⟩) (k + 1) cap) (.slice sa k sc)) := T1'.out.later q2'
          have SC : Hid ((St (x2.alloc (.cells #[.slice d0 (S k).nc e0, .slice d1 (S k).nl e1, .slice d2 (S k).nw e2] 45)) x1.heap.size (S k) (.slice d0 (S k).nc e0) (.slice d1 (S k).nl e1) (.slice d2 (S k).nw e2) ∧ FreeS (x2.alloc (.cells #[.slice d0 (S k).nc e0, .slice d1 (S k).nl e1, .slice d2 (S k).nw e2] 45)) (S k) (.slice d0 (S k).nc e0) (.slice d1 (S k).nl e1) (.slice d2 (S k).nw e2) ∧ ApartD (S k) (.slice d0 (S k).nc e0) (.slice d1 (S k).nl e1) (.slice d2 (S k).nw e2)) ∧ OwnIn (S k) (.slice d0 (S k).nc e0) (.slice d1 (S k).nl e1) (.slice d2 (S k).nw e2) (fun q => x1.heap.size ≤ q ∧ q < x2.heap.size)) := ⟨⟨s3.alloc _, f3.later s3 (below_alloc _ _), a3⟩, s3.ownIn⟩
          have TC : Hid (GT w (x2.alloc (.cells #[.slice d0 (S k).nc e0, .slice d1 (S k).nl e1, .slice d2 (S k).nw e2] 45)) (k + 1) k F S U z (.slice (some ⟨gg, 0, none⟩) (k + 1) cap) (.slice sa k sc)) := TB.out.later (below_alloc _ _)
          have G2 : x2.cell? ⟨w.heap.size + 1, 1, none⟩ = some (.slice sa k sc) := TB.out.blk.1.2
          have G3 : (x2.alloc (.cells #[.slice d0 (S k).nc e0, .slice d1 (S k).nl e1, .slice d2 (S k).nw e2] 45)).cell? ⟨w.heap.size + 1, 1, none⟩ = some (.slice sa k sc) := TC.out.blk.1.2
          have G3d : True := trivial
          clear s3 f3 a3 q2 q2' TB
          go_wp2_with fail
          refine hK.out _ _ trivial (fun hS => ?_)
          clear hK K
          refine wpAnyH_ready (rs := [6]) (by kernel_rfl) (by simp) ?_
          refine AllReadyH.cons rfl (fun K hK => ?_) AllReadyH.nil
          go_simp
          refine hK.out _ _ trivial (fun hS => ?_)
          clear hK K
          refine wpAnyH_ready (rs := [7]) (by kernel_rfl) (by simp) ?_
          refine AllReadyH.cons rfl (fun K hK => ?_) AllReadyH.nil
          refine step_append_lies _ (by rfl) _ _ 34 (by rfl) (w.heap.size + 2) 45 j0 (.agg #[.slice none 0 0, .slice none 0 0, .slice none 0 0]) 3 72 Tryz.underlying34 gi gz0 gz1 gz2 rfl (by omega) (.slice sa k sc) k _ (by rfl) TC.out.rs ⟨x2.heap.size, 0, none⟩ 1 1 [.slice d0 (S k).nc e0, .slice d1 (S k).nl e1, .slice d2 (S k).nw e2] (by rfl) (by rfl) (World.news_of_block (cs := #[.slice d0 (S k).nc e0, .slice d1 (S k).nl e1, .slice d2 (S k).nw e2]) (t := 45) (fr := (0, 0)) (heap_alloc_new x2 _)) (by simp [Value.oneCell']) (by omega) (by unfold maxLen; omega) (by omega) TC.out.lo (x2.heap.size + 1) (by simp) ?_
          intro hh cap' y OY GY AY LY
          have OS : OwnV y (w.heap.size + 2) (.slice (some ⟨hh, 0, none⟩) (k + 1) cap') (k + 1) (putU U k (.slice d0 (S k).nc e0) (.slice d1 (S k).nl e1) (.slice d2 (S k).nw e2)) := by
            unfold OwnV
            rw [listU_new]
            exact OY
          have T2 : Hid (GT w (y.setCell ⟨w.heap.size + 1, 1, none⟩ (.slice (some ⟨hh, 0, none⟩) (k + 1) cap')) (k + 1) (k + 1) F S (putU U k (.slice d0 (S k).nc e0) (.slice d1 (S k).nl e1) (.slice d2 (S k).nw e2)) (fun i => if i = k + 1 then x2.heap.size else z i) (.slice (some ⟨gg, 0, none⟩) (k + 1) cap) (.slice (some ⟨hh, 0, none⟩) (k + 1) cap')) := TC.out.putS (zz := x1.heap.size) (zt := x2.heap.size) SC.out.1 SC.out.2 ⟨T1'.out.zh, ZX.out, by simp⟩ (fun q e => (T1'.out.rr.block q e).2) (fun q e => (T1'.out.rs.block q e).2) OS GY (by rcases AY with e | e; exact Or.inl e.symm; exact Or.inr (by rw [e]; simp [Value.ownBlock]))
          refine hK.out _ _ trivial (fun hS => ?_)
          clear hK K
          refine wpAnyH_take (i := 8) (v := ?_) rfl (by kernel_rfl) (by kernel_rfl) (by kernel_rfl) (fun _ _ _ h => h) (Or.inl ⟨by kernel_rfl, ?_⟩) hS ?_
          rotate_left
          · intro wx hx
            go_simp
            try with_reducible rfl
          obtain ⟨⟨t0, t1⟩, ft0, ft1⟩ := blk2_past TC.out.blk GY (fun e => by have := (TC.out.rs.block _ e).1; omega)
          refine wpAnyH_ready (rs := [9]) (by kernel_rfl) (by simp) ?_
          refine AllReadyH.cons rfl (fun K hK => ?_) AllReadyH.nil
          go_simp
          refine hK.out _ _ trivial (fun hS => ?_)
          clear hK K
          refine wpAnyH_done (by kernel_rfl) ?_ _
          clear hS
          go_simp
          generalize y.setCell ⟨w.heap.size + 1, 1, none⟩ (.slice (some ⟨hh, 0, none⟩) (k + 1) cap') = x4 at T2 ⊢
          clear t0 t1 ft0 ft1 OY GY AY LY OS TC SC ZX T1' G0 G2 G3 G3d
          go_wp2
          go_roundw
          case rel => exact ⟨k + 1, putU U k (.slice d0 (S k).nc e0) (.slice d1 (S k).nl e1) (.slice d2 (S k).nw e2), fun i => if i = k + 1 then x2.heap.size else z i, some ⟨gg, 0, none⟩, cap, some ⟨hh, 0, none⟩, cap', by omega, by go_num, T2⟩
          case measure => simp [intOf]; omega
        · go_simp
          go_wp2_with fail
          refine (store_isO _ (P k) 3 _ _ _ _ _ _ gm u1 u2 _ (((RS.out.2.2.later T1'.out.below).2.1).later (below_dr (Below.refl _ _) 1)) RS.out.1.2.1 RS.out.1.2.2 RS.out.1.1 (S k).nc (S k).c RS.out.2.1).mono ?_
          rintro e x2 ⟨d0, e0, d1, e1, d2, e2, rfl, ⟨s3, f3, a3⟩, q2⟩
          have q2' : Below x1.heap.size x1 x2 := ⟨q2.os, q2.tape, q2.output, q2.size, q2.block⟩
          have ZX : Hid (x1.heap.size ≤ x2.heap.size) := q2'.size
          have TB : Hid (GT w x2 (k + 1) k F S U z (.slice (some ⟨gg, 0, none⟩) (k + 1) cap) (.slice sa k sc)) := T1'.out.later q2'
          have SC : Hid ((St (x2.alloc (.cells #[.slice d0 (S k).nc e0, .slice d1 (S k).nl e1, .slice d2 (S k).nw e2] 45)) x1.heap.size (S k) (.slice d0 (S k).nc e0) (.slice d1 (S k).nl e1) (.slice d2 (S k).nw e2) ∧ FreeS (x2.alloc (.cells #[.slice d0 (S k).nc e0, .slice d1 (S k).nl e1, .slice d2 (S k).nw e2] 45)) (S k) (.slice d0 (S k).nc e0) (.slice d1 (S k).nl e1) (.slice d2 (S k).nw e2) ∧ ApartD (S k) (.slice d0 (S k).nc e0) (.slice d1 (S k).nl e1) (.slice d2 (S k).nw e2)) ∧ OwnIn (S k) (.slice d0 (S k).nc e0) (.slice d1 (S k).nl e1) (.slice d2 (S k).nw e2) (fun q => x1.heap.size ≤ q ∧ q < x2.heap.size)) := ⟨⟨s3.alloc _, f3.later s3 (below_alloc _ _), a3⟩, s3.ownIn⟩
          have TC : Hid (GT w (x2.alloc (.cells #[.slice d0 (S k).nc e0, .slice d1 (S k).nl e1, .slice d2 (S k).nw e2] 45)) (k + 1) k F S U z (.slice (some ⟨gg, 0, none⟩) (k + 1) cap) (.slice sa k sc)) := TB.out.later (below_alloc _ _)
          have G2 : x2.cell? ⟨w.heap.size + 1, 1, none⟩ = some (.slice sa k sc) := TB.out.blk.1.2
          have G3 : (x2.alloc (.cells #[.slice d0 (S k).nc e0, .slice d1 (S k).nl e1, .slice d2 (S k).nw e2] 45)).cell? ⟨w.heap.size + 1, 1, none⟩ = some (.slice sa k sc) := TC.out.blk.1.2
          have G3d : True := trivial
          clear s3 f3 a3 q2 q2' TB
          go_wp2_with fail
          refine hK.out _ _ trivial (fun hS => ?_)
          clear hK K
          refine wpAnyH_ready (rs := [1, 6]) (by kernel_rfl) (by simp) ?_
          refine AllReadyH.cons rfl (fun K hK => ?_) (AllReadyH.cons rfl (fun K hK => ?_) AllReadyH.nil)
          · go_simp
            refine hK.out _ _ trivial (fun hS => ?_)
            clear hK K
            refine wpAnyH_ready (rs := [6]) (by kernel_rfl) (by simp) ?_
            refine AllReadyH.cons rfl (fun K hK => ?_) AllReadyH.nil
            go_simp
            refine hK.out _ _ trivial (fun hS => ?_)
            clear hK K
            refine wpAnyH_ready (rs := [7]) (by kernel_rfl) (by simp) ?_
            refine AllReadyH.cons rfl (fun K hK => ?_) AllReadyH.nil
            refine step_append_lies _ (by rfl) _ _ 34 (by rfl) (w.heap.size + 2) 45 j0 (.agg #[.slice none 0 0, .slice none 0 0, .slice none 0 0]) 3 72 Tryz.underlying34 gi gz0 gz1 gz2 rfl (by omega) (.slice sa k sc) k _ (by rfl) TC.out.rs ⟨x2.heap.size, 0, none⟩ 1 1 [.slice d0 (S k).nc e0, .slice d1 (S k).nl e1, .slice d2 (S k).nw e2] (by rfl) (by rfl) (World.news_of_block (cs := #[.slice d0 (S k).nc e0, .slice d1 (S k).nl e1, .slice d2 (S k).nw e2]) (t := 45) (fr := (0, 0)) (heap_alloc_new x2 _)) (by simp [Value.oneCell']) (by omega) (by unfold maxLen; omega) (by omega) TC.out.lo (x2.heap.size + 1) (by simp) ?_
            intro hh cap' y OY GY AY LY
            have OS : OwnV y (w.heap.size + 2) (.slice (some ⟨hh, 0, none⟩) (k + 1) cap') (k + 1) (putU U k (.slice d0 (S k).nc e0) (.slice d1 (S k).nl e1) (.slice d2 (S k).nw e2)) := by
              unfold OwnV
              rw [listU_new]
              exact OY
            have T2 : Hid (GT w (y.setCell ⟨w.heap.size + 1, 1, none⟩ (.slice (some ⟨hh, 0, none⟩) (k + 1) cap')) (k + 1) (k + 1) F S (putU U k (.slice d0 (S k).nc e0) (.slice d1 (S k).nl e1) (.slice d2 (S k).nw e2)) (fun i => if i = k + 1 then x2.heap.size else z i) (.slice (some ⟨gg, 0, none⟩) (k + 1) cap) (.slice (some ⟨hh, 0, none⟩) (k + 1) cap')) := TC.out.putS (zz := x1.heap.size) (zt := x2.heap.size) SC.out.1 SC.out.2 ⟨T1'.out.zh, ZX.out, by simp⟩ (fun q e => (T1'.out.rr.block q e).2) (fun q e => (T1'.out.rs.block q e).2) OS GY (by rcases AY with e | e; exact Or.inl e.symm; exact Or.inr (by rw [e]; simp [Value.ownBlock]))
            refine hK.out _ _ trivial (fun hS => ?_)
            clear hK K
            refine wpAnyH_take (i := 8) (v := ?_) rfl (by kernel_rfl) (by kernel_rfl) (by kernel_rfl) (fun _ _ _ h => h) (Or.inl ⟨by kernel_rfl, ?_⟩) hS ?_
            rotate_left
            · intro wx hx
              go_simp
              try with_reducible rfl
            obtain ⟨⟨t0, t1⟩, ft0, ft1⟩ := blk2_past TC.out.blk GY (fun e => by have := (TC.out.rs.block _ e).1; omega)
            refine wpAnyH_ready (rs := [9]) (by kernel_rfl) (by simp) ?_
            refine AllReadyH.cons rfl (fun K hK => ?_) AllReadyH.nil
            go_simp
            refine hK.out _ _ trivial (fun hS => ?_)
            clear hK K
            refine wpAnyH_done (by kernel_rfl) ?_ _
            clear hS
            go_simp
            generalize y.setCell ⟨w.heap.size + 1, 1, none⟩ (.slice (some ⟨hh, 0, none⟩) (k + 1) cap') = x4 at T2 ⊢
            clear t0 t1 ft0 ft1 OY GY AY LY OS TC SC ZX T1' G0 G2 G3 G3d
            go_wp2
            go_roundw
            case rel => exact ⟨k + 1, putU U k (.slice d0 (S k).nc e0) (.slice d1 (S k).nl e1) (.slice d2 (S k).nw e2), fun i => if i = k + 1 then x2.heap.size else z i, some ⟨gg, 0, none⟩, cap, some ⟨hh, 0, none⟩, cap', by omega, by go_num, T2⟩
            case measure => simp [intOf]; omega
          · go_simp
            refine hK.out _ _ trivial (fun hS => ?_)
            clear hK K
            refine wpAnyH_ready (rs := [1]) (by kernel_rfl) (by simp) ?_
            refine AllReadyH.cons rfl (fun K hK => ?_) AllReadyH.nil
            go_simp
            refine hK.out _ _ trivial (fun hS => ?_)
            clear hK K
            refine wpAnyH_ready (rs := [7]) (by kernel_rfl) (by simp) ?_
            refine AllReadyH.cons rfl (fun K hK => ?_) AllReadyH.nil
            refine step_append_lies _ (by rfl) _ _ 34 (by rfl) (w.heap.size + 2) 45 j0 (.agg #[.slice none 0 0, .slice none 0 0, .slice none 0 0]) 3 72 Tryz.underlying34 gi gz0 gz1 gz2 rfl (by omega) (.slice sa k sc) k _ (by rfl) TC.out.rs ⟨x2.heap.size, 0, none⟩ 1 1 [.slice d0 (S k).nc e0, .slice d1 (S k).nl e1, .slice d2 (S k).nw e2] (by rfl) (by rfl) (World.news_of_block (cs := #[.slice d0 (S k).nc e0, .slice d1 (S k).nl e1, .slice d2 (S k).nw e2]) (t := 45) (fr := (0, 0)) (heap_alloc_new x2 _)) (by simp [Value.oneCell']) (by omega) (by unfold maxLen; omega) (by omega) TC.out.lo (x2.heap.size + 1) (by simp) ?_
            intro hh cap' y OY GY AY LY
            have OS : OwnV y (w.heap.size + 2) (.slice (some ⟨hh, 0, none⟩) (k + 1) cap') (k + 1) (putU U k (.slice d0 (S k).nc e0) (.slice d1 (S k).nl e1) (.slice d2 (S k).nw e2)) := by
              unfold OwnV
              rw [listU_new]
              exact OY
            have T2 : Hid (GT w (y.setCell ⟨w.heap.size + 1, 1, none⟩ (.slice (some ⟨hh, 0, none⟩) (k + 1) cap')) (k + 1) (k + 1) F S (putU U k (.slice d0 (S k).nc e0) (.slice d1 (S k).nl e1) (.slice d2 (S k).nw e2)) (fun i => if i = k + 1 then x2.heap.size else z i) (.slice (some ⟨gg, 0, none⟩) (k + 1) cap) (.slice (some ⟨hh, 0, none⟩) (k + 1) cap')) := TC.out.putS (zz := x1.heap.size) (zt := x2.heap.size) SC.out.1 SC.out.2 ⟨T1'.out.zh, ZX.out, by simp⟩ (fun q e => (T1'.out.rr.block q e).2) (fun q e => (T1'.out.rs.block q e).2) OS GY (by rcases AY with e | e; exact Or.inl e.symm; exact Or.inr (by rw [e]; simp [Value.ownBlock]))
            refine hK.out _ _ trivial (fun hS => ?_)
            clear hK K
            refine wpAnyH_take (i := 8) (v := ?_) rfl (by kernel_rfl) (by kernel_rfl) (by kernel_rfl) (fun _ _ _ h => h) (Or.inl ⟨by kernel_rfl, ?_⟩) hS ?_
            rotate_left
            · intro wx hx
              go_simp
              try with_reducible rfl
            obtain ⟨⟨t0, t1⟩, ft0, ft1⟩ := blk2_past TC.out.blk GY (fun e => by have := (TC.out.rs.block _ e).1; omega)
            refine wpAnyH_ready (rs := [9]) (by kernel_rfl) (by simp) ?_
            refine AllReadyH.cons rfl (fun K hK => ?_) AllReadyH.nil
            go_simp
            refine hK.out _ _ trivial (fun hS => ?_)
            clear hK K
            refine wpAnyH_done (by kernel_rfl) ?_ _
            clear hS
            go_simp
            generalize y.setCell ⟨w.heap.size + 1, 1, none⟩ (.slice (some ⟨hh, 0, none⟩) (k + 1) cap') = x4 at T2 ⊢
            clear t0 t1 ft0 ft1 OY GY AY LY OS TC SC ZX T1' G0 G2 G3 G3d
            go_wp2
            go_roundw
            case rel => exact ⟨k + 1, putU U k (.slice d0 (S k).nc e0) (.slice d1 (S k).nl e1) (.slice d2 (S k).nw e2), fun i => if i = k + 1 then x2.heap.size else z i, some ⟨gg, 0, none⟩, cap, some ⟨hh, 0, none⟩, cap', by omega, by go_num, T2⟩
            case measure => simp [intOf]; omega
    · obtain rfl : k = n := by omega
      obtain ⟨⟨t0, t1⟩, _⟩ := TT.out.blk
      obtain ⟨⟨r0, r1, r2⟩, f0, f1, f2⟩ := TT.out.res
      go_wp2
      refine bodyPost_ret (v := .agg #[.int .i64 0, .slice ra k rc, .slice sa k sc]) (by simp [results, Tryz.results46, go_sem, r0, r1, r2]) rfl ⟨ra, rc, sa, sc, U, z, rfl, ?_, ((TT.out.below.setCell (Nat.le_refl _) _).setCell (Nat.le_refl _) _).setCell (Nat.le_refl _) _⟩
      have h1 := TT.out.fineR
      have h2 := ((h1.within (within_set _ w.heap.size 0 (.int .i64 0)) (by omega)).within (within_set _ w.heap.size 1 (.slice ra k rc)) (by omega)).within (within_set _ w.heap.size 2 (.slice sa k sc)) (by omega)
      exact h2.up (by omega)
end

section
open Go.RowKit Go.Maps
-- Own text. NewGroups: what the model's and the program's answer, the same code and the same groups.
theorem fineR_nil (w : World) (lo : Nat) (F : Nat → Int) (T : Nat → Sto) (_ : lo ≤ w.heap.size) : FineR w lo w.heap.size 0 F 0 T none 0 none (fun _ _ => .bool true) (fun _ => lo) :=
  ⟨⟨⟨_, _, rfl, fun h => absurd h (Nat.lt_irrefl 0)⟩, Free.of0 _ _⟩, ⟨fun h => absurd h (Nat.lt_irrefl 0), fun i hi => absurd hi (Nat.not_lt_zero i)⟩, ⟨fun i hi => absurd hi (Nat.not_lt_zero i), fun i hi => absurd hi (Nat.not_lt_zero i), Nat.le_refl _⟩, fun h => absurd h (Nat.lt_irrefl 0)⟩
theorem resGr_nil {w w' : World} {c : Int} {e : Ending} {F : Nat → Int} {T : Nat → Sto} (he : e = .returned (.agg #[.int .i64 c, .slice none 0 0, .slice none 0 0])) (hb : Below w.heap.size w w') : ResGr w c 0 F 0 T e w' := ⟨none, 0, none, 0, _, _, he, fineR_nil w' w.heap.size F T hb.size, hb⟩
set_option maxHeartbeats 1000000 in
theorem l7Bad_is (c : Int) (F : Nat → Int) (T : Nat → Sto) (w : World) : Calls Tryz.prog 35 #[.int .i64 c] w (ResGr w c 0 F 0 T) := by
  go_enter Tryz.func35, Tryz.ntmps35
  go_wp2
  exact bodyPost_ret (v := .agg #[.int .i64 c, .slice none 0 0, .slice none 0 0]) (by simp [results, Tryz.results35, go_sem]) rfl (resGr_nil rfl (by first | exact below_alloc _ _ | exact ((((below_alloc _ _).setCell (Nat.le_refl _) _).setCell (Nat.le_refl _) _).setCell (Nat.le_refl _) _)))
/-- One range and one store, each in blocks of its own. -/
theorem fineR_one {x : World} {lo zz zt sb : Nat} {F : Nat → Int} {S : Sto} {ra : Option Addr} {rc : Nat} {u0 u1 u2 : Value} (hr : Row x lo 3 1 F (.slice ra 1 rc) ∧ Free x (1 * 3) (.slice ra 1 rc)) (hq : ∀ q, (Value.slice ra 1 rc).ownBlock = some q → q < zz) (hs : St x zz S u0 u1 u2 ∧ FreeS x S u0 u1 u2 ∧ ApartD S u0 u1 u2) (ho : OwnIn S u0 u1 u2 (fun q => zz ≤ q ∧ q < zt)) (hz : lo ≤ zz ∧ zz ≤ zt ∧ zt ≤ sb) (hb : Blk3 x sb u0 u1 u2) :
    FineR x lo x.heap.size 1 F 1 (fun _ => S) ra rc (some ⟨sb, 0, none⟩) (putU (fun _ _ => .bool true) 0 u0 u1 u2) (fun i => if i = 0 + 1 then zt else zz) := by
  have hlt := hb.lt
  have fi : Fine x (fun i => if i = 0 + 1 then zt else zz) (0 + 1) (fun _ => S) (putU (fun _ _ => .bool true) 0 u0 u1 u2) := Fine.put (z := fun _ => zz) (fun i hi => absurd hi (Nat.not_lt_zero i)) rfl hs ho hz.2.1
  have sp : ∀ q, (q < zz ∨ zt ≤ q) → Spare 1 (fun _ => S) (putU (fun _ _ => .bool true) 0 u0 u1 u2) q := fun q h i hi => by
    obtain rfl : i = 0 := by omega
    simp only [putU, if_true]
    exact ho.mono (fun p hp => by omega)
  refine ⟨hr, ⟨fun _ => ⟨sb, rfl, by omega, ⟨hlt, fun p hp => ?_, fun i hi => ?_⟩, sp sb (Or.inr hz.2.2)⟩, fi⟩, ⟨fun i hi => ?_, fun i hi => ?_, Nat.le_refl _⟩, fun _ q e => ⟨sp q (Or.inl (hq q e)), fun _ e' => ?_, by have := hq q e; omega⟩⟩
  · match p, hp with
    | 0, _ => exact ⟨⟨_, hb.1.1⟩, hb.2.1⟩
    | 1, _ => exact ⟨⟨_, hb.1.2.1⟩, hb.2.2.1⟩
    | 2, _ => exact ⟨⟨_, hb.1.2.2⟩, hb.2.2.2⟩
  · obtain rfl : i = 0 := by omega
    simp only [putU, if_true]
    exact hb.1
  · obtain rfl : i = 0 := by omega
    show lo ≤ (if 0 = 0 + 1 then zt else zz)
    rw [if_neg (by omega)]; exact hz.1
  · obtain rfl : i = 0 := by omega
    show (if 0 + 1 = 0 + 1 then zt else zz) ≤ _
    rw [if_pos rfl]; omega
  · simp only [Option.some.injEq, Addr.mk.injEq, and_true] at e'
    have := hq q e
    omega
/-- The call's blocks: the store, and the answer that is under way. -/
def CallN (w : World) (B : Nat) (S : Sto) (v0 v1 v2 : Value) (x : World) : Prop := Blk3 x w.heap.size v0 v1 v2 ∧ Blk3 x (w.heap.size + 1) (.int .i64 0) (.slice none 0 0) (.slice none 0 0) ∧ St x B S v0 v1 v2 ∧ Below w.heap.size w x
theorem CallN.later {w x x' : World} {B : Nat} {S : Sto} {v0 v1 v2 : Value} (h : CallN w B S v0 v1 v2 x) (hb : Below x.heap.size x x') : CallN w B S v0 v1 v2 x' := ⟨h.1.later hb, h.2.1.later hb, h.2.2.1.later hb, h.2.2.2.trans (hb.mono h.2.2.2.size)⟩
theorem CallN.new {w : World} {B : Nat} {S : Sto} {v0 v1 v2 : Value} (h : St w B S v0 v1 v2) (t t' : TypeId) : CallN w B S v0 v1 v2 ((w.alloc (.cells #[v0, v1, v2] t)).alloc (.cells #[.int .i64 0, .slice none 0 0, .slice none 0 0] t')) := by
  refine ⟨(Blk3.new _ _ _ _ _).alloc _, ?_, (h.alloc _).alloc _, (below_alloc _ _).alloc (by simp) _⟩
  have := Blk3.new (w.alloc (.cells #[v0, v1, v2] t)) (.int .i64 0) (.slice none 0 0) (.slice none 0 0) t'
  rwa [World.size_alloc] at this
def NewAns (S : Sto) (ep : Int) (c : Int) (nr : Nat) (F : Nat → Int) (n : Nat) (T : Nat → Sto) : Prop :=
  ((storeF S ≠ 0 ∧ c = storeF S ∨ storeF S = 0 ∧ ¬ (1 ≤ ep ∧ ep ≤ 9999) ∧ c = 3) ∧ nr = 0 ∧ n = 0) ∨ (storeF S = 0 ∧ (1 ≤ ep ∧ ep ≤ 9999) ∧ c = 0 ∧ nr = 1 ∧ F = wholeF ep ∧ n = 1 ∧ T = fun _ => S)
/-- What the last region reads: the store, the list of ranges and the one range. -/
def NewE (w : World) (v0 v1 v2 : Value) (rb : Nat) (gr oR rc : Nat) (ep : Int) (x : World) : Prop := Blk3 x w.heap.size v0 v1 v2 ∧ x.cell? ⟨rb, 1, none⟩ = some (.slice (some ⟨gr, oR, none⟩) 1 rc) ∧ x.cell? ⟨gr, oR, none⟩ = some (.int .i64 0) ∧ x.cell? ⟨gr, oR + 1, none⟩ = some (.int .i64 200) ∧ x.cell? ⟨gr, oR + 2, none⟩ = some (.int .i64 ep)
theorem NewE.kept {w x x' : World} {v0 v1 v2 : Value} {rb gr oR rc : Nat} {ep : Int} (h : NewE w v0 v1 v2 rb gr oR rc ep x) (hb : ∀ q, q = w.heap.size ∨ q = rb ∨ q = gr → x'.heap[q]? = x.heap[q]?) : NewE w v0 v1 v2 rb gr oR rc ep x' := by
  have k : ∀ b p, b = w.heap.size ∨ b = rb ∨ b = gr → x'.cell? ⟨b, p, none⟩ = x.cell? ⟨b, p, none⟩ := fun b p h' => World.cell?_of_block (w := x) (a := ⟨b, p, none⟩) (hb b h')
  obtain ⟨h0, h1, h2, h3, h4⟩ := h
  exact ⟨h0.kept (hb _ (Or.inl rfl)), (k _ _ (Or.inr (Or.inl rfl))).trans h1, (k _ _ (Or.inr (Or.inr rfl))).trans h2, (k _ _ (Or.inr (Or.inr rfl))).trans h3, (k _ _ (Or.inr (Or.inr rfl))).trans h4⟩
theorem NewAns.get (S : Sto) (ep : Int) : ∃ c nr F n T, SmallG nr n T ∧ NewAns S ep c nr F n T := by
  have small : SmallG 0 0 (fun _ => S) := ⟨by omega, by omega, fun i hi => absurd hi (Nat.not_lt_zero i), by simp [sumN]⟩
  by_cases hz : storeF S = 0
  · by_cases he : 1 ≤ ep ∧ ep ≤ 9999
    · have Z := (storeF_zero hz).1
      refine ⟨0, 1, wholeF ep, 1, fun _ => S, ⟨by omega, by omega, fun i _ => ?_, ?_⟩, Or.inr ⟨hz, he, rfl, rfl, rfl, rfl, rfl⟩⟩
      · show SmallS S
        unfold SmallS; omega
      · simp only [sumN, sizeT]; omega
    · exact ⟨3, 0, wholeF ep, 0, fun _ => S, small, Or.inl ⟨Or.inr ⟨hz, he, rfl⟩, rfl, rfl⟩⟩
  · exact ⟨_, 0, wholeF ep, 0, fun _ => S, small, Or.inl ⟨Or.inl ⟨hz, rfl⟩, rfl, rfl⟩⟩
end
end Go.Proofs.YtlojbhadodbohaaGreat
