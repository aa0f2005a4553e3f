/-
  Own text, merged of ColsZ, PartA, PartB, RngD, ColsM, KeysB, ColsN, ColsR, ColsU.
-/
import Derived.Test.YtpfmifpjmcmlaaaGreatPk2
namespace Go.Proofs.YtpfmifpjmcmlaaaGreat
open Go.RowKit

def vals (F : Nat → Int) (N : Nat) : List Value := (List.range N).map fun p => .int .i64 (F p)
theorem vals_length (F : Nat → Int) (N : Nat) : (vals F N).length = N := by simp [vals]
theorem vals_at (F : Nat → Int) (N p : Nat) (h : p < N) : (vals F N)[p]? = some (.int .i64 (F p)) := by simp [vals, h]
theorem vals_one (F : Nat → Int) (N : Nat) : ∀ u ∈ vals F N, u.oneCell' = true := by
  intro u hu
  simp only [vals, List.mem_map] at hu
  obtain ⟨p, _, rfl⟩ := hu
  rfl
theorem vals_inv {F : Nat → Int} {N p : Nat} {u : Value} (h : (vals F N)[p]? = some u) : p < N ∧ u = .int .i64 (F p) := by
  have hp : p < N := by
    have := (List.getElem?_eq_some_iff.1 h).1
    rwa [vals_length] at this
  rw [vals_at F N p hp] at h
  exact ⟨hp, (Option.some.inj h).symm⟩
/-- A row that a call has made, n elements of m numbers each, with room behind them. -/
def Own (w : World) (B : Nat) (e : TypeId) (m n : Nat) (F : Nat → Int) (v : Value) : Prop := w.ownsRow B e m v n (vals F (n * m))
theorem Own.row {w : World} {B : Nat} {e : TypeId} {m n : Nat} {F : Nat → Int} {v : Value} (h : Own w B e m n F v) : Row w B m n F v ∧ Free w (n * m) v := by
  have h0 : w.ownsRow B e m v n (vals F (n * m)) := h
  rcases h.2 with ⟨rfl, rfl⟩ | ⟨g, cap, cur, rfl, hg, hw, _⟩
  · refine ⟨⟨_, _, rfl, fun q => absurd q (Nat.lt_irrefl 0)⟩, ?_⟩
    rw [Nat.zero_mul]
    exact Free.of0 _ _
  · have hgs : g < w.heap.size := (Array.getElem?_eq_some_iff.1 hw).1
    refine ⟨⟨_, _, rfl, fun _ => ⟨g, 0, rfl, hg, hgs, fun p hp => ?_⟩⟩, ?_⟩
    · rw [Nat.zero_add, World.ownsRow.cellAt h0 p hp, vals_at _ _ _ hp]
    · intro g' o' n' c' hv p hp
      simp only [Value.slice.injEq, Option.some.injEq, Addr.mk.injEq] at hv
      obtain ⟨⟨rfl, rfl, _⟩, _, _⟩ := hv
      rw [Nat.zero_add]
      exact World.ownsRow.frozenAt h0 p
theorem Own.nil (w : World) (B : Nat) (e : TypeId) (m : Nat) (F : Nat → Int) : Own w B e m 0 F (.slice none 0 0) := ⟨by rw [vals_length], Or.inl ⟨rfl, rfl⟩⟩
theorem Own.later {w w' : World} {B : Nat} {e : TypeId} {m n : Nat} {F : Nat → Int} {v : Value} (h : Own w B e m n F v) (hb : Below w.heap.size w w') : Own w' B e m n F v := by
  refine ⟨h.1, ?_⟩
  rcases h.2 with q | ⟨g, cap, cur, rfl, hg, hw, r⟩
  · exact Or.inl q
  · exact Or.inr ⟨g, cap, cur, rfl, hg, (hb.block g (Array.getElem?_eq_some_iff.1 hw).1).trans hw, r⟩
theorem Own.alloc {w : World} {B : Nat} {e : TypeId} {m n : Nat} {F : Nat → Int} {v : Value} (h : Own w B e m n F v) (o : Obj) : Own (w.alloc o) B e m n F v := h.later (below_alloc _ _)
theorem Own.mono {w : World} {B B' : Nat} {e : TypeId} {m n : Nat} {F : Nat → Int} {v : Value} (h : Own w B e m n F v) (hB : B' ≤ B) : Own w B' e m n F v := World.ownsRow.mono h hB
theorem Own.form {w : World} {B : Nat} {e : TypeId} {m n : Nat} {F : Nat → Int} {v : Value} (h : Own w B e m n F v) : ∃ ao cp, v = .slice ao n cp := h.row.1.form
theorem row_cells {w : World} {B m n : Nat} {F : Nat → Int} {a : Addr} {cp : Nat} (h : Row w B m n F (.slice (some a) n cp)) : ∀ j u, (vals F (n * m))[j]? = some u → w.cell? (a.add j) = some u := by
  intro j u hu
  obtain ⟨hj, rfl⟩ := vals_inv hu
  obtain ⟨ao, cp', hv, h⟩ := h
  have hn : 0 < n := Nat.pos_of_ne_zero (fun e => by rw [e, Nat.zero_mul] at hj; omega)
  obtain ⟨g, o, rfl, _, _, hc⟩ := h hn
  simp only [Value.slice.injEq, Option.some.injEq] at hv
  obtain ⟨rfl, _⟩ := hv
  rw [WideShapes.add_plain]
  exact hc j hj
theorem below_grownBy {B : Nat} {w x x' : World} {row : Option Nat} (h : Below B w x) (hB : B ≤ x.heap.size) (hr : ∀ b, row = some b → B ≤ b) (g : x.grownBy x' row) : Below B w x' :=
  ⟨g.os.trans h.os, g.tape.trans h.tape, g.output.trans h.output, Nat.le_trans h.size g.size, fun i hi => (g.block i (by omega) (by intro e; have := hr i e.symm; omega)).trans (h.block i hi)⟩
/-- A row of structs of m numbers that a call has made, as a list of numbers. -/
def OwnM (w : World) (B : Nat) (e : TypeId) (m : Nat) (v : Value) (n : Nat) (L : List Int) : Prop := w.ownsRow B e m v n (L.map (Value.int .i64))
theorem vals_listM (L : List Int) : vals (fun p => L.getD p 0) L.length = L.map (Value.int .i64) := by
  apply List.ext_getElem?
  intro p
  rcases Nat.lt_or_ge p L.length with h | h
  · rw [vals_at _ _ _ h]
    simp [h]
  · rw [List.getElem?_eq_none (by rw [vals_length]; exact h), List.getElem?_eq_none (by simpa using h)]
theorem OwnM.own {w : World} {B : Nat} {e : TypeId} {m : Nat} {v : Value} {n : Nat} {L : List Int} (h : OwnM w B e m v n L) (hl : L.length = n * m) : Own w B e m n (fun p => L.getD p 0) v := by
  unfold Own
  rw [← hl, vals_listM]
  exact h
theorem OwnM.kept {w w' : World} {B : Nat} {e : TypeId} {m : Nat} {v : Value} {n : Nat} {L : List Int} (h : OwnM w B e m v n L) (hb : ∀ g, B ≤ g → g < w.heap.size → w'.heap[g]? = w.heap[g]?) : OwnM w' B e m v n L := by
  refine ⟨h.1, ?_⟩
  rcases h.2 with q | ⟨g, cap, cur, rfl, hg, hw, r⟩
  · exact Or.inl q
  · exact Or.inr ⟨g, cap, cur, rfl, hg, (hb g hg (Array.getElem?_eq_some_iff.1 hw).1).trans hw, r⟩
theorem OwnM.later {w w' : World} {B : Nat} {e : TypeId} {m : Nat} {v : Value} {n : Nat} {L : List Int} (h : OwnM w B e m v n L) (hb : Below w.heap.size w w') : OwnM w' B e m v n L := h.kept (fun g _ hg => hb.block g hg)
theorem OwnM.far {w : World} {B : Nat} {e : TypeId} {m : Nat} {v : Value} {n : Nat} {L : List Int} (h : OwnM w B e m v n L) {a : Addr} (ha : a.block < B) (u : Value) : OwnM (w.setCell a u) B e m v n L := h.kept (fun g hg _ => Below.heap_setCell w a u g (by omega))
theorem OwnM.nil (w : World) (B : Nat) (e : TypeId) (m : Nat) : OwnM w B e m (.slice none 0 0) 0 [] := ⟨by simp, Or.inl ⟨rfl, rfl⟩⟩
theorem OwnM.form {w : World} {B : Nat} {e : TypeId} {m : Nat} {v : Value} {n : Nat} {L : List Int} (h : OwnM w B e m v n L) : ∃ ao cp, v = .slice ao n cp := by
  rcases h.2 with ⟨rfl, rfl⟩ | ⟨g, cap, cur, rfl, _⟩
  · exact ⟨_, _, rfl⟩
  · exact ⟨_, _, rfl⟩
theorem OwnM.block {w : World} {B : Nat} {e : TypeId} {m : Nat} {v : Value} {n : Nat} {L : List Int} (h : OwnM w B e m v n L) : ∀ k, v.ownBlock = some k → B ≤ k ∧ k < w.heap.size := by
  intro k hk
  rcases h.2 with ⟨rfl, _⟩ | ⟨g, cap, cur, rfl, hg, hw, _⟩
  · simp [Value.ownBlock] at hk
  · simp [Value.ownBlock] at hk
    subst hk
    exact ⟨hg, (Array.getElem?_eq_some_iff.1 hw).1⟩
end Go.Proofs.YtpfmifpjmcmlaaaGreat

namespace Go.Proofs.YtpfmifpjmcmlaaaGreat
open Go.RowKit

/-- The numbers of the structs (m numbers each) among the first k whose first number lies from a to b. -/
def keepL (F : Nat → Int) (m : Nat) (a b : Int) : Nat → List Int
  | 0 => []
  | k + 1 => keepL F m a b k ++ (if a ≤ F (k * m) ∧ F (k * m) ≤ b then (List.range m).map (fun q => F (k * m + q)) else [])
def keepN (F : Nat → Int) (m : Nat) (a b : Int) : Nat → Nat
  | 0 => 0
  | k + 1 => keepN F m a b k + (if a ≤ F (k * m) ∧ F (k * m) ≤ b then 1 else 0)
theorem keep_yes {F : Nat → Int} {m : Nat} {a b : Int} {k : Nat} (h : a ≤ F (k * m) ∧ F (k * m) ≤ b) : keepL F m a b (k + 1) = keepL F m a b k ++ (List.range m).map (fun q => F (k * m + q)) ∧ keepN F m a b (k + 1) = keepN F m a b k + 1 := by
  rw [keepL, keepN, if_pos h, if_pos h]
  exact ⟨rfl, rfl⟩
theorem keep_no {F : Nat → Int} {m : Nat} {a b : Int} {k : Nat} (h : ¬ (a ≤ F (k * m) ∧ F (k * m) ≤ b)) : keepL F m a b (k + 1) = keepL F m a b k ∧ keepN F m a b (k + 1) = keepN F m a b k := by
  rw [keepL, keepN, if_neg h, if_neg h]
  exact ⟨List.append_nil _, rfl⟩
theorem keep_length (F : Nat → Int) (m : Nat) (a b : Int) : ∀ k, (keepL F m a b k).length = keepN F m a b k * m
  | 0 => by simp [keepL, keepN]
  | k + 1 => by
    have ih := keep_length F m a b k
    by_cases h : a ≤ F (k * m) ∧ F (k * m) ≤ b
    · rw [(keep_yes h).1, (keep_yes h).2, List.length_append, ih, List.length_map, List.length_range, Nat.succ_mul]
    · rw [(keep_no h).1, (keep_no h).2, ih]
theorem keep_le (F : Nat → Int) (m : Nat) (a b : Int) : ∀ k, keepN F m a b k ≤ k
  | 0 => Nat.le_refl _
  | k + 1 => by
    have ih := keep_le F m a b k
    by_cases h : a ≤ F (k * m) ∧ F (k * m) ≤ b
    · rw [(keep_yes h).2]; omega
    · rw [(keep_no h).2]; omega
def keepF (F : Nat → Int) (m : Nat) (a b : Int) (k : Nat) : Nat → Int := fun p => (keepL F m a b k).getD p 0
/-- The part of a store from fr on below to. -/
def partS (S : Sto) (fr tto : Int) : Sto := ⟨keepN S.c 3 fr (tto - 1) S.nc, keepF S.c 3 fr (tto - 1) S.nc, keepN S.l 5 fr (tto - 1) S.nl, keepF S.l 5 fr (tto - 1) S.nl, keepN S.k 4 fr (tto - 1) S.nw, keepF S.k 4 fr (tto - 1) S.nw⟩
/-- A row that a call has made and has done with: its block lies from lo on below hi. -/
def Done (x : World) (lo hi m n : Nat) (F : Nat → Int) (u : Value) : Prop := (Row x lo m n F u ∧ Free x (n * m) u) ∧ (0 < n → ∀ k, u.ownBlock = some k → k < hi)
theorem OwnM.done {w : World} {B : Nat} {e : TypeId} {m : Nat} {v : Value} {n : Nat} {L : List Int} (h : OwnM w B e m v n L) (hl : L.length = n * m) : Done w B w.heap.size m n (fun p => L.getD p 0) v := ⟨(h.own hl).row, fun _ k hk => (h.block k hk).2⟩
theorem Done.within {x x' : World} {lo hi m n B E : Nat} {F : Nat → Int} {u : Value} (h : Done x lo hi m n F u) (hw : Within B E x x') (hB : hi ≤ B) : Done x' lo hi m n F u :=
  ⟨⟨h.1.1.within hw (fun h0 k hk => Or.inl (Nat.lt_of_lt_of_le (h.2 h0 k hk) hB)), h.1.2.within h.1.1 hw (fun h0 k hk => Or.inl (Nat.lt_of_lt_of_le (h.2 h0 k hk) hB))⟩, h.2⟩
theorem Done.later {x x' : World} {lo hi m n : Nat} {F : Nat → Int} {u : Value} (h : Done x lo hi m n F u) (hb : Below x.heap.size x x') : Done x' lo hi m n F u := h.within (Within.grow (B := hi) (E := hi) hb) (Nat.le_refl _)
theorem Done.far {x : World} {lo hi m n : Nat} {F : Nat → Int} {u : Value} (h : Done x lo hi m n F u) {a : Addr} (ha : a.block < lo) (v : Value) : Done (x.setCell a v) lo hi m n F u := ⟨⟨h.1.1.far (Or.inl ha) v, h.1.2.far a v⟩, h.2⟩
theorem Done.mono {x : World} {lo hi lo' hi' m n : Nat} {F : Nat → Int} {u : Value} (h : Done x lo hi m n F u) (h1 : lo' ≤ lo) (h2 : hi ≤ hi') : Done x lo' hi' m n F u := ⟨⟨h.1.1.mono h1, h.1.2⟩, fun h0 k hk => Nat.lt_of_lt_of_le (h.2 h0 k hk) h2⟩
/-- What the model's part stands on: its result (the first block), the store that it makes (the second). -/
def PartEnv (w : World) (u0 u1 u2 : Value) (x : World) : Prop := Blk3 x w.heap.size (.slice none 0 0) (.slice none 0 0) (.slice none 0 0) ∧ Blk3 x (w.heap.size + 1) u0 u1 u2 ∧ Below w.heap.size w x
theorem PartEnv.later {w x x' : World} {u0 u1 u2 : Value} (h : PartEnv w u0 u1 u2 x) (hb : Below x.heap.size x x') : PartEnv w u0 u1 u2 x' := ⟨h.1.later hb, h.2.1.later hb, h.2.2.trans (hb.mono h.2.2.size)⟩
theorem PartEnv.within {w x x' : World} {u0 u1 u2 : Value} {B E : Nat} (h : PartEnv w u0 u1 u2 x) (hw : Within B E x x') (hB : w.heap.size + 2 ≤ B) : PartEnv w u0 u1 u2 x' := ⟨h.1.within hw (Or.inl (by omega)), h.2.1.within hw (Or.inl (by omega)), hw.below h.2.2 (by omega)⟩
theorem PartEnv.set0 {w x : World} {u0 u1 u2 : Value} (h : PartEnv w u0 u1 u2 x) (u : Value) : PartEnv w u u1 u2 (x.setCell ⟨w.heap.size + 1, 0, none⟩ u) := ⟨h.1.setFar (by simp) _, h.2.1.set0 _, h.2.2.setCell (by simp) _⟩
theorem PartEnv.set1 {w x : World} {u0 u1 u2 : Value} (h : PartEnv w u0 u1 u2 x) (u : Value) : PartEnv w u0 u u2 (x.setCell ⟨w.heap.size + 1, 1, none⟩ u) := ⟨h.1.setFar (by simp) _, h.2.1.set1 _, h.2.2.setCell (by simp) _⟩
theorem PartEnv.set2 {w x : World} {u0 u1 u2 : Value} (h : PartEnv w u0 u1 u2 x) (u : Value) : PartEnv w u0 u1 u (x.setCell ⟨w.heap.size + 1, 2, none⟩ u) := ⟨h.1.setFar (by simp) _, h.2.1.set2 _, h.2.2.setCell (by simp) _⟩
/-- D speaks of what lies below Z, and of no block of the part's own two. -/
structure Stays (w : World) (Z : Nat) (D : World → Prop) : Prop where
  lo : w.heap.size + 2 ≤ Z
  within : ∀ x x' E, D x → Within Z E x x' → D x'
  far : ∀ x a u, D x → a.block < w.heap.size + 2 → D (x.setCell a u)
/-- What a loop of the part stands on: the store that it makes, what is done, and the row under way. -/
def Mak (w : World) (Z : Nat) (D : World → Prop) (T : TypeId) (m : Nat) (u0 u1 u2 v : Value) (n : Nat) (L : List Int) (x : World) : Prop := PartEnv w u0 u1 u2 x ∧ D x ∧ OwnM x Z T m v n L
theorem Mak.later {w x x' : World} {Z : Nat} {D : World → Prop} {T : TypeId} {m : Nat} {u0 u1 u2 v : Value} {n : Nat} {L : List Int} (h : Mak w Z D T m u0 u1 u2 v n L x) (hs : Stays w Z D) (hb : Below x.heap.size x x') : Mak w Z D T m u0 u1 u2 v n L x' := ⟨h.1.later hb, hs.within x x' Z h.2.1 (Within.grow hb), h.2.2.later hb⟩
theorem Mak.step {w x x' : World} {Z : Nat} {D : World → Prop} {T : TypeId} {m : Nat} {u0 u1 u2 v v' : Value} {n n' : Nat} {L L' : List Int} (h : Mak w Z D T m u0 u1 u2 v n L x) (hs : Stays w Z D) (hg : x.grownBy x' v.ownBlock) (ho : OwnM x' Z T m v' n' L') : Mak w Z D T m u0 u1 u2 v' n' L' x' :=
  have hw : Within Z x.heap.size x x' := Within.of hg (fun b q => h.2.2.block b q)
  ⟨h.1.within hw hs.lo, hs.within _ _ _ h.2.1 hw, ho⟩
theorem Mak.set0 {w x : World} {Z : Nat} {D : World → Prop} {T : TypeId} {m : Nat} {u0 u1 u2 v : Value} {n : Nat} {L : List Int} (h : Mak w Z D T m u0 u1 u2 v n L x) (hs : Stays w Z D) : Mak w Z D T m v u1 u2 v n L (x.setCell ⟨w.heap.size + 1, 0, none⟩ v) := ⟨h.1.set0 _, hs.far _ _ _ h.2.1 (by simp), h.2.2.far (by have := hs.lo; simp; omega) _⟩
theorem Mak.set1 {w x : World} {Z : Nat} {D : World → Prop} {T : TypeId} {m : Nat} {u0 u1 u2 v : Value} {n : Nat} {L : List Int} (h : Mak w Z D T m u0 u1 u2 v n L x) (hs : Stays w Z D) : Mak w Z D T m u0 v u2 v n L (x.setCell ⟨w.heap.size + 1, 1, none⟩ v) := ⟨h.1.set1 _, hs.far _ _ _ h.2.1 (by simp), h.2.2.far (by have := hs.lo; simp; omega) _⟩
theorem Mak.set2 {w x : World} {Z : Nat} {D : World → Prop} {T : TypeId} {m : Nat} {u0 u1 u2 v : Value} {n : Nat} {L : List Int} (h : Mak w Z D T m u0 u1 u2 v n L x) (hs : Stays w Z D) : Mak w Z D T m u0 u1 v v n L (x.setCell ⟨w.heap.size + 1, 2, none⟩ v) := ⟨h.1.set2 _, hs.far _ _ _ h.2.1 (by simp), h.2.2.far (by have := hs.lo; simp; omega) _⟩
theorem Stays.none (w : World) : Stays w (w.heap.size + 2) (fun x => w.heap.size + 2 ≤ x.heap.size) := ⟨Nat.le_refl _, fun _ _ _ h hw => Nat.le_trans h hw.size, fun _ _ _ h _ => by simpa using h⟩
theorem Stays.more {w : World} {Z Z' : Nat} {D : World → Prop} {m n : Nat} {F : Nat → Int} {u : Value} (h : Stays w Z D) (hZ : Z ≤ Z') : Stays w Z' (fun x => Z' ≤ x.heap.size ∧ D x ∧ Done x Z Z' m n F u) :=
  ⟨Nat.le_trans h.lo hZ, fun x x' E hd hw => ⟨Nat.le_trans hd.1 hw.size, h.within x x' E hd.2.1 ⟨hw.os, hw.tape, hw.output, hw.size, fun k hk ho => hw.block k hk (by omega)⟩, hd.2.2.within hw (Nat.le_refl _)⟩, fun x a u hd ha => ⟨by simpa using hd.1, h.far x a u hd.2.1 ha, hd.2.2.far (Nat.lt_of_lt_of_le ha h.lo) u⟩⟩
/-- A new store, its rows in three blocks. -/
def NewSto (w : World) (R : Sto) (e : Ending) (w' : World) : Prop := ∃ a0 c0 a1 c1 a2 c2, e = .returned (.agg #[.slice a0 R.nc c0, .slice a1 R.nl c1, .slice a2 R.nw c2]) ∧ (St w' w.heap.size R (.slice a0 R.nc c0) (.slice a1 R.nl c1) (.slice a2 R.nw c2) ∧ FreeS w' R (.slice a0 R.nc c0) (.slice a1 R.nl c1) (.slice a2 R.nw c2) ∧ ApartD R (.slice a0 R.nc c0) (.slice a1 R.nl c1) (.slice a2 R.nw c2)) ∧ Below w.heap.size w w'
end Go.Proofs.YtpfmifpjmcmlaaaGreat

namespace Go.Proofs.YtpfmifpjmcmlaaaGreat
open Go.RowKit

theorem apartD_of {w : World} {B0 B1 z1 z2 : Nat} {S : Sto} {u0 u1 u2 : Value} (hz : z1 ≤ z2) (h0 : 0 < S.nc → ∀ k, u0.ownBlock = some k → k < z1) (h1 : 0 < S.nl → ∀ k, u1.ownBlock = some k → z1 ≤ k ∧ k < z2) (h2 : 0 < S.nw → ∀ k, u2.ownBlock = some k → z2 ≤ k) (r0 : Row w B0 3 S.nc S.c u0) (r1 : Row w B1 5 S.nl S.l u1) : ApartD S u0 u1 u2 := by
  have own : ∀ {B m n : Nat} {F : Nat → Int} {u : Value}, Row w B m n F u → 0 < n → ∃ k, u.ownBlock = some k := fun hr hn => by
    obtain ⟨ao, cp, rfl, hr⟩ := hr
    obtain ⟨g, o, rfl, _⟩ := hr hn
    exact ⟨g, rfl⟩
  refine ⟨fun ha hb e => ?_, fun ha hb e => ?_, fun ha hb e => ?_⟩
  · obtain ⟨k, hk⟩ := own r0 ha
    have := h0 ha k hk; have := h1 hb k (e ▸ hk); omega
  · obtain ⟨k, hk⟩ := own r0 ha
    have := h0 ha k hk; have := h2 hb k (e ▸ hk); omega
  · obtain ⟨k, hk⟩ := own r1 ha
    have := h1 ha k hk; have := h2 hb k (e ▸ hk); omega
set_option maxRecDepth 100000 in
set_option maxHeartbeats 16000000 in
theorem l2Part_anyO (S : Sto) (b oo : Nat) (v0 v1 v2 : Value) (fr tto : Int) (w : World) (h : LiesO w b oo S v0 v1 v2) (hn : S.nc ≤ 200 ∧ S.nl ≤ 200 ∧ S.nw ≤ 200) (ht : 0 ≤ tto ∧ tto ≤ 200) :
    Calls Tryz.prog 146 #[.pointer (some ⟨b, oo, none⟩), .int .i64 fr, .int .i64 tto] w (NewSto w (partS S fr tto)) := by
  obtain ⟨a0, c0, a1, c1, a2, c2, rfl, rfl, rfl⟩ := h.2.form
  have H : Hid (LiesO w b oo S (.slice a0 S.nc c0) (.slice a1 S.nl c1) (.slice a2 S.nw c2)) := h
  obtain ⟨p0, p1, p2⟩ := h.1
  have hb := h.lt
  obtain ⟨hn0, hn1, hn2⟩ := hn
  obtain ⟨ht0, ht1⟩ := ht
  obtain ⟨hi, hhi⟩ : ∃ hi, tto - 1 = hi := ⟨_, rfl⟩
  have hwr : IntKind.i64.wrap (tto - 1) = hi := by
    rw [← hhi]
    simp [IntKind.wrap, IntKind.bits, IntKind.signed]
    omega
  unfold partS NewSto
  rw [hhi]
  clear h hhi
  obtain ⟨i0, hi0, hz00, hz10, hz20⟩ := info_parts info_Cell
  obtain ⟨i1, hi1, hz01, hz11, hz21⟩ := info_parts info_Lock
  obtain ⟨i2, hi2, hz02, hz12, hz22⟩ := info_parts info_Write
  obtain ⟨z0, hz0⟩ : ∃ z, w.heap.size + 2 = z := ⟨_, rfl⟩
  obtain ⟨D0, hD0, hT0⟩ : ∃ D : World → Prop, (∀ x, D x ↔ z0 ≤ x.heap.size) ∧ Stays w z0 D := ⟨fun x => z0 ≤ x.heap.size, fun _ => Iff.rfl, hz0 ▸ Stays.none w⟩
  have HT0 : Hid (Stays w z0 D0) := hT0
  have HZ0 : Hid (∀ x, D0 x → z0 ≤ x.heap.size) := fun x hx => (hD0 x).1 hx
  have E0 : Hid (PartEnv w (.slice none 0 0) (.slice none 0 0) (.slice none 0 0) ((w.alloc (.cells #[.slice none 0 0, .slice none 0 0, .slice none 0 0] 127)).alloc (.cells #[.slice none 0 0, .slice none 0 0, .slice none 0 0] 127))) := ⟨(Blk3.new w _ _ _ _).alloc _, by have := Blk3.new (w.alloc (.cells #[.slice none 0 0, .slice none 0 0, .slice none 0 0] 127)) (.slice none 0 0) (.slice none 0 0) (.slice none 0 0) 127; rw [World.size_alloc] at this; exact this, (below_alloc _ _).alloc (by simp) _⟩
  have MA0 : Hid (Mak w z0 D0 173 3 (.slice none 0 0) (.slice none 0 0) (.slice none 0 0) (.slice none 0 0) 0 [] ((w.alloc (.cells #[.slice none 0 0, .slice none 0 0, .slice none 0 0] 127)).alloc (.cells #[.slice none 0 0, .slice none 0 0, .slice none 0 0] 127))) := ⟨E0.out, (hD0 _).2 (by simp; omega), OwnM.nil _ _ _ _⟩
  clear hT0 hD0 E0
  go_enter Tryz.func146, Tryz.ntmps146
  go_wp2
  go_loopw [8] (fun i wr => ∃ (k : Nat) (ao : Option Addr) (cp : Nat), i = .int .i64 k ∧ k ≤ S.nc ∧ Hid (Mak w z0 D0 173 3 (.slice ao (keepN S.c 3 fr hi k) cp) (.slice none 0 0) (.slice none 0 0) (.slice ao (keepN S.c 3 fr hi k) cp) (keepN S.c 3 fr hi k) (keepL S.c 3 fr hi k) wr)) (fun i _ => S.nc - (intOf i).toNat)
  case atStart => exact ⟨0, none, 0, rfl, Nat.zero_le _, MA0⟩
  case round =>
    clear MA0
    obtain ⟨k, ao, cp, rfl, hk, HS⟩ := hrel
    have hbw := HS.out.1.2.2
    have e0 := (hbw.cell (p := ⟨b, oo, none⟩) hb).trans p0
    have hbr : b < wr.heap.size := Nat.lt_of_lt_of_le hb hbw.size
    by_cases hlt : k < S.nc
    case neg =>
      have en : k = S.nc := by omega
      subst en
      obtain ⟨d0, hd⟩ : ∃ d, d = ao := ⟨_, rfl⟩
      obtain ⟨y0, he⟩ : ∃ e, e = cp := ⟨_, rfl⟩
      subst hd he
      have DD := HS.out.2.2.done (keep_length _ _ _ _ _)
      obtain ⟨z1, hz⟩ : ∃ z, wr.heap.size = z := ⟨_, rfl⟩
      have zle : z0 ≤ z1 := by rw [← hz]; exact HZ0.out wr HS.out.2.1
      rw [hz] at DD
      obtain ⟨D1, hD, hT, hE⟩ : ∃ D : World → Prop, D wr ∧ Stays w z1 D ∧ ∀ x, D x → z1 ≤ x.heap.size ∧ D0 x ∧ Done x z0 z1 3 (keepN S.c 3 fr hi S.nc) (keepF S.c 3 fr hi S.nc) (.slice d0 (keepN S.c 3 fr hi S.nc) y0) := ⟨_, ⟨by omega, HS.out.2.1, DD⟩, HT0.out.more zle, fun _ h => h⟩
      have HT1 : Hid (Stays w z1 D1) := hT
      have HZ1 : Hid (∀ x, D1 x → z1 ≤ x.heap.size) := fun x hx => (hE x hx).1
      have HE1 : Hid (z0 ≤ z1 ∧ ∀ x, D1 x → D0 x ∧ Done x z0 z1 3 (keepN S.c 3 fr hi S.nc) (keepF S.c 3 fr hi S.nc) (.slice d0 (keepN S.c 3 fr hi S.nc) y0)) := ⟨zle, fun x hx => (hE x hx).2⟩
      have MA1 : Hid (Mak w z1 D1 177 5 (.slice d0 (keepN S.c 3 fr hi S.nc) y0) (.slice none 0 0) (.slice none 0 0) (.slice none 0 0) 0 [] wr) := ⟨HS.out.1, hD, OwnM.nil _ _ _ _⟩
      clear DD zle hz hD hT hE HS
      go_wp2
      go_loopw [9] (fun i wr => ∃ (k : Nat) (ao : Option Addr) (cp : Nat), i = .int .i64 k ∧ k ≤ S.nl ∧ Hid (Mak w z1 D1 177 5 (.slice d0 (keepN S.c 3 fr hi S.nc) y0) (.slice ao (keepN S.l 5 fr hi k) cp) (.slice none 0 0) (.slice ao (keepN S.l 5 fr hi k) cp) (keepN S.l 5 fr hi k) (keepL S.l 5 fr hi k) wr)) (fun i _ => S.nl - (intOf i).toNat)
      case atStart => exact ⟨0, none, 0, rfl, Nat.zero_le _, MA1⟩
      case round =>
        clear MA1
        obtain ⟨k, ao, cp, rfl, hk, HS⟩ := hrel
        have hbw := HS.out.1.2.2
        have e0 := (hbw.cell (p := ⟨b, oo + 1, none⟩) hb).trans p1
        have hbr : b < wr.heap.size := Nat.lt_of_lt_of_le hb hbw.size
        by_cases hlt : k < S.nl
        case neg =>
          have en : k = S.nl := by omega
          subst en
          obtain ⟨d1, hd⟩ : ∃ d, d = ao := ⟨_, rfl⟩
          obtain ⟨y1, he⟩ : ∃ e, e = cp := ⟨_, rfl⟩
          subst hd he
          have DD := HS.out.2.2.done (keep_length _ _ _ _ _)
          obtain ⟨z2, hz⟩ : ∃ z, wr.heap.size = z := ⟨_, rfl⟩
          have zle : z1 ≤ z2 := by rw [← hz]; exact HZ1.out wr HS.out.2.1
          rw [hz] at DD
          obtain ⟨D2, hD, hT, hE⟩ : ∃ D : World → Prop, D wr ∧ Stays w z2 D ∧ ∀ x, D x → z2 ≤ x.heap.size ∧ D1 x ∧ Done x z1 z2 5 (keepN S.l 5 fr hi S.nl) (keepF S.l 5 fr hi S.nl) (.slice d1 (keepN S.l 5 fr hi S.nl) y1) := ⟨_, ⟨by omega, HS.out.2.1, DD⟩, HT1.out.more zle, fun _ h => h⟩
          have HT2 : Hid (Stays w z2 D2) := hT
          have HZ2 : Hid (∀ x, D2 x → z2 ≤ x.heap.size) := fun x hx => (hE x hx).1
          have HE2 : Hid (z1 ≤ z2 ∧ ∀ x, D2 x → D1 x ∧ Done x z1 z2 5 (keepN S.l 5 fr hi S.nl) (keepF S.l 5 fr hi S.nl) (.slice d1 (keepN S.l 5 fr hi S.nl) y1)) := ⟨zle, fun x hx => (hE x hx).2⟩
          have MA2 : Hid (Mak w z2 D2 181 4 (.slice d0 (keepN S.c 3 fr hi S.nc) y0) (.slice d1 (keepN S.l 5 fr hi S.nl) y1) (.slice none 0 0) (.slice none 0 0) 0 [] wr) := ⟨HS.out.1, hD, OwnM.nil _ _ _ _⟩
          clear DD zle hz hD hT hE HS
          go_wp2
          go_loopw [10] (fun i wr => ∃ (k : Nat) (ao : Option Addr) (cp : Nat), i = .int .i64 k ∧ k ≤ S.nw ∧ Hid (Mak w z2 D2 181 4 (.slice d0 (keepN S.c 3 fr hi S.nc) y0) (.slice d1 (keepN S.l 5 fr hi S.nl) y1) (.slice ao (keepN S.k 4 fr hi k) cp) (.slice ao (keepN S.k 4 fr hi k) cp) (keepN S.k 4 fr hi k) (keepL S.k 4 fr hi k) wr)) (fun i _ => S.nw - (intOf i).toNat)
          case atStart => exact ⟨0, none, 0, rfl, Nat.zero_le _, MA2⟩
          case round =>
            clear MA2
            obtain ⟨k, ao, cp, rfl, hk, HS⟩ := hrel
            have hbw := HS.out.1.2.2
            have e0 := (hbw.cell (p := ⟨b, oo + 2, none⟩) hb).trans p2
            have hbr : b < wr.heap.size := Nat.lt_of_lt_of_le hb hbw.size
            by_cases hlt : k < S.nw
            case neg =>
              have en : k = S.nw := by omega
              subst en
              obtain ⟨d2, hd⟩ : ∃ d, d = ao := ⟨_, rfl⟩
              obtain ⟨y2, he⟩ : ∃ e, e = cp := ⟨_, rfl⟩
              subst hd he
              obtain ⟨⟨r0, r1, r2⟩, f0, f1, f2⟩ := HS.out.1.1
              obtain ⟨⟨s0, s1, s2⟩, _⟩ := HS.out.1.2.1
              have D2' := HE2.out.2 _ HS.out.2.1
              have D1' := HE1.out.2 _ D2'.1
              have DW := HS.out.2.2.done (keep_length _ _ _ _ _)
              have R : Hid ((St wr z0 ⟨(keepN S.c 3 fr hi S.nc), (keepF S.c 3 fr hi S.nc), (keepN S.l 5 fr hi S.nl), (keepF S.l 5 fr hi S.nl), (keepN S.k 4 fr hi S.nw), (keepF S.k 4 fr hi S.nw)⟩ (.slice d0 (keepN S.c 3 fr hi S.nc) y0) (.slice d1 (keepN S.l 5 fr hi S.nl) y1) (.slice d2 (keepN S.k 4 fr hi S.nw) y2) ∧ FreeS wr ⟨(keepN S.c 3 fr hi S.nc), (keepF S.c 3 fr hi S.nc), (keepN S.l 5 fr hi S.nl), (keepF S.l 5 fr hi S.nl), (keepN S.k 4 fr hi S.nw), (keepF S.k 4 fr hi S.nw)⟩ (.slice d0 (keepN S.c 3 fr hi S.nc) y0) (.slice d1 (keepN S.l 5 fr hi S.nl) y1) (.slice d2 (keepN S.k 4 fr hi S.nw) y2)) ∧ ApartD ⟨(keepN S.c 3 fr hi S.nc), (keepF S.c 3 fr hi S.nc), (keepN S.l 5 fr hi S.nl), (keepF S.l 5 fr hi S.nl), (keepN S.k 4 fr hi S.nw), (keepF S.k 4 fr hi S.nw)⟩ (.slice d0 (keepN S.c 3 fr hi S.nc) y0) (.slice d1 (keepN S.l 5 fr hi S.nl) y1) (.slice d2 (keepN S.k 4 fr hi S.nw) y2)) :=
                ⟨⟨⟨D1'.2.1.1, D2'.2.1.1.mono HE1.out.1, DW.1.1.mono (Nat.le_trans HE1.out.1 HE2.out.1)⟩, D1'.2.1.2, D2'.2.1.2, DW.1.2⟩,
                  apartD_of (z1 := z1) (z2 := z2) HE2.out.1 D1'.2.2 (fun h0 k hk => ⟨(D2'.2.1.1.lt h0 k hk).1, D2'.2.2 h0 k hk⟩) (fun h0 k hk => (DW.1.1.lt h0 k hk).1) D1'.2.1.1 D2'.2.1.1⟩
              have hne : ¬ w.heap.size + 1 = w.heap.size := by omega
              have hlo0 : w.heap.size < z0 := by omega
              have HB : Hid (Below w.heap.size w wr) := HS.out.1.2.2
              clear HS D1' D2' DW
              go_wp2
              exact bodyPost_ret (v := .agg #[.slice d0 (keepN S.c 3 fr hi S.nc) y0, .slice d1 (keepN S.l 5 fr hi S.nl) y1, .slice d2 (keepN S.k 4 fr hi S.nw) y2]) (by simp [results, Tryz.results146, go_sem, r0, r1, r2]) rfl ⟨d0, y0, d1, y1, d2, y2, rfl, ⟨((((R.out.1.1.far hlo0 _).far hlo0 _).far hlo0 _).mono (by omega)), ((R.out.1.2.far _ _).far _ _).far _ _, R.out.2⟩, ((HB.out.setCell (Nat.le_refl _) _).setCell (Nat.le_refl _) _).setCell (Nat.le_refl _) _⟩
            obtain ⟨g, o, rfl, _, hg, x0, x1, x2, x3⟩ := H.out.2.2.2.at4 hlt
            replace x0 := (hbw.cell (p := ⟨g, o + k * 4, none⟩) hg).trans x0
            replace x1 := (hbw.cell (p := ⟨g, o + k * 4 + 1, none⟩) hg).trans x1
            replace x2 := (hbw.cell (p := ⟨g, o + k * 4 + 2, none⟩) hg).trans x2
            replace x3 := (hbw.cell (p := ⟨g, o + k * 4 + 3, none⟩) hg).trans x3
            have hgr : g < wr.heap.size := Nat.lt_of_lt_of_le hg hbw.size
            obtain ⟨n0, N0⟩ : ∃ x, S.k (k * 4) = x := ⟨_, rfl⟩
            rw [N0] at x0
            obtain ⟨n1, N1⟩ : ∃ x, S.k (k * 4 + 1) = x := ⟨_, rfl⟩
            rw [N1] at x1
            obtain ⟨n2, N2⟩ : ∃ x, S.k (k * 4 + 2) = x := ⟨_, rfl⟩
            rw [N2] at x2
            obtain ⟨n3, N3⟩ : ∃ x, S.k (k * 4 + 3) = x := ⟨_, rfl⟩
            rw [N3] at x3
            have NN : Hid (S.k (k * 4) = n0 ∧ S.k (k * 4 + 1) = n1 ∧ S.k (k * 4 + 2) = n2 ∧ S.k (k * 4 + 3) = n3) := ⟨N0, N1, N2, N3⟩
            by_cases hin : fr ≤ n0 ∧ n0 ≤ hi
            case neg =>
              have HI : Hid (decide (fr ≤ n0 ∧ n0 ≤ hi) = false) := decide_eq_false hin
              have M1 : Hid (Mak w z2 D2 181 4 (.slice d0 (keepN S.c 3 fr hi S.nc) y0) (.slice d1 (keepN S.l 5 fr hi S.nl) y1) (.slice ao (keepN S.k 4 fr hi (k + 1)) cp) (.slice ao (keepN S.k 4 fr hi (k + 1)) cp) (keepN S.k 4 fr hi (k + 1)) (keepL S.k 4 fr hi (k + 1)) wr) := by
                have h1 := keep_no (F := S.k) (m := 4) (a := fr) (b := hi) (k := k) (by rw [N0]; exact hin)
                unfold Hid
                rw [h1.1, h1.2]
                exact HS.out
              clear N0 N1 N2 N3 NN hin HS
              go_wp2_with fail
              refine (l1In_is _ _ _ false HI.out _).mono ?_
              rintro e w1 ⟨rfl, rfl⟩
              go_wp2
              go_roundw
              case rel => exact ⟨k + 1, ao, cp, by go_num, by omega, M1⟩
              case measure => simp [intOf]; omega
            have HI : Hid (decide (fr ≤ n0 ∧ n0 ≤ hi) = true) := decide_eq_true hin
            have HL : Hid ((keepL S.k 4 fr hi (k + 1)) = (keepL S.k 4 fr hi k) ++ [n0, n1, n2, n3] ∧ (keepN S.k 4 fr hi (k + 1)) = (keepN S.k 4 fr hi k) + 1) := by
              have h1 := keep_yes (F := S.k) (m := 4) (a := fr) (b := hi) (k := k) (by rw [N0]; exact hin)
              refine ⟨h1.1.trans ?_, h1.2⟩
              rw [show (List.range 4).map (fun q => S.k (k * 4 + q)) = [S.k (k * 4), S.k (k * 4 + 1), S.k (k * 4 + 2), S.k (k * 4 + 3)] from rfl, N0, N1, N2, N3]
            have hnle := keep_le S.k 4 fr hi k
            obtain ⟨nn, hnn⟩ : ∃ nn, (keepN S.k 4 fr hi k) = nn := ⟨_, rfl⟩
            rw [hnn] at hnle HS
            have HNN : Hid ((keepN S.k 4 fr hi k) = nn) := hnn
            have HA : Hid (Mak w z2 D2 181 4 (.slice d0 (keepN S.c 3 fr hi S.nc) y0) (.slice d1 (keepN S.l 5 fr hi S.nl) y1) (.slice ao nn cp) (.slice ao nn cp) nn (keepL S.k 4 fr hi k) (wr.alloc (.cells #[.int .i64 n0, .int .i64 n1, .int .i64 n2, .int .i64 n3] 181)).drew) := HS.out.later HT2.out (below_alloc _ _).drew
            have s2 := HS.out.1.2.1.1.2.2
            have fz2 := HS.out.1.2.1.2.2.2
            have fa2 : (wr.alloc (.cells #[.int .i64 n0, .int .i64 n1, .int .i64 n2, .int .i64 n3] 181)).frozen? ⟨w.heap.size + 1, 2, none⟩ = false := HA.out.1.2.1.2.2.2
            have fb2 : (wr.alloc (.cells #[.int .i64 n0, .int .i64 n1, .int .i64 n2, .int .i64 n3] 181)).drew.frozen? ⟨w.heap.size + 1, 2, none⟩ = false := HA.out.1.2.1.2.2.2
            have zs := HS.out.1.2.1.lt
            have hob := HS.out.2.2.block
            have hlo := HT2.out.lo
            have nq : ∀ q, q < w.heap.size + 2 → some q ≠ (Value.slice ao nn cp).ownBlock := fun q hq e => by have := hob q e.symm; omega
            have hzw : z2 ≤ wr.heap.size := HZ2.out wr HS.out.2.1
            clear N0 N1 N2 N3 NN hin HS hob
            clear hnn
            go_wp2_with fail
            refine (l1In_is _ _ _ true HI.out _).mono ?_
            rintro e w1 ⟨rfl, rfl⟩
            go_wp2_with fail
            go_region_law ((refine step_append_lies _ (by rfl) _ _ 125 (by rfl) z2 181 i2 (.agg #[.int .i64 0, .int .i64 0, .int .i64 0, .int .i64 0]) 4 32 Tryz.underlying125 hi2 hz02 hz12 hz22 rfl (by omega) (.slice ao nn cp) nn _ (by rfl) HA.out.2.2 ⟨w1.heap.size, 0, none⟩ 1 1 [.int .i64 n0, .int .i64 n1, .int .i64 n2, .int .i64 n3] (by rfl) (by rfl) (World.news_of_block (cs := #[.int .i64 n0, .int .i64 n1, .int .i64 n2, .int .i64 n3]) (t := 181) (fr := (0, 0)) (heap_alloc_new w1 _)) (by simp [Value.oneCell']) (by omega) (by unfold maxLen; omega) (by omega) (by simp; omega) (w1.heap.size + 1) (by simp) ?_; intro gg cap w5 ho hgrow hat hlt5; have F2 : OwnM w5 z2 181 4 (.slice (some ⟨gg, 0, none⟩) (keepN S.k 4 fr hi (k + 1)) cap) (keepN S.k 4 fr hi (k + 1)) (keepL S.k 4 fr hi (k + 1)) := (by unfold OwnM; rw [HL.out.1, HL.out.2, HNN.out, List.map_append]; exact ho); have M5 := HA.out.step HT2.out hgrow F2; rw [HL.out.2, HNN.out] at M5; have t2 := M5.1.2.1.1.2.2; have g2 := M5.1.2.1.2.2.2; have M6 : Hid (Mak w z2 D2 181 4 (.slice d0 (keepN S.c 3 fr hi S.nc) y0) (.slice d1 (keepN S.l 5 fr hi S.nl) y1) (.slice (some ⟨gg, 0, none⟩) (nn + 1) cap) (.slice (some ⟨gg, 0, none⟩) (nn + 1) cap) (nn + 1) (keepL S.k 4 fr hi (k + 1)) (w5.setCell ⟨w.heap.size + 1, 2, none⟩ (.slice (some ⟨gg, 0, none⟩) (nn + 1) cap))) := M5.set2 HT2.out; clear M5 F2))
            all_goals
              clear HA s2 zs fz2 fa2 fb2
              go_wp2
              go_roundw
              case rel => exact ⟨k + 1, some ⟨gg, 0, none⟩, cap, by go_num, by omega, by rw [HL.out.2, HNN.out]; exact M6⟩
              case measure => simp [intOf]; omega
        obtain ⟨g, o, rfl, _, hg, x0, x1, x2, x3, x4⟩ := H.out.2.2.1.at5 hlt
        replace x0 := (hbw.cell (p := ⟨g, o + k * 5, none⟩) hg).trans x0
        replace x1 := (hbw.cell (p := ⟨g, o + k * 5 + 1, none⟩) hg).trans x1
        replace x2 := (hbw.cell (p := ⟨g, o + k * 5 + 2, none⟩) hg).trans x2
        replace x3 := (hbw.cell (p := ⟨g, o + k * 5 + 3, none⟩) hg).trans x3
        replace x4 := (hbw.cell (p := ⟨g, o + k * 5 + 4, none⟩) hg).trans x4
        have hgr : g < wr.heap.size := Nat.lt_of_lt_of_le hg hbw.size
        obtain ⟨n0, N0⟩ : ∃ x, S.l (k * 5) = x := ⟨_, rfl⟩
        rw [N0] at x0
        obtain ⟨n1, N1⟩ : ∃ x, S.l (k * 5 + 1) = x := ⟨_, rfl⟩
        rw [N1] at x1
        obtain ⟨n2, N2⟩ : ∃ x, S.l (k * 5 + 2) = x := ⟨_, rfl⟩
        rw [N2] at x2
        obtain ⟨n3, N3⟩ : ∃ x, S.l (k * 5 + 3) = x := ⟨_, rfl⟩
        rw [N3] at x3
        obtain ⟨n4, N4⟩ : ∃ x, S.l (k * 5 + 4) = x := ⟨_, rfl⟩
        rw [N4] at x4
        have NN : Hid (S.l (k * 5) = n0 ∧ S.l (k * 5 + 1) = n1 ∧ S.l (k * 5 + 2) = n2 ∧ S.l (k * 5 + 3) = n3 ∧ S.l (k * 5 + 4) = n4) := ⟨N0, N1, N2, N3, N4⟩
        by_cases hin : fr ≤ n0 ∧ n0 ≤ hi
        case neg =>
          have HI : Hid (decide (fr ≤ n0 ∧ n0 ≤ hi) = false) := decide_eq_false hin
          have M1 : Hid (Mak w z1 D1 177 5 (.slice d0 (keepN S.c 3 fr hi S.nc) y0) (.slice ao (keepN S.l 5 fr hi (k + 1)) cp) (.slice none 0 0) (.slice ao (keepN S.l 5 fr hi (k + 1)) cp) (keepN S.l 5 fr hi (k + 1)) (keepL S.l 5 fr hi (k + 1)) wr) := by
            have h1 := keep_no (F := S.l) (m := 5) (a := fr) (b := hi) (k := k) (by rw [N0]; exact hin)
            unfold Hid
            rw [h1.1, h1.2]
            exact HS.out
          clear N0 N1 N2 N3 N4 NN hin HS
          go_wp2_with fail
          refine (l1In_is _ _ _ false HI.out _).mono ?_
          rintro e w1 ⟨rfl, rfl⟩
          go_wp2
          go_roundw
          case rel => exact ⟨k + 1, ao, cp, by go_num, by omega, M1⟩
          case measure => simp [intOf]; omega
        have HI : Hid (decide (fr ≤ n0 ∧ n0 ≤ hi) = true) := decide_eq_true hin
        have HL : Hid ((keepL S.l 5 fr hi (k + 1)) = (keepL S.l 5 fr hi k) ++ [n0, n1, n2, n3, n4] ∧ (keepN S.l 5 fr hi (k + 1)) = (keepN S.l 5 fr hi k) + 1) := by
          have h1 := keep_yes (F := S.l) (m := 5) (a := fr) (b := hi) (k := k) (by rw [N0]; exact hin)
          refine ⟨h1.1.trans ?_, h1.2⟩
          rw [show (List.range 5).map (fun q => S.l (k * 5 + q)) = [S.l (k * 5), S.l (k * 5 + 1), S.l (k * 5 + 2), S.l (k * 5 + 3), S.l (k * 5 + 4)] from rfl, N0, N1, N2, N3, N4]
        have hnle := keep_le S.l 5 fr hi k
        obtain ⟨nn, hnn⟩ : ∃ nn, (keepN S.l 5 fr hi k) = nn := ⟨_, rfl⟩
        rw [hnn] at hnle HS
        have HNN : Hid ((keepN S.l 5 fr hi k) = nn) := hnn
        have HA : Hid (Mak w z1 D1 177 5 (.slice d0 (keepN S.c 3 fr hi S.nc) y0) (.slice ao nn cp) (.slice none 0 0) (.slice ao nn cp) nn (keepL S.l 5 fr hi k) (wr.alloc (.cells #[.int .i64 n0, .int .i64 n1, .int .i64 n2, .int .i64 n3, .int .i64 n4] 177)).drew) := HS.out.later HT1.out (below_alloc _ _).drew
        have s1 := HS.out.1.2.1.1.2.1
        have fz1 := HS.out.1.2.1.2.2.1
        have fa1 : (wr.alloc (.cells #[.int .i64 n0, .int .i64 n1, .int .i64 n2, .int .i64 n3, .int .i64 n4] 177)).frozen? ⟨w.heap.size + 1, 1, none⟩ = false := HA.out.1.2.1.2.2.1
        have fb1 : (wr.alloc (.cells #[.int .i64 n0, .int .i64 n1, .int .i64 n2, .int .i64 n3, .int .i64 n4] 177)).drew.frozen? ⟨w.heap.size + 1, 1, none⟩ = false := HA.out.1.2.1.2.2.1
        have zs := HS.out.1.2.1.lt
        have hob := HS.out.2.2.block
        have hlo := HT1.out.lo
        have nq : ∀ q, q < w.heap.size + 2 → some q ≠ (Value.slice ao nn cp).ownBlock := fun q hq e => by have := hob q e.symm; omega
        have hzw : z1 ≤ wr.heap.size := HZ1.out wr HS.out.2.1
        clear N0 N1 N2 N3 N4 NN hin HS hob
        clear hnn
        go_wp2_with fail
        refine (l1In_is _ _ _ true HI.out _).mono ?_
        rintro e w1 ⟨rfl, rfl⟩
        go_wp2_with fail
        go_region_law ((refine step_append_lies _ (by rfl) _ _ 124 (by rfl) z1 177 i1 (.agg #[.int .i64 0, .int .i64 0, .int .i64 0, .int .i64 0, .int .i64 0]) 5 40 Tryz.underlying124 hi1 hz01 hz11 hz21 rfl (by omega) (.slice ao nn cp) nn _ (by rfl) HA.out.2.2 ⟨w1.heap.size, 0, none⟩ 1 1 [.int .i64 n0, .int .i64 n1, .int .i64 n2, .int .i64 n3, .int .i64 n4] (by rfl) (by rfl) (World.news_of_block (cs := #[.int .i64 n0, .int .i64 n1, .int .i64 n2, .int .i64 n3, .int .i64 n4]) (t := 177) (fr := (0, 0)) (heap_alloc_new w1 _)) (by simp [Value.oneCell']) (by omega) (by unfold maxLen; omega) (by omega) (by simp; omega) (w1.heap.size + 1) (by simp) ?_; intro gg cap w5 ho hgrow hat hlt5; have F2 : OwnM w5 z1 177 5 (.slice (some ⟨gg, 0, none⟩) (keepN S.l 5 fr hi (k + 1)) cap) (keepN S.l 5 fr hi (k + 1)) (keepL S.l 5 fr hi (k + 1)) := (by unfold OwnM; rw [HL.out.1, HL.out.2, HNN.out, List.map_append]; exact ho); have M5 := HA.out.step HT1.out hgrow F2; rw [HL.out.2, HNN.out] at M5; have t1 := M5.1.2.1.1.2.1; have g1 := M5.1.2.1.2.2.1; have M6 : Hid (Mak w z1 D1 177 5 (.slice d0 (keepN S.c 3 fr hi S.nc) y0) (.slice (some ⟨gg, 0, none⟩) (nn + 1) cap) (.slice none 0 0) (.slice (some ⟨gg, 0, none⟩) (nn + 1) cap) (nn + 1) (keepL S.l 5 fr hi (k + 1)) (w5.setCell ⟨w.heap.size + 1, 1, none⟩ (.slice (some ⟨gg, 0, none⟩) (nn + 1) cap))) := M5.set1 HT1.out; clear M5 F2))
        all_goals
          clear HA s1 zs fz1 fa1 fb1
          go_wp2
          go_roundw
          case rel => exact ⟨k + 1, some ⟨gg, 0, none⟩, cap, by go_num, by omega, by rw [HL.out.2, HNN.out]; exact M6⟩
          case measure => simp [intOf]; omega
    obtain ⟨g, o, rfl, _, hg, x0, x1, x2⟩ := H.out.2.1.at3 hlt
    replace x0 := (hbw.cell (p := ⟨g, o + k * 3, none⟩) hg).trans x0
    replace x1 := (hbw.cell (p := ⟨g, o + k * 3 + 1, none⟩) hg).trans x1
    replace x2 := (hbw.cell (p := ⟨g, o + k * 3 + 2, none⟩) hg).trans x2
    have hgr : g < wr.heap.size := Nat.lt_of_lt_of_le hg hbw.size
    obtain ⟨n0, N0⟩ : ∃ x, S.c (k * 3) = x := ⟨_, rfl⟩
    rw [N0] at x0
    obtain ⟨n1, N1⟩ : ∃ x, S.c (k * 3 + 1) = x := ⟨_, rfl⟩
    rw [N1] at x1
    obtain ⟨n2, N2⟩ : ∃ x, S.c (k * 3 + 2) = x := ⟨_, rfl⟩
    rw [N2] at x2
    have NN : Hid (S.c (k * 3) = n0 ∧ S.c (k * 3 + 1) = n1 ∧ S.c (k * 3 + 2) = n2) := ⟨N0, N1, N2⟩
    by_cases hin : fr ≤ n0 ∧ n0 ≤ hi
    case neg =>
      have HI : Hid (decide (fr ≤ n0 ∧ n0 ≤ hi) = false) := decide_eq_false hin
      have M1 : Hid (Mak w z0 D0 173 3 (.slice ao (keepN S.c 3 fr hi (k + 1)) cp) (.slice none 0 0) (.slice none 0 0) (.slice ao (keepN S.c 3 fr hi (k + 1)) cp) (keepN S.c 3 fr hi (k + 1)) (keepL S.c 3 fr hi (k + 1)) wr) := by
        have h1 := keep_no (F := S.c) (m := 3) (a := fr) (b := hi) (k := k) (by rw [N0]; exact hin)
        unfold Hid
        rw [h1.1, h1.2]
        exact HS.out
      clear N0 N1 N2 NN hin HS
      go_wp2_with fail
      refine (l1In_is _ _ _ false HI.out _).mono ?_
      rintro e w1 ⟨rfl, rfl⟩
      go_wp2
      go_roundw
      case rel => exact ⟨k + 1, ao, cp, by go_num, by omega, M1⟩
      case measure => simp [intOf]; omega
    have HI : Hid (decide (fr ≤ n0 ∧ n0 ≤ hi) = true) := decide_eq_true hin
    have HL : Hid ((keepL S.c 3 fr hi (k + 1)) = (keepL S.c 3 fr hi k) ++ [n0, n1, n2] ∧ (keepN S.c 3 fr hi (k + 1)) = (keepN S.c 3 fr hi k) + 1) := by
      have h1 := keep_yes (F := S.c) (m := 3) (a := fr) (b := hi) (k := k) (by rw [N0]; exact hin)
      refine ⟨h1.1.trans ?_, h1.2⟩
      rw [show (List.range 3).map (fun q => S.c (k * 3 + q)) = [S.c (k * 3), S.c (k * 3 + 1), S.c (k * 3 + 2)] from rfl, N0, N1, N2]
    have hnle := keep_le S.c 3 fr hi k
    obtain ⟨nn, hnn⟩ : ∃ nn, (keepN S.c 3 fr hi k) = nn := ⟨_, rfl⟩
    rw [hnn] at hnle HS
    have HNN : Hid ((keepN S.c 3 fr hi k) = nn) := hnn
    have HA : Hid (Mak w z0 D0 173 3 (.slice ao nn cp) (.slice none 0 0) (.slice none 0 0) (.slice ao nn cp) nn (keepL S.c 3 fr hi k) (wr.alloc (.cells #[.int .i64 n0, .int .i64 n1, .int .i64 n2] 173)).drew) := HS.out.later HT0.out (below_alloc _ _).drew
    have s0 := HS.out.1.2.1.1.1
    have fz0 := HS.out.1.2.1.2.1
    have fa0 : (wr.alloc (.cells #[.int .i64 n0, .int .i64 n1, .int .i64 n2] 173)).frozen? ⟨w.heap.size + 1, 0, none⟩ = false := HA.out.1.2.1.2.1
    have fb0 : (wr.alloc (.cells #[.int .i64 n0, .int .i64 n1, .int .i64 n2] 173)).drew.frozen? ⟨w.heap.size + 1, 0, none⟩ = false := HA.out.1.2.1.2.1
    have zs := HS.out.1.2.1.lt
    have hob := HS.out.2.2.block
    have hlo := HT0.out.lo
    have nq : ∀ q, q < w.heap.size + 2 → some q ≠ (Value.slice ao nn cp).ownBlock := fun q hq e => by have := hob q e.symm; omega
    have hzw : z0 ≤ wr.heap.size := HZ0.out wr HS.out.2.1
    clear N0 N1 N2 NN hin HS hob
    clear hnn
    go_wp2_with fail
    refine (l1In_is _ _ _ true HI.out _).mono ?_
    rintro e w1 ⟨rfl, rfl⟩
    go_wp2_with fail
    go_region_law ((refine step_append_lies _ (by rfl) _ _ 123 (by rfl) z0 173 i0 (.agg #[.int .i64 0, .int .i64 0, .int .i64 0]) 3 24 Tryz.underlying123 hi0 hz00 hz10 hz20 rfl (by omega) (.slice ao nn cp) nn _ (by rfl) HA.out.2.2 ⟨w1.heap.size, 0, none⟩ 1 1 [.int .i64 n0, .int .i64 n1, .int .i64 n2] (by rfl) (by rfl) (World.news_of_block (cs := #[.int .i64 n0, .int .i64 n1, .int .i64 n2]) (t := 173) (fr := (0, 0)) (heap_alloc_new w1 _)) (by simp [Value.oneCell']) (by omega) (by unfold maxLen; omega) (by omega) (by simp; omega) (w1.heap.size + 1) (by simp) ?_; intro gg cap w5 ho hgrow hat hlt5; have F2 : OwnM w5 z0 173 3 (.slice (some ⟨gg, 0, none⟩) (keepN S.c 3 fr hi (k + 1)) cap) (keepN S.c 3 fr hi (k + 1)) (keepL S.c 3 fr hi (k + 1)) := (by unfold OwnM; rw [HL.out.1, HL.out.2, HNN.out, List.map_append]; exact ho); have M5 := HA.out.step HT0.out hgrow F2; rw [HL.out.2, HNN.out] at M5; have t0 := M5.1.2.1.1.1; have g0 := M5.1.2.1.2.1; have M6 : Hid (Mak w z0 D0 173 3 (.slice (some ⟨gg, 0, none⟩) (nn + 1) cap) (.slice none 0 0) (.slice none 0 0) (.slice (some ⟨gg, 0, none⟩) (nn + 1) cap) (nn + 1) (keepL S.c 3 fr hi (k + 1)) (w5.setCell ⟨w.heap.size + 1, 0, none⟩ (.slice (some ⟨gg, 0, none⟩) (nn + 1) cap))) := M5.set0 HT0.out; clear M5 F2))
    all_goals
      clear HA s0 zs fz0 fa0 fb0
      go_wp2
      go_roundw
      case rel => exact ⟨k + 1, some ⟨gg, 0, none⟩, cap, by go_num, by omega, by rw [HL.out.2, HNN.out]; exact M6⟩
      case measure => simp [intOf]; omega
end Go.Proofs.YtpfmifpjmcmlaaaGreat

namespace Go.Proofs.YtpfmifpjmcmlaaaGreat
section
open Go.RowKit
/-- What is told of m ranges from number k on, where a is To of the one ahead. -/
def rFrom (F : Nat → Int) : Nat → Nat → Int → Int
  | 0, _, a => if a = 200 then 0 else 1
  | m + 1, k, a => if ¬ (1 ≤ F (k * 3 + 2) ∧ F (k * 3 + 2) ≤ 9999) ∨ F (k * 3 + 1) ≤ F (k * 3) then 3 else if F (k * 3) ≠ a then 1 else rFrom F m (k + 1) (F (k * 3 + 1))
/-- What is told of a row of ranges. -/
def rangesF (n : Nat) (F : Nat → Int) : Int := if n < 1 ∨ 6 < n then 2 else rFrom F n 0 0
theorem rFrom_bad {F : Nat → Int} {m k : Nat} {a : Int} (hm : 0 < m) (h : ¬ (1 ≤ F (k * 3 + 2) ∧ F (k * 3 + 2) ≤ 9999) ∨ F (k * 3 + 1) ≤ F (k * 3)) : rFrom F m k a = 3 := by
  obtain ⟨m, rfl⟩ : ∃ q, m = q + 1 := ⟨m - 1, by omega⟩
  unfold rFrom; rw [if_pos h]
theorem rFrom_off {F : Nat → Int} {m k : Nat} {a : Int} (hm : 0 < m) (h : ¬ (¬ (1 ≤ F (k * 3 + 2) ∧ F (k * 3 + 2) ≤ 9999) ∨ F (k * 3 + 1) ≤ F (k * 3))) (h2 : F (k * 3) ≠ a) : rFrom F m k a = 1 := by
  obtain ⟨m, rfl⟩ : ∃ q, m = q + 1 := ⟨m - 1, by omega⟩
  unfold rFrom; rw [if_neg h, if_pos h2]
theorem rFrom_on {F : Nat → Int} {m k : Nat} {a : Int} (hm : 0 < m) (h : ¬ (¬ (1 ≤ F (k * 3 + 2) ∧ F (k * 3 + 2) ≤ 9999) ∨ F (k * 3 + 1) ≤ F (k * 3))) (h2 : F (k * 3) = a) : rFrom F m k a = rFrom F (m - 1) (k + 1) (F (k * 3 + 1)) := by
  obtain ⟨m, rfl⟩ : ∃ q, m = q + 1 := ⟨m - 1, by omega⟩
  rw [rFrom, if_neg h, if_neg (fun q => q h2)]; rfl
theorem below_rn {B : Nat} {a w : World} (h : Below B a w) (q : Nat) : Below B a (w.drewN q) := ⟨h.os, h.tape, h.output, h.size, h.block⟩

theorem inR_is (v lo hi : Int) (r : Bool) (hr : decide (lo ≤ v ∧ v ≤ hi) = r) (w : World) :
    Calls Tryz.prog 62 #[.int .i64 v, .int .i64 lo, .int .i64 hi] w fun e w' => e = .returned (.bool r) ∧ w' = w := by
  by_cases h1 : lo ≤ v
  · by_cases h2 : v ≤ hi
    · have d : decide (v ≤ hi) = true := decide_eq_true h2
      rw [decide_eq_true (show lo ≤ v ∧ v ≤ hi from ⟨h1, h2⟩)] at hr
      subst hr
      go_enter Tryz.func62, Tryz.ntmps62
      go_wp2
      go_ret
      exact ⟨rfl, rfl⟩
    · have d : decide (v ≤ hi) = false := decide_eq_false h2
      rw [decide_eq_false (show ¬ (lo ≤ v ∧ v ≤ hi) from fun h => h2 h.2)] at hr
      subst hr
      go_enter Tryz.func62, Tryz.ntmps62
      go_wp2
      go_ret
      exact ⟨rfl, rfl⟩
  · have d : decide (lo ≤ v) = false := decide_eq_false h1
    rw [decide_eq_false (show ¬ (lo ≤ v ∧ v ≤ hi) from fun h => h1 h.1)] at hr
    subst hr
    go_enter Tryz.func62, Tryz.ntmps62
    go_wp2
    go_ret
    exact ⟨rfl, rfl⟩
theorem l6Epoch_is (t : Int) (r : Bool) (hr : decide (1 ≤ t ∧ t ≤ 9999) = r) (w : World) :
    Calls Tryz.prog 140 #[.int .i64 t] w fun e w' => e = .returned (.bool r) ∧ w' = w := by
  have H : Hid (decide (1 ≤ t ∧ t ≤ 9999) = r) := hr
  clear hr
  go_enter Tryz.func140, Tryz.ntmps140
  go_wp2_with fail
  refine (inR_is _ _ _ r H.out _).mono ?_
  rintro e w' ⟨rfl, rfl⟩
  go_wp2
  go_ret
  exact ⟨rfl, rfl⟩
theorem isEpoch_is (t : Int) (r : Bool) (hr : decide (1 ≤ t ∧ t ≤ 9999) = r) (w : World) :
    Calls Tryz.prog 109 #[.int .i64 t] w fun e w' => e = .returned (.bool r) ∧ w' = w := by
  by_cases h1 : 1 ≤ t
  · by_cases h2 : t ≤ 9999
    · have d : decide (t ≤ 9999) = true := decide_eq_true h2
      rw [decide_eq_true (show 1 ≤ t ∧ t ≤ 9999 from ⟨h1, h2⟩)] at hr
      subst hr
      go_enter Tryz.func109, Tryz.ntmps109
      go_wp2
      go_ret
      exact ⟨rfl, rfl⟩
    · have d : decide (t ≤ 9999) = false := decide_eq_false h2
      rw [decide_eq_false (show ¬ (1 ≤ t ∧ t ≤ 9999) from fun h => h2 h.2)] at hr
      subst hr
      go_enter Tryz.func109, Tryz.ntmps109
      go_wp2
      go_ret
      exact ⟨rfl, rfl⟩
  · rw [decide_eq_false (show ¬ (1 ≤ t ∧ t ≤ 9999) from fun h => h1 h.1)] at hr
    subst hr
    go_enter Tryz.func109, Tryz.ntmps109
    go_wp2
    go_ret
    exact ⟨rfl, rfl⟩
/-- The three numbers of an element, and that nothing old has turned. -/
def ThreeR (w : World) (g o k : Nat) (n0 n1 n2 : Int) (x : World) : Prop := (x.cell? ⟨g, o + k * 3, none⟩ = some (.int .i64 n0) ∧ x.cell? ⟨g, o + k * 3 + 1, none⟩ = some (.int .i64 n1) ∧ x.cell? ⟨g, o + k * 3 + 2, none⟩ = some (.int .i64 n2)) ∧ Below w.heap.size w x
set_option maxRecDepth 100000 in
set_option maxHeartbeats 4000000 in
theorem l6Fault_any (v : Value) (B n : Nat) (F : Nat → Int) (w : World) (h : Row w B 3 n F v) (hn : n ≤ 9223372036854775807) :
    Calls Tryz.prog 101 #[v] w fun e w' => e = .returned (.int .i64 (rangesF n F)) ∧ Below w.heap.size w w' := by
  obtain ⟨ao, cp, rfl⟩ := h.form
  have H : Hid (Row w B 3 n F (.slice ao n cp)) := h
  clear h
  by_cases hs : n < 1 ∨ 6 < n
  · have E : Hid (rangesF n F = 2) := by unfold rangesF; rw [if_pos hs]; rfl
    rcases Nat.lt_or_ge n 1 with hs | hs
    · obtain rfl : n = 0 := by omega
      go_enter Tryz.func101, Tryz.ntmps101
      go_wp2
      go_ret
      exact ⟨by rw [E.out]; rfl, Below.refl _ _⟩
    · have hs6 : decide ((n : Int) > 6) = true := decide_eq_true (by omega)
      go_enter Tryz.func101, Tryz.ntmps101
      go_wp2
      go_ret
      exact ⟨by rw [E.out]; rfl, Below.refl _ _⟩
  have hs1 : 1 ≤ n := by omega
  have hs6 : n ≤ 6 := by omega
  clear hs hn
  obtain ⟨f, hf⟩ : ∃ f, rangesF n F = f := ⟨_, rfl⟩
  have HF : Hid (rFrom F n 0 0 = f) := by rw [rangesF, if_neg (by omega)] at hf; exact hf
  rw [hf]
  clear hf
  go_enter Tryz.func101, Tryz.ntmps101
  go_wp2
  go_loopw [3, 4] (fun a i wr => ∃ (k : Nat) (z : Int), k ≤ n ∧ a = .int .i64 z ∧ i = .int .i64 k ∧ Hid (rFrom F (n - k) k z = f) ∧ Below w.heap.size w wr) (fun _ i _ => n - (intOf i).toNat)
  case atStart => exact ⟨0, 0, Nat.zero_le _, rfl, rfl, HF, Below.refl _ _⟩
  case round =>
    obtain ⟨k, z, hk, rfl, rfl, HS, hbw⟩ := hrel
    by_cases hlt : k < n
    case neg =>
      have en : n - k = 0 := by omega
      have E := HS.out
      rw [en, rFrom] at E
      by_cases hz : z = 200
      · rw [if_pos hz] at E
        subst hz E
        clear HS HF
        go_wp2
        go_ret
        exact ⟨rfl, hbw⟩
      · rw [if_neg hz] at E
        subst E
        have hz' : (z == 200) = false := beq_eq_false_iff_ne.2 hz
        clear HS HF
        go_wp2
        go_ret
        exact ⟨rfl, hbw⟩
    obtain ⟨g, o, rfl, _, hg, x0, x1, x2⟩ := (H.out.later hbw).at3 hlt
    have hm : Hid (0 < n - k ∧ n - k - 1 = n - (k + 1)) := ⟨by omega, by omega⟩
    obtain ⟨n0, N0⟩ : ∃ x, F (k * 3) = x := ⟨_, rfl⟩
    rw [N0] at x0
    obtain ⟨n1, N1⟩ : ∃ x, F (k * 3 + 1) = x := ⟨_, rfl⟩
    rw [N1] at x1
    obtain ⟨n2, N2⟩ : ∃ x, F (k * 3 + 2) = x := ⟨_, rfl⟩
    rw [N2] at x2
    have NN : Hid (F (k * 3) = n0 ∧ F (k * 3 + 1) = n1 ∧ F (k * 3 + 2) = n2) := ⟨N0, N1, N2⟩
    clear N0 N1 N2
    by_cases h0 : 1 ≤ n2 ∧ n2 ≤ 9999
    case neg =>
      have L0 : Hid (decide (1 ≤ n2 ∧ n2 ≤ 9999) = false) := decide_eq_false h0
      have E := HS.out
      rw [rFrom_bad hm.out.1 (by rw [NN.out.2.2]; exact Or.inl h0)] at E
      subst E
      clear h0 HS NN HF
      have h0S : ThreeR w g o k n0 n1 n2 wr.drew := ⟨⟨x0, x1, x2⟩, hbw.drew⟩
      clear x0 x1 x2 hbw
      go_wp2_with fail
      refine wp_region_held_drew (S := ThreeR w g o k n0 n1 n2) (by kernel_rfl) h0S (fun hS => ?_)
      clear h0S
      refine tkH 0 ?_ hS (fun wx hx => ?_) ?_; rotate_left
      · obtain ⟨⟨hx0, hx1, hx2⟩, _⟩ := hx; go_simp; try with_reducible rfl
      refine tkH 1 ?_ hS (fun wx hx => ?_) ?_; rotate_left
      · obtain ⟨⟨hx0, hx1, hx2⟩, _⟩ := hx; go_simp; try with_reducible rfl
      refine tkH 2 ?_ hS (fun wx hx => ?_) ?_; rotate_left
      · obtain ⟨⟨hx0, hx1, hx2⟩, _⟩ := hx; go_simp; try with_reducible rfl
      refine tkH 3 ?_ hS (fun wx hx => ?_) ?_; rotate_left
      · obtain ⟨⟨hx0, hx1, hx2⟩, _⟩ := hx; go_simp; try with_reducible rfl
      refine tkH 4 ?_ hS (fun wx hx => ?_) ?_; rotate_left
      · obtain ⟨⟨hx0, hx1, hx2⟩, _⟩ := hx; go_simp; try with_reducible rfl
      refine rdH 5 (fun K hK => ?_)
      go_simp
      go_wp2_with fail
      refine (l6Epoch_is _ _ L0.out _).mono ?_
      rintro e w1 ⟨rfl, rfl⟩
      go_wp2_with fail
      refine hK.out _ _ hS (fun hS => ?_)
      clear hK K
      refine tkH 6 ?_ hS (fun wx hx => ?_) ?_; rotate_left
      · obtain ⟨⟨hx0, hx1, hx2⟩, _⟩ := hx; go_simp; try with_reducible rfl
      refine tkH 7 ?_ hS (fun wx hx => ?_) ?_; rotate_left
      · obtain ⟨⟨hx0, hx1, hx2⟩, _⟩ := hx; go_simp; try with_reducible rfl
      refine noH 8 hS ?_
      refine noH 9 hS ?_
      refine noH 10 hS ?_
      refine noH 11 hS ?_
      refine noH 12 hS ?_
      refine noH 13 hS ?_
      refine noH 14 hS ?_
      refine noH 15 hS ?_
      refine noH 16 hS ?_
      refine noH 17 hS ?_
      refine noH 18 hS ?_
      refine tkH 19 ?_ hS (fun wx hx => ?_) ?_; rotate_left
      · obtain ⟨⟨hx0, hx1, hx2⟩, _⟩ := hx; go_simp; try with_reducible rfl
      refine wpAnyH_done (by kernel_rfl) ?_ _
      obtain ⟨⟨x0, x1, x2⟩, hbw⟩ := hS
      go_simp
      go_wp2
      go_ret
      refine ⟨rfl, ?_⟩
      repeat (first | exact Below.refl _ _ | assumption | refine below_rn ?_ _ | refine Below.setCell ?_ (by first | omega | (simp <;> omega)) _ | refine Below.alloc ?_ (by first | omega | (simp <;> omega) | (have := hbw.size; simp <;> omega)) _)
    have L0 : Hid (decide (1 ≤ n2 ∧ n2 ≤ 9999) = true) := decide_eq_true h0
    by_cases h1 : n1 ≤ n0
    case pos =>
      have E := HS.out
      rw [rFrom_bad hm.out.1 (by rw [NN.out.1, NN.out.2.1]; exact Or.inr h1)] at E
      subst E
      have d1 : decide (n0 ≥ n1) = true := decide_eq_true h1
      clear h0 HS NN HF
      have h0S : ThreeR w g o k n0 n1 n2 wr.drew := ⟨⟨x0, x1, x2⟩, hbw.drew⟩
      clear x0 x1 x2 hbw
      go_wp2_with fail
      refine wp_region_held_drew (S := ThreeR w g o k n0 n1 n2) (by kernel_rfl) h0S (fun hS => ?_)
      clear h0S
      refine tkH 0 ?_ hS (fun wx hx => ?_) ?_; rotate_left
      · obtain ⟨⟨hx0, hx1, hx2⟩, _⟩ := hx; go_simp; try with_reducible rfl
      refine tkH 1 ?_ hS (fun wx hx => ?_) ?_; rotate_left
      · obtain ⟨⟨hx0, hx1, hx2⟩, _⟩ := hx; go_simp; try with_reducible rfl
      refine tkH 2 ?_ hS (fun wx hx => ?_) ?_; rotate_left
      · obtain ⟨⟨hx0, hx1, hx2⟩, _⟩ := hx; go_simp; try with_reducible rfl
      refine tkH 3 ?_ hS (fun wx hx => ?_) ?_; rotate_left
      · obtain ⟨⟨hx0, hx1, hx2⟩, _⟩ := hx; go_simp; try with_reducible rfl
      refine tkH 4 ?_ hS (fun wx hx => ?_) ?_; rotate_left
      · obtain ⟨⟨hx0, hx1, hx2⟩, _⟩ := hx; go_simp; try with_reducible rfl
      refine rdH 5 (fun K hK => ?_)
      go_simp
      go_wp2_with fail
      refine (l6Epoch_is _ _ L0.out _).mono ?_
      rintro e w1 ⟨rfl, rfl⟩
      go_wp2_with fail
      refine hK.out _ _ hS (fun hS => ?_)
      clear hK K
      refine tkH 6 ?_ hS (fun wx hx => ?_) ?_; rotate_left
      · obtain ⟨⟨hx0, hx1, hx2⟩, _⟩ := hx; go_simp; try with_reducible rfl
      refine tkH 7 ?_ hS (fun wx hx => ?_) ?_; rotate_left
      · obtain ⟨⟨hx0, hx1, hx2⟩, _⟩ := hx; go_simp; try with_reducible rfl
      refine tkH 8 ?_ hS (fun wx hx => ?_) ?_; rotate_left
      · obtain ⟨⟨hx0, hx1, hx2⟩, _⟩ := hx; go_simp; try with_reducible rfl
      refine tkH 9 ?_ hS (fun wx hx => ?_) ?_; rotate_left
      · obtain ⟨⟨hx0, hx1, hx2⟩, _⟩ := hx; go_simp; try with_reducible rfl
      refine tkH 10 ?_ hS (fun wx hx => ?_) ?_; rotate_left
      · obtain ⟨⟨hx0, hx1, hx2⟩, _⟩ := hx; go_simp; try with_reducible rfl
      refine tkH 11 ?_ hS (fun wx hx => ?_) ?_; rotate_left
      · obtain ⟨⟨hx0, hx1, hx2⟩, _⟩ := hx; go_simp; try with_reducible rfl
      refine tkH 12 ?_ hS (fun wx hx => ?_) ?_; rotate_left
      · obtain ⟨⟨hx0, hx1, hx2⟩, _⟩ := hx; go_simp; try with_reducible rfl
      refine tkH 13 ?_ hS (fun wx hx => ?_) ?_; rotate_left
      · obtain ⟨⟨hx0, hx1, hx2⟩, _⟩ := hx; go_simp; try with_reducible rfl
      refine tkH 14 ?_ hS (fun wx hx => ?_) ?_; rotate_left
      · obtain ⟨⟨hx0, hx1, hx2⟩, _⟩ := hx; go_simp; try with_reducible rfl
      refine tkH 15 ?_ hS (fun wx hx => ?_) ?_; rotate_left
      · obtain ⟨⟨hx0, hx1, hx2⟩, _⟩ := hx; go_simp; try with_reducible rfl
      refine tkH 16 ?_ hS (fun wx hx => ?_) ?_; rotate_left
      · obtain ⟨⟨hx0, hx1, hx2⟩, _⟩ := hx; go_simp; try with_reducible rfl
      refine tkH 17 ?_ hS (fun wx hx => ?_) ?_; rotate_left
      · obtain ⟨⟨hx0, hx1, hx2⟩, _⟩ := hx; go_simp; try with_reducible rfl
      refine tkH 18 ?_ hS (fun wx hx => ?_) ?_; rotate_left
      · obtain ⟨⟨hx0, hx1, hx2⟩, _⟩ := hx; go_simp; try with_reducible rfl
      refine tkH 19 ?_ hS (fun wx hx => ?_) ?_; rotate_left
      · obtain ⟨⟨hx0, hx1, hx2⟩, _⟩ := hx; go_simp; try with_reducible rfl
      refine wpAnyH_done (by kernel_rfl) ?_ _
      obtain ⟨⟨x0, x1, x2⟩, hbw⟩ := hS
      go_simp
      go_wp2
      go_ret
      refine ⟨rfl, ?_⟩
      repeat (first | exact Below.refl _ _ | assumption | refine below_rn ?_ _ | refine Below.setCell ?_ (by first | omega | (simp <;> omega)) _ | refine Below.alloc ?_ (by first | omega | (simp <;> omega) | (have := hbw.size; simp <;> omega)) _)
    have d1 : decide (n0 ≥ n1) = false := decide_eq_false h1
    have hok : Hid (¬ (¬ (1 ≤ F (k * 3 + 2) ∧ F (k * 3 + 2) ≤ 9999) ∨ F (k * 3 + 1) ≤ F (k * 3))) := by
      rw [NN.out.1, NN.out.2.1, NN.out.2.2]; unfold Hid; omega
    by_cases h2 : n0 = z
    case neg =>
      have E := HS.out
      rw [rFrom_off hm.out.1 hok.out (by rw [NN.out.1]; exact h2)] at E
      subst E
      have d2 : (n0 == z) = false := beq_eq_false_iff_ne.2 h2
      clear h0 h1 HS NN hok HF
      have h0S : ThreeR w g o k n0 n1 n2 wr.drew := ⟨⟨x0, x1, x2⟩, hbw.drew⟩
      clear x0 x1 x2 hbw
      go_wp2_with fail
      refine wp_region_held_drew (S := ThreeR w g o k n0 n1 n2) (by kernel_rfl) h0S (fun hS => ?_)
      clear h0S
      refine tkH 0 ?_ hS (fun wx hx => ?_) ?_; rotate_left
      · obtain ⟨⟨hx0, hx1, hx2⟩, _⟩ := hx; go_simp; try with_reducible rfl
      refine tkH 1 ?_ hS (fun wx hx => ?_) ?_; rotate_left
      · obtain ⟨⟨hx0, hx1, hx2⟩, _⟩ := hx; go_simp; try with_reducible rfl
      refine tkH 2 ?_ hS (fun wx hx => ?_) ?_; rotate_left
      · obtain ⟨⟨hx0, hx1, hx2⟩, _⟩ := hx; go_simp; try with_reducible rfl
      refine tkH 3 ?_ hS (fun wx hx => ?_) ?_; rotate_left
      · obtain ⟨⟨hx0, hx1, hx2⟩, _⟩ := hx; go_simp; try with_reducible rfl
      refine tkH 4 ?_ hS (fun wx hx => ?_) ?_; rotate_left
      · obtain ⟨⟨hx0, hx1, hx2⟩, _⟩ := hx; go_simp; try with_reducible rfl
      refine rdH 5 (fun K hK => ?_)
      go_simp
      go_wp2_with fail
      refine (l6Epoch_is _ _ L0.out _).mono ?_
      rintro e w1 ⟨rfl, rfl⟩
      go_wp2_with fail
      refine hK.out _ _ hS (fun hS => ?_)
      clear hK K
      refine tkH 6 ?_ hS (fun wx hx => ?_) ?_; rotate_left
      · obtain ⟨⟨hx0, hx1, hx2⟩, _⟩ := hx; go_simp; try with_reducible rfl
      refine tkH 7 ?_ hS (fun wx hx => ?_) ?_; rotate_left
      · obtain ⟨⟨hx0, hx1, hx2⟩, _⟩ := hx; go_simp; try with_reducible rfl
      refine tkH 8 ?_ hS (fun wx hx => ?_) ?_; rotate_left
      · obtain ⟨⟨hx0, hx1, hx2⟩, _⟩ := hx; go_simp; try with_reducible rfl
      refine tkH 9 ?_ hS (fun wx hx => ?_) ?_; rotate_left
      · obtain ⟨⟨hx0, hx1, hx2⟩, _⟩ := hx; go_simp; try with_reducible rfl
      refine tkH 10 ?_ hS (fun wx hx => ?_) ?_; rotate_left
      · obtain ⟨⟨hx0, hx1, hx2⟩, _⟩ := hx; go_simp; try with_reducible rfl
      refine tkH 11 ?_ hS (fun wx hx => ?_) ?_; rotate_left
      · obtain ⟨⟨hx0, hx1, hx2⟩, _⟩ := hx; go_simp; try with_reducible rfl
      refine tkH 12 ?_ hS (fun wx hx => ?_) ?_; rotate_left
      · obtain ⟨⟨hx0, hx1, hx2⟩, _⟩ := hx; go_simp; try with_reducible rfl
      refine tkH 13 ?_ hS (fun wx hx => ?_) ?_; rotate_left
      · obtain ⟨⟨hx0, hx1, hx2⟩, _⟩ := hx; go_simp; try with_reducible rfl
      refine tkH 14 ?_ hS (fun wx hx => ?_) ?_; rotate_left
      · obtain ⟨⟨hx0, hx1, hx2⟩, _⟩ := hx; go_simp; try with_reducible rfl
      refine tkH 15 ?_ hS (fun wx hx => ?_) ?_; rotate_left
      · obtain ⟨⟨hx0, hx1, hx2⟩, _⟩ := hx; go_simp; try with_reducible rfl
      refine tkH 16 ?_ hS (fun wx hx => ?_) ?_; rotate_left
      · obtain ⟨⟨hx0, hx1, hx2⟩, _⟩ := hx; go_simp; try with_reducible rfl
      refine tkH 17 ?_ hS (fun wx hx => ?_) ?_; rotate_left
      · obtain ⟨⟨hx0, hx1, hx2⟩, _⟩ := hx; go_simp; try with_reducible rfl
      refine tkH 18 ?_ hS (fun wx hx => ?_) ?_; rotate_left
      · obtain ⟨⟨hx0, hx1, hx2⟩, _⟩ := hx; go_simp; try with_reducible rfl
      refine tkH 19 ?_ hS (fun wx hx => ?_) ?_; rotate_left
      · obtain ⟨⟨hx0, hx1, hx2⟩, _⟩ := hx; go_simp; try with_reducible rfl
      refine wpAnyH_done (by kernel_rfl) ?_ _
      obtain ⟨⟨x0, x1, x2⟩, hbw⟩ := hS
      go_simp
      go_wp2
      go_ret
      refine ⟨rfl, ?_⟩
      repeat (first | exact Below.refl _ _ | assumption | refine below_rn ?_ _ | refine Below.setCell ?_ (by first | omega | (simp <;> omega)) _ | refine Below.alloc ?_ (by first | omega | (simp <;> omega) | (have := hbw.size; simp <;> omega)) _)
    subst h2
    have E : Hid (rFrom F (n - (k + 1)) (k + 1) n1 = f) := by
      have E := HS.out
      rw [rFrom_on hm.out.1 hok.out NN.out.1, NN.out.2.1, hm.out.2] at E
      exact E
    clear h0 h1 HS NN hok HF hm
    have h0S : ThreeR w g o k n0 n1 n2 wr.drew := ⟨⟨x0, x1, x2⟩, hbw.drew⟩
    clear x0 x1 x2 hbw
    go_wp2_with fail
    refine wp_region_held_drew (S := ThreeR w g o k n0 n1 n2) (by kernel_rfl) h0S (fun hS => ?_)
    clear h0S
    refine tkH 0 ?_ hS (fun wx hx => ?_) ?_; rotate_left
    · obtain ⟨⟨hx0, hx1, hx2⟩, _⟩ := hx; go_simp; try with_reducible rfl
    refine tkH 1 ?_ hS (fun wx hx => ?_) ?_; rotate_left
    · obtain ⟨⟨hx0, hx1, hx2⟩, _⟩ := hx; go_simp; try with_reducible rfl
    refine tkH 2 ?_ hS (fun wx hx => ?_) ?_; rotate_left
    · obtain ⟨⟨hx0, hx1, hx2⟩, _⟩ := hx; go_simp; try with_reducible rfl
    refine tkH 3 ?_ hS (fun wx hx => ?_) ?_; rotate_left
    · obtain ⟨⟨hx0, hx1, hx2⟩, _⟩ := hx; go_simp; try with_reducible rfl
    refine tkH 4 ?_ hS (fun wx hx => ?_) ?_; rotate_left
    · obtain ⟨⟨hx0, hx1, hx2⟩, _⟩ := hx; go_simp; try with_reducible rfl
    refine rdH 5 (fun K hK => ?_)
    go_simp
    go_wp2_with fail
    refine (l6Epoch_is _ _ L0.out _).mono ?_
    rintro e w1 ⟨rfl, rfl⟩
    go_wp2_with fail
    refine hK.out _ _ hS (fun hS => ?_)
    clear hK K
    refine tkH 6 ?_ hS (fun wx hx => ?_) ?_; rotate_left
    · obtain ⟨⟨hx0, hx1, hx2⟩, _⟩ := hx; go_simp; try with_reducible rfl
    refine tkH 7 ?_ hS (fun wx hx => ?_) ?_; rotate_left
    · obtain ⟨⟨hx0, hx1, hx2⟩, _⟩ := hx; go_simp; try with_reducible rfl
    refine tkH 8 ?_ hS (fun wx hx => ?_) ?_; rotate_left
    · obtain ⟨⟨hx0, hx1, hx2⟩, _⟩ := hx; go_simp; try with_reducible rfl
    refine tkH 9 ?_ hS (fun wx hx => ?_) ?_; rotate_left
    · obtain ⟨⟨hx0, hx1, hx2⟩, _⟩ := hx; go_simp; try with_reducible rfl
    refine tkH 10 ?_ hS (fun wx hx => ?_) ?_; rotate_left
    · obtain ⟨⟨hx0, hx1, hx2⟩, _⟩ := hx; go_simp; try with_reducible rfl
    refine tkH 11 ?_ hS (fun wx hx => ?_) ?_; rotate_left
    · obtain ⟨⟨hx0, hx1, hx2⟩, _⟩ := hx; go_simp; try with_reducible rfl
    refine tkH 12 ?_ hS (fun wx hx => ?_) ?_; rotate_left
    · obtain ⟨⟨hx0, hx1, hx2⟩, _⟩ := hx; go_simp; try with_reducible rfl
    refine tkH 13 ?_ hS (fun wx hx => ?_) ?_; rotate_left
    · obtain ⟨⟨hx0, hx1, hx2⟩, _⟩ := hx; go_simp; try with_reducible rfl
    refine tkH 14 ?_ hS (fun wx hx => ?_) ?_; rotate_left
    · obtain ⟨⟨hx0, hx1, hx2⟩, _⟩ := hx; go_simp; try with_reducible rfl
    refine tkH 15 ?_ hS (fun wx hx => ?_) ?_; rotate_left
    · obtain ⟨⟨hx0, hx1, hx2⟩, _⟩ := hx; go_simp; try with_reducible rfl
    refine tkH 16 ?_ hS (fun wx hx => ?_) ?_; rotate_left
    · obtain ⟨⟨hx0, hx1, hx2⟩, _⟩ := hx; go_simp; try with_reducible rfl
    refine tkH 17 ?_ hS (fun wx hx => ?_) ?_; rotate_left
    · obtain ⟨⟨hx0, hx1, hx2⟩, _⟩ := hx; go_simp; try with_reducible rfl
    refine tkH 18 ?_ hS (fun wx hx => ?_) ?_; rotate_left
    · obtain ⟨⟨hx0, hx1, hx2⟩, _⟩ := hx; go_simp; try with_reducible rfl
    refine tkH 19 ?_ hS (fun wx hx => ?_) ?_; rotate_left
    · obtain ⟨⟨hx0, hx1, hx2⟩, _⟩ := hx; go_simp; try with_reducible rfl
    refine wpAnyH_done (by kernel_rfl) ?_ _
    obtain ⟨⟨x0, x1, x2⟩, hbw⟩ := hS
    go_simp
    go_wp2
    go_roundw
    case rel => 
      refine ⟨k + 1, n1, by omega, rfl, by go_num, E, ?_⟩
      repeat (first | exact Below.refl _ _ | assumption | refine below_rn ?_ _ | refine Below.setCell ?_ (by first | omega | (simp <;> omega)) _ | refine Below.alloc ?_ (by first | omega | (simp <;> omega) | (have := hbw.size; simp <;> omega)) _)
    case measure => simp [intOf]; omega
set_option maxRecDepth 100000 in
set_option maxHeartbeats 4000000 in
theorem implRanges_any (v : Value) (B n : Nat) (F : Nat → Int) (w : World) (h : Row w B 3 n F v) (hn : n ≤ 9223372036854775807) :
    Calls Tryz.prog 76 #[v] w fun e w' => e = .returned (.int .i64 (rangesF n F)) ∧ Below w.heap.size w w' := by
  obtain ⟨ao, cp, rfl⟩ := h.form
  have H : Hid (Row w B 3 n F (.slice ao n cp)) := h
  clear h
  by_cases hs : n < 1 ∨ 6 < n
  · have E : Hid (rangesF n F = 2) := by unfold rangesF; rw [if_pos hs]; rfl
    rcases Nat.lt_or_ge n 1 with hs | hs
    · obtain rfl : n = 0 := by omega
      go_enter Tryz.func76, Tryz.ntmps76
      go_wp2
      go_ret
      exact ⟨by rw [E.out]; rfl, Below.refl _ _⟩
    · have hs6 : decide ((n : Int) > 6) = true := decide_eq_true (by omega)
      go_enter Tryz.func76, Tryz.ntmps76
      go_wp2
      go_ret
      exact ⟨by rw [E.out]; rfl, Below.refl _ _⟩
  have hs1 : 1 ≤ n := by omega
  have hs6 : n ≤ 6 := by omega
  clear hs hn
  obtain ⟨f, hf⟩ : ∃ f, rangesF n F = f := ⟨_, rfl⟩
  have HF : Hid (rFrom F n 0 0 = f) := by rw [rangesF, if_neg (by omega)] at hf; exact hf
  rw [hf]
  clear hf
  go_enter Tryz.func76, Tryz.ntmps76
  go_wp2
  go_loopw [3, 16] (fun a i wr => ∃ (k : Nat) (z : Int), k ≤ n ∧ a = .int .i64 z ∧ i = .int .i64 k ∧ Hid (rFrom F (n - k) k z = f) ∧ Below w.heap.size w wr) (fun _ i _ => n - (intOf i).toNat)
  case atStart => exact ⟨0, 0, Nat.zero_le _, rfl, rfl, HF, Below.refl _ _⟩
  case round =>
    obtain ⟨k, z, hk, rfl, rfl, HS, hbw⟩ := hrel
    by_cases hlt : k < n
    case neg =>
      have en : n - k = 0 := by omega
      have E := HS.out
      rw [en, rFrom] at E
      by_cases hz : z = 200
      · rw [if_pos hz] at E
        subst hz E
        clear HS HF
        go_wp2
        go_ret
        exact ⟨rfl, hbw⟩
      · rw [if_neg hz] at E
        subst E
        have hz' : (z == 200) = false := beq_eq_false_iff_ne.2 hz
        clear HS HF
        go_wp2
        go_ret
        exact ⟨rfl, hbw⟩
    obtain ⟨g, o, rfl, _, hg, x0, x1, x2⟩ := (H.out.later hbw).at3 hlt
    have hm : Hid (0 < n - k ∧ n - k - 1 = n - (k + 1)) := ⟨by omega, by omega⟩
    obtain ⟨n0, N0⟩ : ∃ x, F (k * 3) = x := ⟨_, rfl⟩
    rw [N0] at x0
    obtain ⟨n1, N1⟩ : ∃ x, F (k * 3 + 1) = x := ⟨_, rfl⟩
    rw [N1] at x1
    obtain ⟨n2, N2⟩ : ∃ x, F (k * 3 + 2) = x := ⟨_, rfl⟩
    rw [N2] at x2
    have NN : Hid (F (k * 3) = n0 ∧ F (k * 3 + 1) = n1 ∧ F (k * 3 + 2) = n2) := ⟨N0, N1, N2⟩
    clear N0 N1 N2
    by_cases h0 : 1 ≤ n2 ∧ n2 ≤ 9999
    case neg =>
      have L0 : Hid (decide (1 ≤ n2 ∧ n2 ≤ 9999) = false) := decide_eq_false h0
      have E := HS.out
      rw [rFrom_bad hm.out.1 (by rw [NN.out.2.2]; exact Or.inl h0)] at E
      subst E
      clear h0 HS NN HF
      go_wp2_with fail
      refine (isEpoch_is _ _ L0.out _).mono ?_
      rintro e w1 ⟨rfl, rfl⟩
      go_wp2
      go_ret
      refine ⟨rfl, ?_⟩
      repeat (first | exact Below.refl _ _ | assumption | refine below_rn ?_ _ | refine Below.setCell ?_ (by first | omega | (simp <;> omega)) _ | refine Below.alloc ?_ (by first | omega | (simp <;> omega) | (have := hbw.size; simp <;> omega)) _)
    have L0 : Hid (decide (1 ≤ n2 ∧ n2 ≤ 9999) = true) := decide_eq_true h0
    by_cases h1 : n1 ≤ n0
    case pos =>
      have E := HS.out
      rw [rFrom_bad hm.out.1 (by rw [NN.out.1, NN.out.2.1]; exact Or.inr h1)] at E
      subst E
      have d1 : decide (n0 ≥ n1) = true := decide_eq_true h1
      clear h0 HS NN HF
      go_wp2_with fail
      refine (isEpoch_is _ _ L0.out _).mono ?_
      rintro e w1 ⟨rfl, rfl⟩
      go_wp2
      go_ret
      refine ⟨rfl, ?_⟩
      repeat (first | exact Below.refl _ _ | assumption | refine below_rn ?_ _ | refine Below.setCell ?_ (by first | omega | (simp <;> omega)) _ | refine Below.alloc ?_ (by first | omega | (simp <;> omega) | (have := hbw.size; simp <;> omega)) _)
    have d1 : decide (n0 ≥ n1) = false := decide_eq_false h1
    have hok : Hid (¬ (¬ (1 ≤ F (k * 3 + 2) ∧ F (k * 3 + 2) ≤ 9999) ∨ F (k * 3 + 1) ≤ F (k * 3))) := by
      rw [NN.out.1, NN.out.2.1, NN.out.2.2]; unfold Hid; omega
    by_cases h2 : n0 = z
    case neg =>
      have E := HS.out
      rw [rFrom_off hm.out.1 hok.out (by rw [NN.out.1]; exact h2)] at E
      subst E
      have d2 : (n0 == z) = false := beq_eq_false_iff_ne.2 h2
      clear h0 h1 HS NN hok HF
      go_wp2_with fail
      refine (isEpoch_is _ _ L0.out _).mono ?_
      rintro e w1 ⟨rfl, rfl⟩
      go_wp2
      go_ret
      refine ⟨rfl, ?_⟩
      repeat (first | exact Below.refl _ _ | assumption | refine below_rn ?_ _ | refine Below.setCell ?_ (by first | omega | (simp <;> omega)) _ | refine Below.alloc ?_ (by first | omega | (simp <;> omega) | (have := hbw.size; simp <;> omega)) _)
    subst h2
    have E : Hid (rFrom F (n - (k + 1)) (k + 1) n1 = f) := by
      have E := HS.out
      rw [rFrom_on hm.out.1 hok.out NN.out.1, NN.out.2.1, hm.out.2] at E
      exact E
    clear h0 h1 HS NN hok HF hm
    go_wp2_with fail
    refine (isEpoch_is _ _ L0.out _).mono ?_
    rintro e w1 ⟨rfl, rfl⟩
    go_wp2
    go_roundw
    case rel => 
      refine ⟨k + 1, n1, by omega, rfl, by go_num, E, ?_⟩
      repeat (first | exact Below.refl _ _ | assumption | refine below_rn ?_ _ | refine Below.setCell ?_ (by first | omega | (simp <;> omega)) _ | refine Below.alloc ?_ (by first | omega | (simp <;> omega) | (have := hbw.size; simp <;> omega)) _)
    case measure => simp [intOf]; omega
end

section
open Go.RowKit
/-- Ranges without a fault. -/
structure Good (n : Nat) (F : Nat → Int) : Prop where
  n1 : 1 ≤ n
  n6 : n ≤ 6
  ep : ∀ i, i < n → 1 ≤ F (i * 3 + 2) ∧ F (i * 3 + 2) ≤ 9999
  lt : ∀ i, i < n → F (i * 3) < F (i * 3 + 1)
  first : F 0 = 0
  next : ∀ i, i + 1 < n → F ((i + 1) * 3) = F (i * 3 + 1)
  last : F ((n - 1) * 3 + 1) = 200
theorem rFrom_zero {F : Nat → Int} : ∀ (m k : Nat) (a : Int), rFrom F m k a = 0 → (∀ i, i < m → (1 ≤ F ((k + i) * 3 + 2) ∧ F ((k + i) * 3 + 2) ≤ 9999) ∧ F ((k + i) * 3) < F ((k + i) * 3 + 1)) ∧ (0 < m → F (k * 3) = a) ∧ (∀ i, i + 1 < m → F ((k + i + 1) * 3) = F ((k + i) * 3 + 1)) ∧ (m = 0 → a = 200) ∧ (0 < m → F ((k + m - 1) * 3 + 1) = 200) := by
  intro m
  induction m with
  | zero =>
    intro k a h
    rw [rFrom] at h
    refine ⟨fun i hi => absurd hi (Nat.not_lt_zero _), fun h0 => absurd h0 (Nat.lt_irrefl _), fun i hi => absurd hi (Nat.not_lt_zero _), fun _ => ?_, fun h0 => absurd h0 (Nat.lt_irrefl _)⟩
    split at h
    · assumption
    · omega
  | succ m ih =>
    intro k a h
    rw [rFrom] at h
    split at h
    · omega
    rename_i h1
    split at h
    · omega
    rename_i h2
    obtain ⟨i1, i2, i3, i4, i5⟩ := ih (k + 1) _ h
    have h1' : (1 ≤ F (k * 3 + 2) ∧ F (k * 3 + 2) ≤ 9999) ∧ F (k * 3) < F (k * 3 + 1) := by omega
    refine ⟨fun i hi => ?_, fun _ => by omega, fun i hi => ?_, fun h0 => by omega, fun _ => ?_⟩
    · cases i with
      | zero => exact h1'
      | succ i => have := i1 i (by omega); rwa [show k + 1 + i = k + (i + 1) by omega] at this
    · cases i with
      | zero => exact i2 (by omega)
      | succ i => have := i3 i (by omega); rwa [show k + 1 + i = k + (i + 1) by omega] at this
    · cases m with
      | zero => exact i4 rfl
      | succ m => have := i5 (by omega); rwa [show k + 1 + (m + 1) - 1 = k + (m + 1 + 1) - 1 by omega] at this
theorem rFrom_good {F : Nat → Int} : ∀ (m k : Nat) (a : Int), (∀ i, i < m → (1 ≤ F ((k + i) * 3 + 2) ∧ F ((k + i) * 3 + 2) ≤ 9999) ∧ F ((k + i) * 3) < F ((k + i) * 3 + 1)) → (0 < m → F (k * 3) = a) → (∀ i, i + 1 < m → F ((k + i + 1) * 3) = F ((k + i) * 3 + 1)) → (m = 0 → a = 200) → (0 < m → F ((k + m - 1) * 3 + 1) = 200) → rFrom F m k a = 0 := by
  intro m
  induction m with
  | zero =>
    intro k a _ _ _ h4 _
    rw [rFrom, if_pos (h4 rfl)]
  | succ m ih =>
    intro k a h1 h2 h3 h4 h5
    have h10 : (1 ≤ F (k * 3 + 2) ∧ F (k * 3 + 2) ≤ 9999) ∧ F (k * 3) < F (k * 3 + 1) := h1 0 (by omega)
    have h20 := h2 (by omega)
    rw [rFrom, if_neg (by omega), if_neg (by omega)]
    refine ih (k + 1) _ (fun i hi => ?_) (fun hm => ?_) (fun i hi => ?_) (fun hm => ?_) (fun hm => ?_)
    · have := h1 (i + 1) (by omega); rwa [show k + (i + 1) = k + 1 + i by omega] at this
    · exact h3 0 (by omega)
    · have := h3 (i + 1) (by omega); rwa [show k + (i + 1) = k + 1 + i by omega] at this
    · subst hm; exact h5 (by omega)
    · have := h5 (by omega); rwa [show k + (m + 1) - 1 = k + 1 + m - 1 by omega] at this
theorem good_of {n : Nat} {F : Nat → Int} (h : rangesF n F = 0) : Good n F := by
  unfold rangesF at h
  split at h
  · omega
  obtain ⟨i1, i2, i3, i4, i5⟩ := rFrom_zero n 0 0 h
  refine ⟨by omega, by omega, fun i hi => ?_, fun i hi => ?_, by simpa using i2 (by omega), fun i hi => ?_, ?_⟩
  · simpa using (i1 i hi).1
  · simpa using (i1 i hi).2
  · simpa using i3 i hi
  · simpa using i5 (by omega)
theorem Good.zero {n : Nat} {F : Nat → Int} (h : Good n F) : rangesF n F = 0 := by
  have := h.n1; have := h.n6
  unfold rangesF
  rw [if_neg (by omega)]
  refine rFrom_good n 0 0 (fun i hi => ?_) (fun _ => by simpa using h.first) (fun i hi => ?_) (fun h0 => by omega) (fun _ => ?_)
  · simpa using ⟨h.ep i hi, h.lt i hi⟩
  · simpa using h.next i hi
  · simpa using h.last
/-- The first range that ends behind the key. -/
def AtR (n : Nat) (F : Nat → Int) (key : Int) (j : Nat) : Prop := j < n ∧ key < F (j * 3 + 1) ∧ ∀ i, i < j → F (i * 3 + 1) ≤ key
theorem atR_ex {F : Nat → Int} {key : Int} : ∀ m : Nat, (∃ j, j < m ∧ key < F (j * 3 + 1)) → ∃ j, AtR m F key j := by
  intro m
  induction m with
  | zero => rintro ⟨j, hj, _⟩; exact absurd hj (Nat.not_lt_zero _)
  | succ m ih =>
    rintro ⟨j, hj, hk⟩
    by_cases hm : ∃ j, j < m ∧ key < F (j * 3 + 1)
    · obtain ⟨i, h1, h2, h3⟩ := ih hm
      exact ⟨i, by omega, h2, h3⟩
    · refine ⟨m, by omega, ?_, fun i hi => Int.not_lt.1 (fun q => hm ⟨i, hi, q⟩)⟩
      rcases Nat.lt_or_ge j m with q | q
      · exact absurd ⟨j, q, hk⟩ hm
      · obtain rfl : j = m := by omega
        exact hk
theorem Good.at {n : Nat} {F : Nat → Int} (h : Good n F) {key : Int} (hk : key ≤ 199) : ∃ j, AtR n F key j :=
  atR_ex n ⟨n - 1, by have := h.n1; omega, by rw [h.last]; omega⟩
end
end Go.Proofs.YtpfmifpjmcmlaaaGreat

namespace Go.Proofs.YtpfmifpjmcmlaaaGreat
open Go.RowKit

theorem isTime_is (v : Int) (r : Bool) (hr : decide (1 ≤ v ∧ v ≤ 100000) = r) (w : World) :
    Calls Tryz.prog 75 #[.int .i64 v] w fun e w' => e = .returned (.bool r) ∧ w' = w := by
  by_cases h1 : 1 ≤ v
  · by_cases h2 : v ≤ 100000
    · have d : decide (v ≤ 100000) = true := decide_eq_true h2
      rw [decide_eq_true (show 1 ≤ v ∧ v ≤ 100000 from ⟨h1, h2⟩)] at hr
      subst hr
      go_enter Tryz.func75, Tryz.ntmps75
      go_wp2
      go_ret
      exact ⟨rfl, rfl⟩
    · have d : decide (v ≤ 100000) = false := decide_eq_false h2
      rw [decide_eq_false (show ¬ (1 ≤ v ∧ v ≤ 100000) from fun h => h2 h.2)] at hr
      subst hr
      go_enter Tryz.func75, Tryz.ntmps75
      go_wp2
      go_ret
      exact ⟨rfl, rfl⟩
  · have d : decide (1 ≤ v) = false := decide_eq_false h1
    rw [decide_eq_false (show ¬ (1 ≤ v ∧ v ≤ 100000) from fun h => h1 h.1)] at hr
    subst hr
    go_enter Tryz.func75, Tryz.ntmps75
    go_wp2
    go_ret
    exact ⟨rfl, rfl⟩
theorem isValue_is (v : Int) (r : Bool) (hr : decide (0 ≤ v ∧ v ≤ 9999) = r) (w : World) :
    Calls Tryz.prog 152 #[.int .i64 v] w fun e w' => e = .returned (.bool r) ∧ w' = w := by
  by_cases h1 : 0 ≤ v
  · by_cases h2 : v ≤ 9999
    · have d : decide (v ≤ 9999) = true := decide_eq_true h2
      rw [decide_eq_true (show 0 ≤ v ∧ v ≤ 9999 from ⟨h1, h2⟩)] at hr
      subst hr
      go_enter Tryz.func152, Tryz.ntmps152
      go_wp2
      go_ret
      exact ⟨rfl, rfl⟩
    · have d : decide (v ≤ 9999) = false := decide_eq_false h2
      rw [decide_eq_false (show ¬ (0 ≤ v ∧ v ≤ 9999) from fun h => h2 h.2)] at hr
      subst hr
      go_enter Tryz.func152, Tryz.ntmps152
      go_wp2
      go_ret
      exact ⟨rfl, rfl⟩
  · have d : decide (0 ≤ v) = false := decide_eq_false h1
    rw [decide_eq_false (show ¬ (0 ≤ v ∧ v ≤ 9999) from fun h => h1 h.1)] at hr
    subst hr
    go_enter Tryz.func152, Tryz.ntmps152
    go_wp2
    go_ret
    exact ⟨rfl, rfl⟩
theorem isUntil_is (v : Int) (r : Bool) (hr : decide (0 ≤ v ∧ v ≤ 100000) = r) (w : World) :
    Calls Tryz.prog 74 #[.int .i64 v] w fun e w' => e = .returned (.bool r) ∧ w' = w := by
  by_cases h1 : 0 ≤ v
  · by_cases h2 : v ≤ 100000
    · have d : decide (v ≤ 100000) = true := decide_eq_true h2
      rw [decide_eq_true (show 0 ≤ v ∧ v ≤ 100000 from ⟨h1, h2⟩)] at hr
      subst hr
      go_enter Tryz.func74, Tryz.ntmps74
      go_wp2
      go_ret
      exact ⟨rfl, rfl⟩
    · have d : decide (v ≤ 100000) = false := decide_eq_false h2
      rw [decide_eq_false (show ¬ (0 ≤ v ∧ v ≤ 100000) from fun h => h2 h.2)] at hr
      subst hr
      go_enter Tryz.func74, Tryz.ntmps74
      go_wp2
      go_ret
      exact ⟨rfl, rfl⟩
  · have d : decide (0 ≤ v) = false := decide_eq_false h1
    rw [decide_eq_false (show ¬ (0 ≤ v ∧ v ≤ 100000) from fun h => h1 h.1)] at hr
    subst hr
    go_enter Tryz.func74, Tryz.ntmps74
    go_wp2
    go_ret
    exact ⟨rfl, rfl⟩
theorem isLockKind_is (v : Int) (r : Bool) (hr : decide (1 ≤ v ∧ v ≤ 3) = r) (w : World) :
    Calls Tryz.prog 154 #[.int .i64 v] w fun e w' => e = .returned (.bool r) ∧ w' = w := by
  by_cases h1 : 1 ≤ v
  · by_cases h2 : v ≤ 3
    · have d : decide (v ≤ 3) = true := decide_eq_true h2
      rw [decide_eq_true (show 1 ≤ v ∧ v ≤ 3 from ⟨h1, h2⟩)] at hr
      subst hr
      go_enter Tryz.func154, Tryz.ntmps154
      go_wp2
      go_ret
      exact ⟨rfl, rfl⟩
    · have d : decide (v ≤ 3) = false := decide_eq_false h2
      rw [decide_eq_false (show ¬ (1 ≤ v ∧ v ≤ 3) from fun h => h2 h.2)] at hr
      subst hr
      go_enter Tryz.func154, Tryz.ntmps154
      go_wp2
      go_ret
      exact ⟨rfl, rfl⟩
  · have d : decide (1 ≤ v) = false := decide_eq_false h1
    rw [decide_eq_false (show ¬ (1 ≤ v ∧ v ≤ 3) from fun h => h1 h.1)] at hr
    subst hr
    go_enter Tryz.func154, Tryz.ntmps154
    go_wp2
    go_ret
    exact ⟨rfl, rfl⟩

/-- How two numbers stand to each other: -1, 0 or 1. -/
def cmpOf (a b : Int) : Int := if a < b then -1 else if b < a then 1 else 0
theorem compare_is (a b r : Int) (hr : cmpOf a b = r) (w : World) :
    Calls Tryz.prog 183 #[.int .i64 a, .int .i64 b] w fun e w' => e = .returned (.int .i64 r) ∧ w' = w := by
  unfold cmpOf at hr
  by_cases h1 : a < b
  · rw [if_pos h1] at hr
    subst hr
    go_enter Tryz.func183, Tryz.ntmps183
    go_wp2
    go_ret
    exact ⟨rfl, rfl⟩
  · rw [if_neg h1] at hr
    have d1 : decide (a < b) = false := decide_eq_false h1
    by_cases h2 : b < a
    · rw [if_pos h2] at hr
      subst hr
      clear h1
      go_enter Tryz.func183, Tryz.ntmps183
      go_wp2
      go_ret
      exact ⟨rfl, rfl⟩
    · rw [if_neg h2] at hr
      subst hr
      have d2 : decide (b < a) = false := decide_eq_false h2
      clear h1 h2
      go_enter Tryz.func183, Tryz.ntmps183
      go_wp2
      go_ret
      exact ⟨rfl, rfl⟩
/-- The first of two numbers that is not 0. -/
def orOf (a b : Int) : Int := if a = 0 then b else a
set_option maxHeartbeats 1000000 in
theorem or_is (a b r : Int) (g : Nat) (hr : orOf a b = r) (w : World) (h0 : w.cell? ⟨g, 0, none⟩ = some (.int .i64 a)) (h1 : w.cell? ⟨g, 1, none⟩ = some (.int .i64 b)) :
    Calls Tryz.prog 182 #[.slice (some ⟨g, 0, none⟩) 2 2] w fun e w' => e = .returned (.int .i64 r) ∧ w' = w := by
  unfold orOf at hr
  by_cases ha : a = 0
  · rw [if_pos ha] at hr
    subst hr ha
    go_enter Tryz.func182, Tryz.ntmps182
    go_wp2
    go_loop [8] (fun i => i = .int .i64 0 ∨ i = .int .i64 1 ∨ (i = .int .i64 2 ∧ b = 0)) (fun i => 2 - (intOf i).toNat)
    case atStart => exact Or.inl rfl
    case round =>
      rcases hrel with rfl | rfl | ⟨rfl, rfl⟩
      · go_wp2
        go_round
        case rel => exact Or.inr (Or.inl rfl)
        case measure => simp [intOf]
      · by_cases hb : b = 0
        · subst hb
          go_wp2
          go_round
          case rel => exact Or.inr (Or.inr ⟨rfl, by simp⟩)
          case measure => simp [intOf]
        · have d : (b == 0) = false := beq_eq_false_iff_ne.2 hb
          clear hb
          go_wp2
          go_ret
          exact ⟨rfl, rfl⟩
      · go_wp2
        go_ret
        exact ⟨rfl, rfl⟩
  · rw [if_neg ha] at hr
    subst hr
    have d : (a == 0) = false := beq_eq_false_iff_ne.2 ha
    clear ha
    go_enter Tryz.func182, Tryz.ntmps182
    go_wp2
    go_loop [8] (fun i => i = .int .i64 0) (fun i => 2 - (intOf i).toNat)
    case atStart => rfl
    case round =>
      subst hrel
      go_wp2
      go_ret
      exact ⟨rfl, rfl⟩

/-- Four cells of two boxes, and that nothing old has turned. -/
def Four (w : World) (a0 a1 b0 b1 : Int) (x : World) : Prop := x.cell? ⟨w.heap.size, 0, none⟩ = some (.int .i64 a0) ∧ x.cell? ⟨w.heap.size, 1, none⟩ = some (.int .i64 a1) ∧ x.cell? ⟨w.heap.size + 1, 0, none⟩ = some (.int .i64 b0) ∧ x.cell? ⟨w.heap.size + 1, 1, none⟩ = some (.int .i64 b1) ∧ Below w.heap.size w x
theorem Four.later {w x x' : World} {a0 a1 b0 b1 : Int} (h : Four w a0 a1 b0 b1 x) (hb : Below x.heap.size x x') : Four w a0 a1 b0 b1 x' := by
  obtain ⟨h0, h1, h2, h3, h4⟩ := h
  exact ⟨(hb.cell (World.block_lt_of_cell? x _ h0)).trans h0, (hb.cell (World.block_lt_of_cell? x _ h1)).trans h1, (hb.cell (World.block_lt_of_cell? x _ h2)).trans h2, (hb.cell (World.block_lt_of_cell? x _ h3)).trans h3, h4.trans (hb.mono h4.size)⟩

theorem below_alloc_drew (X : World) (o : Obj) : Below X.drew.heap.size X.drew (X.alloc o).drew := ⟨rfl, rfl, rfl, (below_alloc X o).size, (below_alloc X o).block⟩
theorem two_cells (X : World) (n : Nat) (hn : X.heap.size = n) (a b : Value) (t : TypeId) : (X.alloc (.cells #[a, b] t)).drew.cell? ⟨n, 0, none⟩ = some a ∧ (X.alloc (.cells #[a, b] t)).drew.cell? ⟨n, 1, none⟩ = some b := by
  subst hn
  exact ⟨World.cell?_alloc_mark X _ _ _ 0, World.cell?_alloc_mark X _ _ _ 1⟩
set_option maxRecDepth 100000 in
set_option maxHeartbeats 1000000 in
theorem compareCells_is (x0 x1 x2 y0 y1 y2 : Int) (r : Int) (hr : orOf (cmpOf x0 y0) (cmpOf x1 y1) = r) (w : World) :
    Calls Tryz.prog 153 #[.agg #[.int .i64 x0, .int .i64 x1, .int .i64 x2], .agg #[.int .i64 y0, .int .i64 y1, .int .i64 y2]] w fun e w' => e = .returned (.int .i64 r) ∧ Below w.heap.size w w' := by
  obtain ⟨c0, C0⟩ : ∃ c, Hid (cmpOf x0 y0 = c) := ⟨_, rfl⟩
  obtain ⟨c1, C1⟩ : ∃ c, Hid (cmpOf x1 y1 = c) := ⟨_, rfl⟩
  have HR : Hid (orOf c0 c1 = r) := by unfold Hid; rw [← C0.out, ← C1.out]; exact hr
  clear hr
  go_enter Tryz.func153, Tryz.ntmps153
  go_wp2_with fail
  have h0 : Four w x0 x1 y0 y1 (((w.alloc (.cells #[.int .i64 x0, .int .i64 x1, .int .i64 x2] 173)).alloc (.cells #[.int .i64 y0, .int .i64 y1, .int .i64 y2] 173)).drew) := ⟨by simp, by simp, by simp, by simp, ((below_alloc _ _).alloc (by simp) _).drew⟩
  refine wp_region_held_drew (S := Four w x0 x1 y0 y1) (by kernel_rfl) h0 (fun hS => ?_)
  clear h0
  refine tkH 0 ?_ hS (fun wx hx => ?_) ?_; rotate_left
  · obtain ⟨hx0, hx1, hx2, hx3, _⟩ := hx; go_simp; try with_reducible rfl
  refine tkH 1 ?_ hS (fun wx hx => ?_) ?_; rotate_left
  · obtain ⟨hx0, hx1, hx2, hx3, _⟩ := hx; go_simp; try with_reducible rfl
  refine tkH 2 ?_ hS (fun wx hx => ?_) ?_; rotate_left
  · obtain ⟨hx0, hx1, hx2, hx3, _⟩ := hx; go_simp; try with_reducible rfl
  refine tkH 3 ?_ hS (fun wx hx => ?_) ?_; rotate_left
  · obtain ⟨hx0, hx1, hx2, hx3, _⟩ := hx; go_simp; try with_reducible rfl
  refine tkH 5 ?_ hS (fun wx hx => ?_) ?_; rotate_left
  · obtain ⟨hx0, hx1, hx2, hx3, _⟩ := hx; go_simp; try with_reducible rfl
  refine tkH 6 ?_ hS (fun wx hx => ?_) ?_; rotate_left
  · obtain ⟨hx0, hx1, hx2, hx3, _⟩ := hx; go_simp; try with_reducible rfl
  refine tkH 7 ?_ hS (fun wx hx => ?_) ?_; rotate_left
  · obtain ⟨hx0, hx1, hx2, hx3, _⟩ := hx; go_simp; try with_reducible rfl
  refine tkH 8 ?_ hS (fun wx hx => ?_) ?_; rotate_left
  · obtain ⟨hx0, hx1, hx2, hx3, _⟩ := hx; go_simp; try with_reducible rfl
  refine rdH 4 (fun K hK => ?_)
  go_simp
  go_wp2_with fail
  refine (compare_is _ _ c0 C0.out _).mono ?_
  rintro e w1 ⟨rfl, rfl⟩
  have hS' := hS
  go_wp2_with fail
  refine hK.out _ _ hS' (fun hS => ?_)
  clear hK K hS'
  refine rdH 9 (fun K hK => ?_)
  go_simp
  go_wp2_with fail
  refine (compare_is _ _ c1 C1.out _).mono ?_
  rintro e w1 ⟨rfl, rfl⟩
  have hS' := hS
  go_wp2_with fail
  refine hK.out _ _ hS' (fun hS => ?_)
  clear hK K hS'
  refine rdH 10 (fun K hK => ?_)
  go_simp
  refine hK.out _ _ (hS.later (below_alloc_drew _ _)) (fun hS => ?_)
  clear hK K
  refine rdH 11 (fun K hK => ?_)
  go_simp
  go_wp2_with fail
  refine (or_is c0 c1 r _ HR.out _ (two_cells _ _ (by simp) _ _ _).1 (two_cells _ _ (by simp) _ _ _).2).mono ?_
  rintro e w1 ⟨rfl, rfl⟩
  have hS' := hS
  go_wp2_with fail
  refine hK.out _ _ hS' (fun hS => ?_)
  clear hK K hS'
  refine tkH 12 ?_ hS (fun wx hx => ?_) ?_; rotate_left
  · obtain ⟨hx0, hx1, hx2, hx3, _⟩ := hx; go_simp; try with_reducible rfl
  refine wpAnyH_done (by kernel_rfl) ?_ _
  go_simp
  go_wp2
  go_ret
  exact ⟨rfl, hS.2.2.2.2⟩
set_option maxRecDepth 100000 in
set_option maxHeartbeats 1000000 in
theorem compareWrites_is (x0 x1 x2 x3 y0 y1 y2 y3 : Int) (r : Int) (hr : orOf (cmpOf x0 y0) (cmpOf x1 y1) = r) (w : World) :
    Calls Tryz.prog 156 #[.agg #[.int .i64 x0, .int .i64 x1, .int .i64 x2, .int .i64 x3], .agg #[.int .i64 y0, .int .i64 y1, .int .i64 y2, .int .i64 y3]] w fun e w' => e = .returned (.int .i64 r) ∧ Below w.heap.size w w' := by
  obtain ⟨c0, C0⟩ : ∃ c, Hid (cmpOf x0 y0 = c) := ⟨_, rfl⟩
  obtain ⟨c1, C1⟩ : ∃ c, Hid (cmpOf x1 y1 = c) := ⟨_, rfl⟩
  have HR : Hid (orOf c0 c1 = r) := by unfold Hid; rw [← C0.out, ← C1.out]; exact hr
  clear hr
  go_enter Tryz.func156, Tryz.ntmps156
  go_wp2_with fail
  have h0 : Four w x0 x1 y0 y1 (((w.alloc (.cells #[.int .i64 x0, .int .i64 x1, .int .i64 x2, .int .i64 x3] 181)).alloc (.cells #[.int .i64 y0, .int .i64 y1, .int .i64 y2, .int .i64 y3] 181)).drew) := ⟨by simp, by simp, by simp, by simp, ((below_alloc _ _).alloc (by simp) _).drew⟩
  refine wp_region_held_drew (S := Four w x0 x1 y0 y1) (by kernel_rfl) h0 (fun hS => ?_)
  clear h0
  refine tkH 0 ?_ hS (fun wx hx => ?_) ?_; rotate_left
  · obtain ⟨hx0, hx1, hx2, hx3, _⟩ := hx; go_simp; try with_reducible rfl
  refine tkH 1 ?_ hS (fun wx hx => ?_) ?_; rotate_left
  · obtain ⟨hx0, hx1, hx2, hx3, _⟩ := hx; go_simp; try with_reducible rfl
  refine tkH 2 ?_ hS (fun wx hx => ?_) ?_; rotate_left
  · obtain ⟨hx0, hx1, hx2, hx3, _⟩ := hx; go_simp; try with_reducible rfl
  refine tkH 3 ?_ hS (fun wx hx => ?_) ?_; rotate_left
  · obtain ⟨hx0, hx1, hx2, hx3, _⟩ := hx; go_simp; try with_reducible rfl
  refine tkH 5 ?_ hS (fun wx hx => ?_) ?_; rotate_left
  · obtain ⟨hx0, hx1, hx2, hx3, _⟩ := hx; go_simp; try with_reducible rfl
  refine tkH 6 ?_ hS (fun wx hx => ?_) ?_; rotate_left
  · obtain ⟨hx0, hx1, hx2, hx3, _⟩ := hx; go_simp; try with_reducible rfl
  refine tkH 7 ?_ hS (fun wx hx => ?_) ?_; rotate_left
  · obtain ⟨hx0, hx1, hx2, hx3, _⟩ := hx; go_simp; try with_reducible rfl
  refine tkH 8 ?_ hS (fun wx hx => ?_) ?_; rotate_left
  · obtain ⟨hx0, hx1, hx2, hx3, _⟩ := hx; go_simp; try with_reducible rfl
  refine rdH 4 (fun K hK => ?_)
  go_simp
  go_wp2_with fail
  refine (compare_is _ _ c0 C0.out _).mono ?_
  rintro e w1 ⟨rfl, rfl⟩
  have hS' := hS
  go_wp2_with fail
  refine hK.out _ _ hS' (fun hS => ?_)
  clear hK K hS'
  refine rdH 9 (fun K hK => ?_)
  go_simp
  go_wp2_with fail
  refine (compare_is _ _ c1 C1.out _).mono ?_
  rintro e w1 ⟨rfl, rfl⟩
  have hS' := hS
  go_wp2_with fail
  refine hK.out _ _ hS' (fun hS => ?_)
  clear hK K hS'
  refine rdH 10 (fun K hK => ?_)
  go_simp
  refine hK.out _ _ (hS.later (below_alloc_drew _ _)) (fun hS => ?_)
  clear hK K
  refine rdH 11 (fun K hK => ?_)
  go_simp
  go_wp2_with fail
  refine (or_is c0 c1 r _ HR.out _ (two_cells _ _ (by simp) _ _ _).1 (two_cells _ _ (by simp) _ _ _).2).mono ?_
  rintro e w1 ⟨rfl, rfl⟩
  have hS' := hS
  go_wp2_with fail
  refine hK.out _ _ hS' (fun hS => ?_)
  clear hK K hS'
  refine tkH 12 ?_ hS (fun wx hx => ?_) ?_; rotate_left
  · obtain ⟨hx0, hx1, hx2, hx3, _⟩ := hx; go_simp; try with_reducible rfl
  refine wpAnyH_done (by kernel_rfl) ?_ _
  go_simp
  go_wp2
  go_ret
  exact ⟨rfl, hS.2.2.2.2⟩
theorem compareLocks_is (x0 x1 x2 x3 x4 y0 y1 y2 y3 y4 : Int) (r : Int) (hr : cmpOf x0 y0 = r) (w : World) :
    Calls Tryz.prog 155 #[.agg #[.int .i64 x0, .int .i64 x1, .int .i64 x2, .int .i64 x3, .int .i64 x4], .agg #[.int .i64 y0, .int .i64 y1, .int .i64 y2, .int .i64 y3, .int .i64 y4]] w fun e w' => e = .returned (.int .i64 r) ∧ Below w.heap.size w w' := by
  have HR : Hid (cmpOf x0 y0 = r) := hr
  clear hr
  go_enter Tryz.func155, Tryz.ntmps155
  go_wp2_with fail
  refine (compare_is _ _ r HR.out _).mono ?_
  rintro e w1 ⟨rfl, rfl⟩
  go_wp2
  go_ret
  exact ⟨rfl, (below_alloc _ _).alloc (by simp) _⟩
theorem commitFits_is (x0 x1 x2 x3 : Int) (r : Bool) (hr : decide ((x3 = 4 → x1 = x2) ∧ (x3 ≠ 4 → x2 < x1)) = r) (w : World) :
    Calls Tryz.prog 157 #[.agg #[.int .i64 x0, .int .i64 x1, .int .i64 x2, .int .i64 x3]] w fun e w' => e = .returned (.bool r) ∧ Below w.heap.size w w' := by
  by_cases h3 : x3 = 4
  · by_cases h1 : x1 = x2
    · rw [decide_eq_true (show ((x3 = 4 → x1 = x2) ∧ (x3 ≠ 4 → x2 < x1)) from ⟨fun _ => h1, fun h => absurd h3 h⟩)] at hr
      subst hr h3 h1
      go_enter Tryz.func157, Tryz.ntmps157
      go_wp2
      go_ret
      exact ⟨by simp, below_alloc _ _⟩
    · rw [decide_eq_false (show ¬ ((x3 = 4 → x1 = x2) ∧ (x3 ≠ 4 → x2 < x1)) from fun h => h1 (h.1 h3))] at hr
      subst hr h3
      have d : (x1 == x2) = false := beq_eq_false_iff_ne.2 h1
      clear h1
      go_enter Tryz.func157, Tryz.ntmps157
      go_wp2
      go_ret
      exact ⟨rfl, below_alloc _ _⟩
  · have d3 : (x3 == 4) = false := beq_eq_false_iff_ne.2 h3
    by_cases h1 : x2 < x1
    · rw [decide_eq_true (show ((x3 = 4 → x1 = x2) ∧ (x3 ≠ 4 → x2 < x1)) from ⟨fun h => absurd h h3, fun _ => h1⟩)] at hr
      have d : decide (x2 < x1) = true := decide_eq_true h1
      subst hr
      clear h3 h1
      go_enter Tryz.func157, Tryz.ntmps157
      go_wp2
      go_ret
      exact ⟨rfl, below_alloc _ _⟩
    · rw [decide_eq_false (show ¬ ((x3 = 4 → x1 = x2) ∧ (x3 ≠ 4 → x2 < x1)) from fun h => h1 (h.2 h3))] at hr
      have d : decide (x2 < x1) = false := decide_eq_false h1
      subst hr
      clear h3 h1
      go_enter Tryz.func157, Tryz.ntmps157
      go_wp2
      go_ret
      exact ⟨rfl, below_alloc _ _⟩
end Go.Proofs.YtpfmifpjmcmlaaaGreat

namespace Go.Proofs.YtpfmifpjmcmlaaaGreat
open Go.RowKit

/-- The kind of a key from 0 to 199, and where its kind begins. -/
def kindAt (key : Int) : Int := if key < 10 then 0 else if key < 20 then 1 else if key < 180 then 2 else 3
def firstAt (key : Int) : Int := if key < 10 then 0 else if key < 20 then 10 else if key < 180 then 20 else 180

set_option maxHeartbeats 400000 in
theorem tellKey_any (key : Int) (w : World) (h0 : 0 ≤ key) (h1 : key ≤ 199) :
    Calls Tryz.prog 180 #[.int .i64 key] w fun e w' => e = .returned (.complex .f64 (floatOfInt .f64 (kindAt key)) (floatOfInt .f64 (key - firstAt key))) ∧ w' = w := by
  by_cases h180 : 180 ≤ key
  · have e1 : kindAt key = 3 := by unfold kindAt; repeat rw [if_neg (by omega)]
    have e2 : firstAt key = 180 := by unfold firstAt; repeat rw [if_neg (by omega)]
    rw [e1, e2]; clear e1 e2
    go_enter Tryz.func180, Tryz.ntmps180
    go_wp2
    go_rounds 1
    go_ret
    exact ⟨rfl, rfl⟩
  by_cases h20 : 20 ≤ key
  · have e1 : kindAt key = 2 := by unfold kindAt; rw [if_neg (by omega), if_neg (by omega), if_pos (by omega)]
    have e2 : firstAt key = 20 := by unfold firstAt; rw [if_neg (by omega), if_neg (by omega), if_pos (by omega)]
    rw [e1, e2]; clear e1 e2
    go_enter Tryz.func180, Tryz.ntmps180
    go_wp2
    go_rounds 2
    go_ret
    exact ⟨rfl, rfl⟩
  by_cases h10 : 10 ≤ key
  · have e1 : kindAt key = 1 := by unfold kindAt; rw [if_neg (by omega), if_pos (by omega)]
    have e2 : firstAt key = 10 := by unfold firstAt; rw [if_neg (by omega), if_pos (by omega)]
    rw [e1, e2]; clear e1 e2
    go_enter Tryz.func180, Tryz.ntmps180
    go_wp2
    go_rounds 3
    go_ret
    exact ⟨rfl, rfl⟩
  · have e1 : kindAt key = 0 := by unfold kindAt; rw [if_pos (by omega)]
    have e2 : firstAt key = 0 := by unfold firstAt; rw [if_pos (by omega)]
    rw [e1, e2]; clear e1 e2
    go_enter Tryz.func180, Tryz.ntmps180
    go_wp2
    go_rounds 4
    go_ret
    exact ⟨by simp, rfl⟩

theorem kindAt_0 {key : Int} (h : key < 10) : kindAt key = 0 ∧ firstAt key = 0 := by unfold kindAt firstAt; rw [if_pos h, if_pos h]; exact ⟨rfl, rfl⟩
theorem kindAt_1 {key : Int} (h : 10 ≤ key) (h' : key < 20) : kindAt key = 1 ∧ firstAt key = 10 := by
  unfold kindAt firstAt; rw [if_neg (by omega), if_pos h', if_neg (by omega), if_pos h']; exact ⟨rfl, rfl⟩
theorem kindAt_2 {key : Int} (h : 20 ≤ key) (h' : key < 180) : kindAt key = 2 ∧ firstAt key = 20 := by
  unfold kindAt firstAt; rw [if_neg (by omega), if_neg (by omega), if_pos h', if_neg (by omega), if_neg (by omega), if_pos h']; exact ⟨rfl, rfl⟩
theorem kindAt_3 {key : Int} (h : 180 ≤ key) : kindAt key = 3 ∧ firstAt key = 180 := by
  unfold kindAt firstAt; rw [if_neg (by omega), if_neg (by omega), if_neg (by omega), if_neg (by omega), if_neg (by omega), if_neg (by omega)]; exact ⟨rfl, rfl⟩

set_option maxHeartbeats 400000 in
theorem partsTold_entry (r : Int) (w : World) (h0 : 0 ≤ r) (h1 : r ≤ 199) :
    Calls Tryz.prog 179 #[.complex .f64 (floatOfInt .f64 2) (floatOfInt .f64 r)] w fun e w' => e = .returned (.tuple #[.int .i64 2, .int .i64 (r / 10), .int .i64 (r % 10)]) ∧ w' = w := by
  have k2 := fun w => run_to_int 2 (by omega) (by omega) w
  have kr := fun w => run_to_int r h0 h1 w
  go_enter Tryz.func179, Tryz.ntmps179
  go_wp2
  go_ret3
  exact ⟨rfl, rfl⟩
set_option maxHeartbeats 400000 in
theorem partsTold_other (k r : Int) (w : World) (hk0 : 0 ≤ k) (hk3 : k ≤ 3) (hk : (k == 2) = false) (h0 : 0 ≤ r) (h1 : r ≤ 199) :
    Calls Tryz.prog 179 #[.complex .f64 (floatOfInt .f64 k) (floatOfInt .f64 r)] w fun e w' => e = .returned (.tuple #[.int .i64 k, .int .i64 r, .int .i64 0]) ∧ w' = w := by
  have k2 := fun w => run_to_int k hk0 (by omega) w
  have kr := fun w => run_to_int r h0 h1 w
  go_enter Tryz.func179, Tryz.ntmps179
  go_wp2
  go_ret3
  exact ⟨rfl, rfl⟩

set_option maxHeartbeats 1000000 in
theorem keyFault_any (key : Int) (w : World) :
    Calls Tryz.prog 151 #[.int .i64 key] w fun e w' => e = .returned (.int .i64 (faultOf key)) ∧ w' = w := by
  by_cases hlo : key < 0
  · rw [faultOf_range (Or.inl hlo)]
    go_enter Tryz.func151, Tryz.ntmps151
    go_wp2
    go_ret
    exact ⟨rfl, rfl⟩
  by_cases hhi : 199 < key
  · rw [faultOf_range (Or.inr hhi)]
    go_enter Tryz.func151, Tryz.ntmps151
    go_wp2
    go_ret
    exact ⟨rfl, rfl⟩
  by_cases h10 : key < 10
  · have HE := kindAt_0 h10
    by_cases hz : key = 0
    · subst hz
      rw [faultOf_ok (Or.inl rfl)]
      go_enter Tryz.func151, Tryz.ntmps151
      go_wp2_with fail
      refine (tellKey_any _ _ (by omega) (by omega)).mono ?_
      rintro e w' ⟨rfl, rfl⟩
      rw [HE.1, HE.2]; clear HE
      go_wp2_with fail
      refine (partsTold_other _ _ _ (by omega) (by omega) rfl (by omega) (by omega)).mono ?_
      rintro e w' ⟨rfl, rfl⟩
      go_wp2
      go_ret
      exact ⟨rfl, rfl⟩
    · rw [faultOf_form (by omega) (by omega) (by omega)]
      have d0 : (key == 0) = false := beq_eq_false_iff_ne.2 hz
      go_enter Tryz.func151, Tryz.ntmps151
      go_wp2_with fail
      refine (tellKey_any _ _ (by omega) (by omega)).mono ?_
      rintro e w' ⟨rfl, rfl⟩
      rw [HE.1, HE.2]; clear HE
      go_wp2_with fail
      refine (partsTold_other _ _ _ (by omega) (by omega) rfl (by omega) (by omega)).mono ?_
      rintro e w' ⟨rfl, rfl⟩
      go_wp2
      go_ret
      exact ⟨rfl, rfl⟩
  by_cases h20 : key < 20
  · have HE := kindAt_1 (by omega) h20
    rw [faultOf_ok (by omega)]
    go_enter Tryz.func151, Tryz.ntmps151
    go_wp2_with fail
    refine (tellKey_any _ _ (by omega) (by omega)).mono ?_
    rintro e w' ⟨rfl, rfl⟩
    rw [HE.1, HE.2]; clear HE
    go_wp2_with fail
    refine (partsTold_other _ _ _ (by omega) (by omega) rfl (by omega) (by omega)).mono ?_
    rintro e w' ⟨rfl, rfl⟩
    go_wp2
    go_ret
    exact ⟨rfl, rfl⟩
  by_cases h180 : key < 180
  · have HE := kindAt_2 (by omega) h180
    by_cases hok : key < 120 ∧ key % 10 ≤ 5
    · rw [faultOf_ok (by omega)]
      have b1 : (key - 20) / 10 ≤ 9 := by omega
      have b2 : 0 ≤ (key - 20) / 10 := by omega
      have b3 : (key - 20) % 10 ≤ 5 := by omega
      have b4 : 0 ≤ (key - 20) % 10 := by omega
      clear hok
      go_enter Tryz.func151, Tryz.ntmps151
      go_wp2_with fail
      refine (tellKey_any _ _ (by omega) (by omega)).mono ?_
      rintro e w' ⟨rfl, rfl⟩
      rw [HE.1, HE.2]; clear HE
      go_wp2_with fail
      refine (partsTold_entry _ _ (by omega) (by omega)).mono ?_
      rintro e w' ⟨rfl, rfl⟩
      go_wp2
      go_ret
      exact ⟨rfl, rfl⟩
    · rw [faultOf_form (by omega) (by omega) (by omega)]
      have b2 : 0 ≤ (key - 20) / 10 := by omega
      have b4 : 0 ≤ (key - 20) % 10 := by omega
      by_cases b1 : (key - 20) / 10 ≤ 9
      · have b3 : 5 < (key - 20) % 10 := by omega
        have d3 : decide (5 < (key - 20) % 10) = true := decide_eq_true b3
        clear hok
        go_enter Tryz.func151, Tryz.ntmps151
        go_wp2_with fail
        refine (tellKey_any _ _ (by omega) (by omega)).mono ?_
        rintro e w' ⟨rfl, rfl⟩
        rw [HE.1, HE.2]; clear HE
        go_wp2_with fail
        refine (partsTold_entry _ _ (by omega) (by omega)).mono ?_
        rintro e w' ⟨rfl, rfl⟩
        go_wp2
        go_ret
        exact ⟨rfl, rfl⟩
      · have b3 : 9 < (key - 20) / 10 := by omega
        have d3 : decide (9 < (key - 20) / 10) = true := decide_eq_true b3
        clear hok b1
        go_enter Tryz.func151, Tryz.ntmps151
        go_wp2_with fail
        refine (tellKey_any _ _ (by omega) (by omega)).mono ?_
        rintro e w' ⟨rfl, rfl⟩
        rw [HE.1, HE.2]; clear HE
        go_wp2_with fail
        refine (partsTold_entry _ _ (by omega) (by omega)).mono ?_
        rintro e w' ⟨rfl, rfl⟩
        go_wp2
        go_ret
        exact ⟨rfl, rfl⟩
  · have HE := kindAt_3 (key := key) (by omega)
    by_cases hok : key < 190
    focus
      rw [faultOf_ok (by omega)]
    rotate_left
    focus
      rw [faultOf_form (by omega) (by omega) (by omega)]
      have d3 : decide (9 < key - 180) = true := decide_eq_true (by omega)
    rotate_left
    all_goals
      go_enter Tryz.func151, Tryz.ntmps151
      go_wp2_with fail
      refine (tellKey_any _ _ (by omega) (by omega)).mono ?_
      rintro e w' ⟨rfl, rfl⟩
      rw [HE.1, HE.2]; clear HE
      go_wp2_with fail
      refine (partsTold_other _ _ _ (by omega) (by omega) rfl (by omega) (by omega)).mono ?_
      rintro e w' ⟨rfl, rfl⟩
      go_wp2
      go_ret
      exact ⟨rfl, rfl⟩
end Go.Proofs.YtpfmifpjmcmlaaaGreat

namespace Go.Proofs.YtpfmifpjmcmlaaaGreat
open Go.RowKit

theorem below_dn {B : Nat} {a w : World} (h : Below B a w) (q : Nat) : Below B a (w.drewN q) := ⟨h.os, h.tape, h.output, h.size, h.block⟩
theorem orOf_neg (a b c d : Int) : orOf (cmpOf a b) (cmpOf c d) < 0 ↔ a < b ∨ a = b ∧ c < d := by
  unfold orOf cmpOf
  repeat' split
  all_goals omega
theorem wrap_pred (k : Nat) (h : 0 < k) (h2 : k ≤ 200) : IntKind.i64.wrap ((k : Int) - 1) = ((k - 1 : Nat) : Int) := by
  have e : (k : Int) - 1 = ((k - 1 : Nat) : Int) := by omega
  rw [e]
  simp [IntKind.wrap, IntKind.bits, IntKind.signed]
  omega
theorem cmpOf_neg (a b : Int) : cmpOf a b < 0 ↔ a < b := by
  unfold cmpOf
  repeat' split
  all_goals omega
/-- The element ahead and the one that is asked, and that nothing old has turned. -/
def PrevCell (w : World) (g o k N : Nat) (m0 m1 m2 n0 n1 n2 : Int) (x : World) : Prop := (x.cell? ⟨g, o + (k - 1) * 3, none⟩ = some (.int .i64 m0) ∧ x.cell? ⟨g, o + (k - 1) * 3 + 1, none⟩ = some (.int .i64 m1) ∧ x.cell? ⟨g, o + (k - 1) * 3 + 2, none⟩ = some (.int .i64 m2) ∧ x.cell? ⟨N, 0, none⟩ = some (.int .i64 n0) ∧ x.cell? ⟨N, 1, none⟩ = some (.int .i64 n1) ∧ x.cell? ⟨N, 2, none⟩ = some (.int .i64 n2)) ∧ Below w.heap.size w x
theorem PrevCell.later {w x x' : World} {g o k N : Nat} {m0 m1 m2 n0 n1 n2 : Int} (h : PrevCell w g o k N m0 m1 m2 n0 n1 n2 x) (hb : Below x.heap.size x x') : PrevCell w g o k N m0 m1 m2 n0 n1 n2 x' := by
  obtain ⟨⟨hx0, hx1, hx2, hx3, hx4, hx5⟩, hy⟩ := h
  exact ⟨⟨(hb.cell (World.block_lt_of_cell? x _ hx0)).trans hx0, (hb.cell (World.block_lt_of_cell? x _ hx1)).trans hx1, (hb.cell (World.block_lt_of_cell? x _ hx2)).trans hx2, (hb.cell (World.block_lt_of_cell? x _ hx3)).trans hx3, (hb.cell (World.block_lt_of_cell? x _ hx4)).trans hx4, (hb.cell (World.block_lt_of_cell? x _ hx5)).trans hx5⟩, hy.trans (hb.mono hy.size)⟩
set_option maxRecDepth 100000 in
set_option maxHeartbeats 4000000 in
theorem cellsFault_any (S : Sto) (v : Value) (B : Nat) (w : World) (h : Row w B 3 S.nc S.c v) (hn : S.nc ≤ 200) :
    Calls Tryz.prog 110 #[v] w fun e w' => e = .returned (.int .i64 (scan (cellF S.c) S.nc)) ∧ Below w.heap.size w w' := by
  obtain ⟨ao, cp, rfl⟩ := h.form
  have H : Hid (Row w B 3 S.nc S.c (.slice ao S.nc cp)) := h
  clear h
  go_enter Tryz.func110, Tryz.ntmps110
  go_wp2
  go_loopw [8] (fun i wr => ∃ k : Nat, k ≤ S.nc ∧ i = .int .i64 k ∧ Hid (scan (cellF S.c) k = 0) ∧ Below w.heap.size w wr) (fun i _ => S.nc - (intOf i).toNat)
  case atStart => exact ⟨0, Nat.zero_le _, rfl, rfl, Below.refl _ _⟩
  case round =>
    obtain ⟨k, hk, rfl, HS, hbw⟩ := hrel
    by_cases hlt : k < S.nc
    case neg =>
      have en : k = S.nc := by omega
      have E : Hid (scan (cellF S.c) S.nc = 0) := en ▸ HS.out
      clear HS
      go_wp2
      go_ret
      exact ⟨by rw [E.out]; rfl, hbw⟩
    obtain ⟨g, o, rfl, _, hg, x0, x1, x2⟩ := (H.out.later hbw).at3 hlt
    obtain ⟨n0, N0⟩ : ∃ x, S.c (k * 3) = x := ⟨_, rfl⟩
    rw [N0] at x0
    obtain ⟨n1, N1⟩ : ∃ x, S.c (k * 3 + 1) = x := ⟨_, rfl⟩
    rw [N1] at x1
    obtain ⟨n2, N2⟩ : ∃ x, S.c (k * 3 + 2) = x := ⟨_, rfl⟩
    rw [N2] at x2
    have NN : Hid (S.c (k * 3) = n0 ∧ S.c (k * 3 + 1) = n1 ∧ S.c (k * 3 + 2) = n2) := ⟨N0, N1, N2⟩
    clear N0 N1 N2
    by_cases h0 : faultOf n0 = 0
    case neg =>
      obtain ⟨f, hff⟩ : ∃ f, faultOf n0 = f := ⟨_, rfl⟩
      have L0 : Hid (∀ w, Calls Tryz.prog 151 #[.int .i64 n0] w fun e w' => e = .returned (.int .i64 f) ∧ w' = w) := fun w => hff ▸ keyFault_any n0 w
      have E : Hid (scan (cellF S.c) S.nc = f) := by
        have : cellF S.c k = f := by
          unfold cellF
          rw [NN.out.1, NN.out.2.1, NN.out.2.2]
          rw [if_pos h0]; exact hff
        exact (scan_stop HS.out (by rw [this, ← hff]; exact h0) hlt).trans this
      have hfn : (f == 0) = false := beq_eq_false_iff_ne.2 (by rw [← hff]; exact h0)
      clear hff h0 HS NN
      go_wp2_with fail
      refine (L0.out _).mono ?_
      rintro e w1 ⟨rfl, rfl⟩
      go_wp2
      go_ret
      exact ⟨by rw [E.out]; rfl, by first | exact hbw.alloc hbw.size _ | exact below_dn (hbw.alloc hbw.size _) _ | exact below_dn (below_dn (hbw.alloc hbw.size _) _) _⟩
    have L0 : Hid (∀ w, Calls Tryz.prog 151 #[.int .i64 n0] w fun e w' => e = .returned (.int .i64 0) ∧ w' = w) := fun w => h0 ▸ keyFault_any n0 w
    have G0 : Hid (faultOf n0 = 0) := h0
    clear h0
    by_cases h1 : 1 ≤ n1 ∧ n1 ≤ 100000
    case neg =>
      have L1 : Hid (decide (1 ≤ n1 ∧ n1 ≤ 100000) = false) := decide_eq_false h1
      have E : Hid (scan (cellF S.c) S.nc = 3) := by
        have : cellF S.c k = 3 := by
          unfold cellF
          rw [NN.out.1, NN.out.2.1, NN.out.2.2]
          rw [if_neg (fun h => h G0.out)]
          rw [if_pos (by omega)]
        exact (scan_stop HS.out (by rw [this]; decide) hlt).trans this
      clear h1 HS NN G0
      go_wp2_with fail
      refine (L0.out _).mono ?_
      rintro e w1 ⟨rfl, rfl⟩
      go_wp2_with fail
      refine (isTime_is _ false L1.out _).mono ?_
      rintro e w1 ⟨rfl, rfl⟩
      go_wp2
      go_ret
      exact ⟨by rw [E.out]; rfl, by first | exact hbw.alloc hbw.size _ | exact below_dn (hbw.alloc hbw.size _) _ | exact below_dn (below_dn (hbw.alloc hbw.size _) _) _⟩
    have L1 : Hid (decide (1 ≤ n1 ∧ n1 ≤ 100000) = true) := decide_eq_true h1
    have G1 : Hid (1 ≤ n1 ∧ n1 ≤ 100000) := h1
    clear h1
    by_cases h2 : 0 ≤ n2 ∧ n2 ≤ 9999
    case neg =>
      have L2 : Hid (decide (0 ≤ n2 ∧ n2 ≤ 9999) = false) := decide_eq_false h2
      have E : Hid (scan (cellF S.c) S.nc = 3) := by
        have : cellF S.c k = 3 := by
          unfold cellF
          rw [NN.out.1, NN.out.2.1, NN.out.2.2]
          rw [if_neg (fun h => h G0.out)]
          rw [if_pos (by omega)]
        exact (scan_stop HS.out (by rw [this]; decide) hlt).trans this
      clear h2 HS NN G0 G1
      go_wp2_with fail
      refine (L0.out _).mono ?_
      rintro e w1 ⟨rfl, rfl⟩
      go_wp2_with fail
      refine (isTime_is _ true L1.out _).mono ?_
      rintro e w1 ⟨rfl, rfl⟩
      go_wp2_with fail
      refine (isValue_is _ false L2.out _).mono ?_
      rintro e w1 ⟨rfl, rfl⟩
      go_wp2
      go_ret
      exact ⟨by rw [E.out]; rfl, by first | exact hbw.alloc hbw.size _ | exact below_dn (hbw.alloc hbw.size _) _ | exact below_dn (below_dn (hbw.alloc hbw.size _) _) _⟩
    have L2 : Hid (decide (0 ≤ n2 ∧ n2 ≤ 9999) = true) := decide_eq_true h2
    have G2 : Hid (0 ≤ n2 ∧ n2 ≤ 9999) := h2
    clear h2
    rcases Nat.eq_zero_or_pos k with hk0 | hk0
    · have E : Hid (scan (cellF S.c) (k + 1) = 0) := by
        have : cellF S.c k = 0 := by
          unfold cellF
          rw [NN.out.1, NN.out.2.1, NN.out.2.2]
          rw [if_neg (fun h => h G0.out)]
          have g1 := G1.out; have g2 := G2.out; rw [if_neg (by omega)]
          rw [if_neg (by omega)]
        exact scan_go HS.out this
      have dk : decide (0 < k) = false := decide_eq_false (by omega)
      clear HS NN G0 G1 G2 hk0
      go_wp2_with fail
      refine (L0.out _).mono ?_
      rintro e w1 ⟨rfl, rfl⟩
      go_wp2_with fail
      refine (isTime_is _ true L1.out _).mono ?_
      rintro e w1 ⟨rfl, rfl⟩
      go_wp2_with fail
      refine (isValue_is _ true L2.out _).mono ?_
      rintro e w1 ⟨rfl, rfl⟩
      go_wp2_with fail
      go_quiet (fail)
      go_wp2
      go_roundw
      case rel => exact ⟨k + 1, by omega, by go_num, E, by first | exact hbw.alloc hbw.size _ | exact below_dn (hbw.alloc hbw.size _) _ | exact below_dn (below_dn (hbw.alloc hbw.size _) _) _⟩
      case measure => simp [intOf]; omega
    obtain ⟨g', o', he, _, _, y0, y1, y2⟩ := (H.out.later hbw).at3 (k := k - 1) (by omega)
    simp only [Option.some.injEq, Addr.mk.injEq, and_true] at he
    obtain ⟨rfl, rfl⟩ := he
    obtain ⟨m0, M0⟩ : ∃ x, S.c ((k - 1) * 3) = x := ⟨_, rfl⟩
    rw [M0] at y0
    obtain ⟨m1, M1⟩ : ∃ x, S.c ((k - 1) * 3 + 1) = x := ⟨_, rfl⟩
    rw [M1] at y1
    obtain ⟨m2, M2⟩ : ∃ x, S.c ((k - 1) * 3 + 2) = x := ⟨_, rfl⟩
    rw [M2] at y2
    have MM : Hid (S.c ((k - 1) * 3) = m0 ∧ S.c ((k - 1) * 3 + 1) = m1) := ⟨M0, M1⟩
    clear M0 M1 M2
    have dk : decide (0 < k) = true := decide_eq_true hk0
    have hwr := wrap_pred k hk0 (by omega)
    have hkn : ((k - 1 : Nat) : Int) < (S.nc : Int) := by omega
    obtain ⟨r, HR⟩ : ∃ r, Hid (orOf (cmpOf m0 n0) (cmpOf m1 n1) = r) := ⟨_, rfl⟩
    have HO : Hid (r < 0 ↔ m0 < n0 ∨ m0 = n0 ∧ m1 < n1) := by unfold Hid; rw [← HR.out]; exact orOf_neg _ _ _ _
    have h0 : PrevCell w g o k wr.heap.size m0 m1 m2 n0 n1 n2 (wr.alloc (.cells #[.int .i64 n0, .int .i64 n1, .int .i64 n2] 173)).drew := ⟨⟨(World.cell?_alloc_lt _ _ _ hg).trans y0, (World.cell?_alloc_lt _ _ _ hg).trans y1, (World.cell?_alloc_lt _ _ _ hg).trans y2, World.cell?_alloc_mark wr _ _ _ 0, World.cell?_alloc_mark wr _ _ _ 1, World.cell?_alloc_mark wr _ _ _ 2⟩, (hbw.alloc hbw.size _).drew⟩
    by_cases hr : 0 ≤ r
    · have E : Hid (scan (cellF S.c) S.nc = 1) := by
        have : cellF S.c k = 1 := by
          unfold cellF
          rw [NN.out.1, NN.out.2.1, NN.out.2.2]
          rw [if_neg (fun h => h G0.out)]
          have g1 := G1.out; have g2 := G2.out; rw [if_neg (by omega)]
          rw [MM.out.1, MM.out.2]
          have ho := HO.out
          rw [if_pos (by omega)]
        exact (scan_stop HS.out (by rw [this]; decide) hlt).trans this
      have dr : decide (0 ≤ r) = true := decide_eq_true hr
      clear HS NN G0 G1 G2 MM HO hr
      go_wp2_with fail
      refine (L0.out _).mono ?_
      rintro e w1 ⟨rfl, rfl⟩
      go_wp2_with fail
      refine (isTime_is _ true L1.out _).mono ?_
      rintro e w1 ⟨rfl, rfl⟩
      go_wp2_with fail
      refine (isValue_is _ true L2.out _).mono ?_
      rintro e w1 ⟨rfl, rfl⟩
      go_wp2_with fail
      refine wp_region_held_drew (S := PrevCell w g o k wr.heap.size m0 m1 m2 n0 n1 n2) (by kernel_rfl) h0 (fun hS => ?_)
      clear h0
      refine tkH 0 ?_ hS (fun wx hx => ?_) ?_; rotate_left
      · obtain ⟨⟨hx0, hx1, hx2, hx3, hx4, hx5⟩, _⟩ := hx; go_simp; try with_reducible rfl
      refine tkH 1 ?_ hS (fun wx hx => ?_) ?_; rotate_left
      · obtain ⟨⟨hx0, hx1, hx2, hx3, hx4, hx5⟩, _⟩ := hx; go_simp; try with_reducible rfl
      refine tkH 2 ?_ hS (fun wx hx => ?_) ?_; rotate_left
      · obtain ⟨⟨hx0, hx1, hx2, hx3, hx4, hx5⟩, _⟩ := hx; go_simp; try with_reducible rfl
      refine tkH 3 ?_ hS (fun wx hx => ?_) ?_; rotate_left
      · obtain ⟨⟨hx0, hx1, hx2, hx3, hx4, hx5⟩, _⟩ := hx; go_simp; try with_reducible rfl
      refine tkH 4 ?_ hS (fun wx hx => ?_) ?_; rotate_left
      · obtain ⟨⟨hx0, hx1, hx2, hx3, hx4, hx5⟩, _⟩ := hx; go_simp; try with_reducible rfl
      refine tkH 5 ?_ hS (fun wx hx => ?_) ?_; rotate_left
      · obtain ⟨⟨hx0, hx1, hx2, hx3, hx4, hx5⟩, _⟩ := hx; go_simp; try with_reducible rfl
      refine tkH 6 ?_ hS (fun wx hx => ?_) ?_; rotate_left
      · obtain ⟨⟨hx0, hx1, hx2, hx3, hx4, hx5⟩, _⟩ := hx; go_simp; try with_reducible rfl
      refine tkH 7 ?_ hS (fun wx hx => ?_) ?_; rotate_left
      · obtain ⟨⟨hx0, hx1, hx2, hx3, hx4, hx5⟩, _⟩ := hx; go_simp; try with_reducible rfl
      refine tkH 8 ?_ hS (fun wx hx => ?_) ?_; rotate_left
      · obtain ⟨⟨hx0, hx1, hx2, hx3, hx4, hx5⟩, _⟩ := hx; go_simp; try with_reducible rfl
      refine rdH 9 (fun K hK => ?_)
      go_simp
      go_wp2_with fail
      refine (compareCells_is _ _ _ _ _ _ r HR.out _).mono ?_
      rintro e w1 ⟨rfl, q1⟩
      have hS' := hS.later q1
      clear q1
      go_wp2_with fail
      refine hK.out _ _ hS' (fun hS => ?_)
      clear hK K hS'
      refine tkH 10 ?_ hS (fun wx hx => ?_) ?_; rotate_left
      · obtain ⟨⟨hx0, hx1, hx2, hx3, hx4, hx5⟩, _⟩ := hx; go_simp; try with_reducible rfl
      refine tkH 11 ?_ hS (fun wx hx => ?_) ?_; rotate_left
      · obtain ⟨⟨hx0, hx1, hx2, hx3, hx4, hx5⟩, _⟩ := hx; go_simp; try with_reducible rfl
      refine wpAnyH_done (by kernel_rfl) ?_ _
      go_simp
      go_wp2
      go_ret
      exact ⟨by rw [E.out]; rfl, hS.2⟩
    · have E : Hid (scan (cellF S.c) (k + 1) = 0) := by
        have : cellF S.c k = 0 := by
          unfold cellF
          rw [NN.out.1, NN.out.2.1, NN.out.2.2]
          rw [if_neg (fun h => h G0.out)]
          have g1 := G1.out; have g2 := G2.out; rw [if_neg (by omega)]
          rw [MM.out.1, MM.out.2]
          have ho := HO.out
          rw [if_neg (by omega)]
        exact scan_go HS.out this
      have dr : decide (0 ≤ r) = false := decide_eq_false hr
      clear HS NN G0 G1 G2 MM HO hr
      go_wp2_with fail
      refine (L0.out _).mono ?_
      rintro e w1 ⟨rfl, rfl⟩
      go_wp2_with fail
      refine (isTime_is _ true L1.out _).mono ?_
      rintro e w1 ⟨rfl, rfl⟩
      go_wp2_with fail
      refine (isValue_is _ true L2.out _).mono ?_
      rintro e w1 ⟨rfl, rfl⟩
      go_wp2_with fail
      refine wp_region_held_drew (S := PrevCell w g o k wr.heap.size m0 m1 m2 n0 n1 n2) (by kernel_rfl) h0 (fun hS => ?_)
      clear h0
      refine tkH 0 ?_ hS (fun wx hx => ?_) ?_; rotate_left
      · obtain ⟨⟨hx0, hx1, hx2, hx3, hx4, hx5⟩, _⟩ := hx; go_simp; try with_reducible rfl
      refine tkH 1 ?_ hS (fun wx hx => ?_) ?_; rotate_left
      · obtain ⟨⟨hx0, hx1, hx2, hx3, hx4, hx5⟩, _⟩ := hx; go_simp; try with_reducible rfl
      refine tkH 2 ?_ hS (fun wx hx => ?_) ?_; rotate_left
      · obtain ⟨⟨hx0, hx1, hx2, hx3, hx4, hx5⟩, _⟩ := hx; go_simp; try with_reducible rfl
      refine tkH 3 ?_ hS (fun wx hx => ?_) ?_; rotate_left
      · obtain ⟨⟨hx0, hx1, hx2, hx3, hx4, hx5⟩, _⟩ := hx; go_simp; try with_reducible rfl
      refine tkH 4 ?_ hS (fun wx hx => ?_) ?_; rotate_left
      · obtain ⟨⟨hx0, hx1, hx2, hx3, hx4, hx5⟩, _⟩ := hx; go_simp; try with_reducible rfl
      refine tkH 5 ?_ hS (fun wx hx => ?_) ?_; rotate_left
      · obtain ⟨⟨hx0, hx1, hx2, hx3, hx4, hx5⟩, _⟩ := hx; go_simp; try with_reducible rfl
      refine tkH 6 ?_ hS (fun wx hx => ?_) ?_; rotate_left
      · obtain ⟨⟨hx0, hx1, hx2, hx3, hx4, hx5⟩, _⟩ := hx; go_simp; try with_reducible rfl
      refine tkH 7 ?_ hS (fun wx hx => ?_) ?_; rotate_left
      · obtain ⟨⟨hx0, hx1, hx2, hx3, hx4, hx5⟩, _⟩ := hx; go_simp; try with_reducible rfl
      refine tkH 8 ?_ hS (fun wx hx => ?_) ?_; rotate_left
      · obtain ⟨⟨hx0, hx1, hx2, hx3, hx4, hx5⟩, _⟩ := hx; go_simp; try with_reducible rfl
      refine rdH 9 (fun K hK => ?_)
      go_simp
      go_wp2_with fail
      refine (compareCells_is _ _ _ _ _ _ r HR.out _).mono ?_
      rintro e w1 ⟨rfl, q1⟩
      have hS' := hS.later q1
      clear q1
      go_wp2_with fail
      refine hK.out _ _ hS' (fun hS => ?_)
      clear hK K hS'
      refine tkH 10 ?_ hS (fun wx hx => ?_) ?_; rotate_left
      · obtain ⟨⟨hx0, hx1, hx2, hx3, hx4, hx5⟩, _⟩ := hx; go_simp; try with_reducible rfl
      refine tkH 11 ?_ hS (fun wx hx => ?_) ?_; rotate_left
      · obtain ⟨⟨hx0, hx1, hx2, hx3, hx4, hx5⟩, _⟩ := hx; go_simp; try with_reducible rfl
      refine wpAnyH_done (by kernel_rfl) ?_ _
      go_simp
      go_wp2
      go_roundw
      case rel => exact ⟨k + 1, by omega, by go_num, E, hS.2⟩
      case measure => simp [intOf]; omega

/-- The element ahead and the one that is asked, and that nothing old has turned. -/
def PrevLock (w : World) (g o k N : Nat) (m0 m1 m2 m3 m4 n0 n1 n2 n3 n4 : Int) (x : World) : Prop := (x.cell? ⟨g, o + (k - 1) * 5, none⟩ = some (.int .i64 m0) ∧ x.cell? ⟨g, o + (k - 1) * 5 + 1, none⟩ = some (.int .i64 m1) ∧ x.cell? ⟨g, o + (k - 1) * 5 + 2, none⟩ = some (.int .i64 m2) ∧ x.cell? ⟨g, o + (k - 1) * 5 + 3, none⟩ = some (.int .i64 m3) ∧ x.cell? ⟨g, o + (k - 1) * 5 + 4, none⟩ = some (.int .i64 m4) ∧ x.cell? ⟨N, 0, none⟩ = some (.int .i64 n0) ∧ x.cell? ⟨N, 1, none⟩ = some (.int .i64 n1) ∧ x.cell? ⟨N, 2, none⟩ = some (.int .i64 n2) ∧ x.cell? ⟨N, 3, none⟩ = some (.int .i64 n3) ∧ x.cell? ⟨N, 4, none⟩ = some (.int .i64 n4)) ∧ Below w.heap.size w x
theorem PrevLock.later {w x x' : World} {g o k N : Nat} {m0 m1 m2 m3 m4 n0 n1 n2 n3 n4 : Int} (h : PrevLock w g o k N m0 m1 m2 m3 m4 n0 n1 n2 n3 n4 x) (hb : Below x.heap.size x x') : PrevLock w g o k N m0 m1 m2 m3 m4 n0 n1 n2 n3 n4 x' := by
  obtain ⟨⟨hx0, hx1, hx2, hx3, hx4, hx5, hx6, hx7, hx8, hx9⟩, hy⟩ := h
  exact ⟨⟨(hb.cell (World.block_lt_of_cell? x _ hx0)).trans hx0, (hb.cell (World.block_lt_of_cell? x _ hx1)).trans hx1, (hb.cell (World.block_lt_of_cell? x _ hx2)).trans hx2, (hb.cell (World.block_lt_of_cell? x _ hx3)).trans hx3, (hb.cell (World.block_lt_of_cell? x _ hx4)).trans hx4, (hb.cell (World.block_lt_of_cell? x _ hx5)).trans hx5, (hb.cell (World.block_lt_of_cell? x _ hx6)).trans hx6, (hb.cell (World.block_lt_of_cell? x _ hx7)).trans hx7, (hb.cell (World.block_lt_of_cell? x _ hx8)).trans hx8, (hb.cell (World.block_lt_of_cell? x _ hx9)).trans hx9⟩, hy.trans (hb.mono hy.size)⟩
set_option maxRecDepth 100000 in
set_option maxHeartbeats 4000000 in
theorem locksFault_any (S : Sto) (v : Value) (B : Nat) (w : World) (h : Row w B 5 S.nl S.l v) (hn : S.nl ≤ 200) :
    Calls Tryz.prog 111 #[v] w fun e w' => e = .returned (.int .i64 (scan (lockF S.l) S.nl)) ∧ Below w.heap.size w w' := by
  obtain ⟨ao, cp, rfl⟩ := h.form
  have H : Hid (Row w B 5 S.nl S.l (.slice ao S.nl cp)) := h
  clear h
  go_enter Tryz.func111, Tryz.ntmps111
  go_wp2
  go_loopw [9] (fun i wr => ∃ k : Nat, k ≤ S.nl ∧ i = .int .i64 k ∧ Hid (scan (lockF S.l) k = 0) ∧ Below w.heap.size w wr) (fun i _ => S.nl - (intOf i).toNat)
  case atStart => exact ⟨0, Nat.zero_le _, rfl, rfl, Below.refl _ _⟩
  case round =>
    obtain ⟨k, hk, rfl, HS, hbw⟩ := hrel
    by_cases hlt : k < S.nl
    case neg =>
      have en : k = S.nl := by omega
      have E : Hid (scan (lockF S.l) S.nl = 0) := en ▸ HS.out
      clear HS
      go_wp2
      go_ret
      exact ⟨by rw [E.out]; rfl, hbw⟩
    obtain ⟨g, o, rfl, _, hg, x0, x1, x2, x3, x4⟩ := (H.out.later hbw).at5 hlt
    obtain ⟨n0, N0⟩ : ∃ x, S.l (k * 5) = x := ⟨_, rfl⟩
    rw [N0] at x0
    obtain ⟨n1, N1⟩ : ∃ x, S.l (k * 5 + 1) = x := ⟨_, rfl⟩
    rw [N1] at x1
    obtain ⟨n2, N2⟩ : ∃ x, S.l (k * 5 + 2) = x := ⟨_, rfl⟩
    rw [N2] at x2
    obtain ⟨n3, N3⟩ : ∃ x, S.l (k * 5 + 3) = x := ⟨_, rfl⟩
    rw [N3] at x3
    obtain ⟨n4, N4⟩ : ∃ x, S.l (k * 5 + 4) = x := ⟨_, rfl⟩
    rw [N4] at x4
    have NN : Hid (S.l (k * 5) = n0 ∧ S.l (k * 5 + 1) = n1 ∧ S.l (k * 5 + 2) = n2 ∧ S.l (k * 5 + 3) = n3 ∧ S.l (k * 5 + 4) = n4) := ⟨N0, N1, N2, N3, N4⟩
    clear N0 N1 N2 N3 N4
    by_cases h0 : faultOf n0 = 0
    case neg =>
      obtain ⟨f, hff⟩ : ∃ f, faultOf n0 = f := ⟨_, rfl⟩
      have L0 : Hid (∀ w, Calls Tryz.prog 151 #[.int .i64 n0] w fun e w' => e = .returned (.int .i64 f) ∧ w' = w) := fun w => hff ▸ keyFault_any n0 w
      have E : Hid (scan (lockF S.l) S.nl = f) := by
        have : lockF S.l k = f := by
          unfold lockF
          rw [NN.out.1, NN.out.2.1, NN.out.2.2.1, NN.out.2.2.2.1, NN.out.2.2.2.2]
          rw [if_pos h0]; exact hff
        exact (scan_stop HS.out (by rw [this, ← hff]; exact h0) hlt).trans this
      have hfn : (f == 0) = false := beq_eq_false_iff_ne.2 (by rw [← hff]; exact h0)
      clear hff h0 HS NN
      go_wp2_with fail
      refine (L0.out _).mono ?_
      rintro e w1 ⟨rfl, rfl⟩
      go_wp2
      go_ret
      exact ⟨by rw [E.out]; rfl, by first | exact hbw.alloc hbw.size _ | exact below_dn (hbw.alloc hbw.size _) _ | exact below_dn (below_dn (hbw.alloc hbw.size _) _) _⟩
    have L0 : Hid (∀ w, Calls Tryz.prog 151 #[.int .i64 n0] w fun e w' => e = .returned (.int .i64 0) ∧ w' = w) := fun w => h0 ▸ keyFault_any n0 w
    have G0 : Hid (faultOf n0 = 0) := h0
    clear h0
    by_cases h1 : faultOf n3 = 0
    case neg =>
      obtain ⟨f, hff⟩ : ∃ f, faultOf n3 = f := ⟨_, rfl⟩
      have L1 : Hid (∀ w, Calls Tryz.prog 151 #[.int .i64 n3] w fun e w' => e = .returned (.int .i64 f) ∧ w' = w) := fun w => hff ▸ keyFault_any n3 w
      have E : Hid (scan (lockF S.l) S.nl = f) := by
        have : lockF S.l k = f := by
          unfold lockF
          rw [NN.out.1, NN.out.2.1, NN.out.2.2.1, NN.out.2.2.2.1, NN.out.2.2.2.2]
          rw [if_neg (fun h => h G0.out)]
          rw [if_pos h1]; exact hff
        exact (scan_stop HS.out (by rw [this, ← hff]; exact h1) hlt).trans this
      have hfn : (f == 0) = false := beq_eq_false_iff_ne.2 (by rw [← hff]; exact h1)
      clear hff h1 HS NN G0
      go_wp2_with fail
      refine (L0.out _).mono ?_
      rintro e w1 ⟨rfl, rfl⟩
      go_wp2_with fail
      refine (L1.out _).mono ?_
      rintro e w1 ⟨rfl, rfl⟩
      go_wp2
      go_ret
      exact ⟨by rw [E.out]; rfl, by first | exact hbw.alloc hbw.size _ | exact below_dn (hbw.alloc hbw.size _) _ | exact below_dn (below_dn (hbw.alloc hbw.size _) _) _⟩
    have L1 : Hid (∀ w, Calls Tryz.prog 151 #[.int .i64 n3] w fun e w' => e = .returned (.int .i64 0) ∧ w' = w) := fun w => h1 ▸ keyFault_any n3 w
    have G1 : Hid (faultOf n3 = 0) := h1
    clear h1
    by_cases h2 : 1 ≤ n1 ∧ n1 ≤ 100000
    case neg =>
      have L2 : Hid (decide (1 ≤ n1 ∧ n1 ≤ 100000) = false) := decide_eq_false h2
      have E : Hid (scan (lockF S.l) S.nl = 3) := by
        have : lockF S.l k = 3 := by
          unfold lockF
          rw [NN.out.1, NN.out.2.1, NN.out.2.2.1, NN.out.2.2.2.1, NN.out.2.2.2.2]
          rw [if_neg (fun h => h G0.out)]
          rw [if_neg (fun h => h G1.out)]
          rw [if_pos (by omega)]
        exact (scan_stop HS.out (by rw [this]; decide) hlt).trans this
      clear h2 HS NN G0 G1
      go_wp2_with fail
      refine (L0.out _).mono ?_
      rintro e w1 ⟨rfl, rfl⟩
      go_wp2_with fail
      refine (L1.out _).mono ?_
      rintro e w1 ⟨rfl, rfl⟩
      go_wp2_with fail
      refine (isTime_is _ false L2.out _).mono ?_
      rintro e w1 ⟨rfl, rfl⟩
      go_wp2
      go_ret
      exact ⟨by rw [E.out]; rfl, by first | exact hbw.alloc hbw.size _ | exact below_dn (hbw.alloc hbw.size _) _ | exact below_dn (below_dn (hbw.alloc hbw.size _) _) _⟩
    have L2 : Hid (decide (1 ≤ n1 ∧ n1 ≤ 100000) = true) := decide_eq_true h2
    have G2 : Hid (1 ≤ n1 ∧ n1 ≤ 100000) := h2
    clear h2
    by_cases h3 : 1 ≤ n2 ∧ n2 ≤ 3
    case neg =>
      have L3 : Hid (decide (1 ≤ n2 ∧ n2 ≤ 3) = false) := decide_eq_false h3
      have E : Hid (scan (lockF S.l) S.nl = 3) := by
        have : lockF S.l k = 3 := by
          unfold lockF
          rw [NN.out.1, NN.out.2.1, NN.out.2.2.1, NN.out.2.2.2.1, NN.out.2.2.2.2]
          rw [if_neg (fun h => h G0.out)]
          rw [if_neg (fun h => h G1.out)]
          rw [if_pos (by omega)]
        exact (scan_stop HS.out (by rw [this]; decide) hlt).trans this
      clear h3 HS NN G0 G1 G2
      go_wp2_with fail
      refine (L0.out _).mono ?_
      rintro e w1 ⟨rfl, rfl⟩
      go_wp2_with fail
      refine (L1.out _).mono ?_
      rintro e w1 ⟨rfl, rfl⟩
      go_wp2_with fail
      refine (isTime_is _ true L2.out _).mono ?_
      rintro e w1 ⟨rfl, rfl⟩
      go_wp2_with fail
      refine (isLockKind_is _ false L3.out _).mono ?_
      rintro e w1 ⟨rfl, rfl⟩
      go_wp2
      go_ret
      exact ⟨by rw [E.out]; rfl, by first | exact hbw.alloc hbw.size _ | exact below_dn (hbw.alloc hbw.size _) _ | exact below_dn (below_dn (hbw.alloc hbw.size _) _) _⟩
    have L3 : Hid (decide (1 ≤ n2 ∧ n2 ≤ 3) = true) := decide_eq_true h3
    have G3 : Hid (1 ≤ n2 ∧ n2 ≤ 3) := h3
    clear h3
    by_cases h4 : 0 ≤ n4 ∧ n4 ≤ 100000
    case neg =>
      have L4 : Hid (decide (0 ≤ n4 ∧ n4 ≤ 100000) = false) := decide_eq_false h4
      have E : Hid (scan (lockF S.l) S.nl = 3) := by
        have : lockF S.l k = 3 := by
          unfold lockF
          rw [NN.out.1, NN.out.2.1, NN.out.2.2.1, NN.out.2.2.2.1, NN.out.2.2.2.2]
          rw [if_neg (fun h => h G0.out)]
          rw [if_neg (fun h => h G1.out)]
          rw [if_pos (by omega)]
        exact (scan_stop HS.out (by rw [this]; decide) hlt).trans this
      clear h4 HS NN G0 G1 G2 G3
      go_wp2_with fail
      refine (L0.out _).mono ?_
      rintro e w1 ⟨rfl, rfl⟩
      go_wp2_with fail
      refine (L1.out _).mono ?_
      rintro e w1 ⟨rfl, rfl⟩
      go_wp2_with fail
      refine (isTime_is _ true L2.out _).mono ?_
      rintro e w1 ⟨rfl, rfl⟩
      go_wp2_with fail
      refine (isLockKind_is _ true L3.out _).mono ?_
      rintro e w1 ⟨rfl, rfl⟩
      go_wp2_with fail
      refine (isUntil_is _ false L4.out _).mono ?_
      rintro e w1 ⟨rfl, rfl⟩
      go_wp2
      go_ret
      exact ⟨by rw [E.out]; rfl, by first | exact hbw.alloc hbw.size _ | exact below_dn (hbw.alloc hbw.size _) _ | exact below_dn (below_dn (hbw.alloc hbw.size _) _) _⟩
    have L4 : Hid (decide (0 ≤ n4 ∧ n4 ≤ 100000) = true) := decide_eq_true h4
    have G4 : Hid (0 ≤ n4 ∧ n4 ≤ 100000) := h4
    clear h4
    rcases Nat.eq_zero_or_pos k with hk0 | hk0
    · have E : Hid (scan (lockF S.l) (k + 1) = 0) := by
        have : lockF S.l k = 0 := by
          unfold lockF
          rw [NN.out.1, NN.out.2.1, NN.out.2.2.1, NN.out.2.2.2.1, NN.out.2.2.2.2]
          rw [if_neg (fun h => h G0.out)]
          rw [if_neg (fun h => h G1.out)]
          have g2 := G2.out; have g3 := G3.out; have g4 := G4.out; rw [if_neg (by omega)]
          rw [if_neg (by omega)]
        exact scan_go HS.out this
      have dk : decide (0 < k) = false := decide_eq_false (by omega)
      clear HS NN G0 G1 G2 G3 G4 hk0
      go_wp2_with fail
      refine (L0.out _).mono ?_
      rintro e w1 ⟨rfl, rfl⟩
      go_wp2_with fail
      refine (L1.out _).mono ?_
      rintro e w1 ⟨rfl, rfl⟩
      go_wp2_with fail
      refine (isTime_is _ true L2.out _).mono ?_
      rintro e w1 ⟨rfl, rfl⟩
      go_wp2_with fail
      refine (isLockKind_is _ true L3.out _).mono ?_
      rintro e w1 ⟨rfl, rfl⟩
      go_wp2_with fail
      refine (isUntil_is _ true L4.out _).mono ?_
      rintro e w1 ⟨rfl, rfl⟩
      go_wp2_with fail
      go_quiet (fail)
      go_wp2
      go_roundw
      case rel => exact ⟨k + 1, by omega, by go_num, E, by first | exact hbw.alloc hbw.size _ | exact below_dn (hbw.alloc hbw.size _) _ | exact below_dn (below_dn (hbw.alloc hbw.size _) _) _⟩
      case measure => simp [intOf]; omega
    obtain ⟨g', o', he, _, _, y0, y1, y2, y3, y4⟩ := (H.out.later hbw).at5 (k := k - 1) (by omega)
    simp only [Option.some.injEq, Addr.mk.injEq, and_true] at he
    obtain ⟨rfl, rfl⟩ := he
    obtain ⟨m0, M0⟩ : ∃ x, S.l ((k - 1) * 5) = x := ⟨_, rfl⟩
    rw [M0] at y0
    obtain ⟨m1, M1⟩ : ∃ x, S.l ((k - 1) * 5 + 1) = x := ⟨_, rfl⟩
    rw [M1] at y1
    obtain ⟨m2, M2⟩ : ∃ x, S.l ((k - 1) * 5 + 2) = x := ⟨_, rfl⟩
    rw [M2] at y2
    obtain ⟨m3, M3⟩ : ∃ x, S.l ((k - 1) * 5 + 3) = x := ⟨_, rfl⟩
    rw [M3] at y3
    obtain ⟨m4, M4⟩ : ∃ x, S.l ((k - 1) * 5 + 4) = x := ⟨_, rfl⟩
    rw [M4] at y4
    have MM : Hid (S.l ((k - 1) * 5) = m0 ∧ S.l ((k - 1) * 5 + 1) = m1) := ⟨M0, M1⟩
    clear M0 M1 M2 M3 M4
    have dk : decide (0 < k) = true := decide_eq_true hk0
    have hwr := wrap_pred k hk0 (by omega)
    have hkn : ((k - 1 : Nat) : Int) < (S.nl : Int) := by omega
    obtain ⟨r, HR⟩ : ∃ r, Hid (cmpOf m0 n0 = r) := ⟨_, rfl⟩
    have HO : Hid (r < 0 ↔ m0 < n0) := by unfold Hid; rw [← HR.out]; exact cmpOf_neg _ _
    have h0 : PrevLock w g o k wr.heap.size m0 m1 m2 m3 m4 n0 n1 n2 n3 n4 (wr.alloc (.cells #[.int .i64 n0, .int .i64 n1, .int .i64 n2, .int .i64 n3, .int .i64 n4] 177)).drew := ⟨⟨(World.cell?_alloc_lt _ _ _ hg).trans y0, (World.cell?_alloc_lt _ _ _ hg).trans y1, (World.cell?_alloc_lt _ _ _ hg).trans y2, (World.cell?_alloc_lt _ _ _ hg).trans y3, (World.cell?_alloc_lt _ _ _ hg).trans y4, World.cell?_alloc_mark wr _ _ _ 0, World.cell?_alloc_mark wr _ _ _ 1, World.cell?_alloc_mark wr _ _ _ 2, World.cell?_alloc_mark wr _ _ _ 3, World.cell?_alloc_mark wr _ _ _ 4⟩, (hbw.alloc hbw.size _).drew⟩
    by_cases hr : 0 ≤ r
    · have E : Hid (scan (lockF S.l) S.nl = 1) := by
        have : lockF S.l k = 1 := by
          unfold lockF
          rw [NN.out.1, NN.out.2.1, NN.out.2.2.1, NN.out.2.2.2.1, NN.out.2.2.2.2]
          rw [if_neg (fun h => h G0.out)]
          rw [if_neg (fun h => h G1.out)]
          have g2 := G2.out; have g3 := G3.out; have g4 := G4.out; rw [if_neg (by omega)]
          rw [MM.out.1]
          have ho := HO.out
          rw [if_pos (by omega)]
        exact (scan_stop HS.out (by rw [this]; decide) hlt).trans this
      have dr : decide (0 ≤ r) = true := decide_eq_true hr
      clear HS NN G0 G1 G2 G3 G4 MM HO hr
      go_wp2_with fail
      refine (L0.out _).mono ?_
      rintro e w1 ⟨rfl, rfl⟩
      go_wp2_with fail
      refine (L1.out _).mono ?_
      rintro e w1 ⟨rfl, rfl⟩
      go_wp2_with fail
      refine (isTime_is _ true L2.out _).mono ?_
      rintro e w1 ⟨rfl, rfl⟩
      go_wp2_with fail
      refine (isLockKind_is _ true L3.out _).mono ?_
      rintro e w1 ⟨rfl, rfl⟩
      go_wp2_with fail
      refine (isUntil_is _ true L4.out _).mono ?_
      rintro e w1 ⟨rfl, rfl⟩
      go_wp2_with fail
      refine wp_region_held_drew (S := PrevLock w g o k wr.heap.size m0 m1 m2 m3 m4 n0 n1 n2 n3 n4) (by kernel_rfl) h0 (fun hS => ?_)
      clear h0
      refine tkH 0 ?_ hS (fun wx hx => ?_) ?_; rotate_left
      · obtain ⟨⟨hx0, hx1, hx2, hx3, hx4, hx5, hx6, hx7, hx8, hx9⟩, _⟩ := hx; go_simp; try with_reducible rfl
      refine tkH 1 ?_ hS (fun wx hx => ?_) ?_; rotate_left
      · obtain ⟨⟨hx0, hx1, hx2, hx3, hx4, hx5, hx6, hx7, hx8, hx9⟩, _⟩ := hx; go_simp; try with_reducible rfl
      refine tkH 2 ?_ hS (fun wx hx => ?_) ?_; rotate_left
      · obtain ⟨⟨hx0, hx1, hx2, hx3, hx4, hx5, hx6, hx7, hx8, hx9⟩, _⟩ := hx; go_simp; try with_reducible rfl
      refine tkH 3 ?_ hS (fun wx hx => ?_) ?_; rotate_left
      · obtain ⟨⟨hx0, hx1, hx2, hx3, hx4, hx5, hx6, hx7, hx8, hx9⟩, _⟩ := hx; go_simp; try with_reducible rfl
      refine tkH 4 ?_ hS (fun wx hx => ?_) ?_; rotate_left
      · obtain ⟨⟨hx0, hx1, hx2, hx3, hx4, hx5, hx6, hx7, hx8, hx9⟩, _⟩ := hx; go_simp; try with_reducible rfl
      refine tkH 5 ?_ hS (fun wx hx => ?_) ?_; rotate_left
      · obtain ⟨⟨hx0, hx1, hx2, hx3, hx4, hx5, hx6, hx7, hx8, hx9⟩, _⟩ := hx; go_simp; try with_reducible rfl
      refine tkH 6 ?_ hS (fun wx hx => ?_) ?_; rotate_left
      · obtain ⟨⟨hx0, hx1, hx2, hx3, hx4, hx5, hx6, hx7, hx8, hx9⟩, _⟩ := hx; go_simp; try with_reducible rfl
      refine tkH 7 ?_ hS (fun wx hx => ?_) ?_; rotate_left
      · obtain ⟨⟨hx0, hx1, hx2, hx3, hx4, hx5, hx6, hx7, hx8, hx9⟩, _⟩ := hx; go_simp; try with_reducible rfl
      refine tkH 8 ?_ hS (fun wx hx => ?_) ?_; rotate_left
      · obtain ⟨⟨hx0, hx1, hx2, hx3, hx4, hx5, hx6, hx7, hx8, hx9⟩, _⟩ := hx; go_simp; try with_reducible rfl
      refine rdH 9 (fun K hK => ?_)
      go_simp
      go_wp2_with fail
      refine (compareLocks_is _ _ _ _ _ _ _ _ _ _ r HR.out _).mono ?_
      rintro e w1 ⟨rfl, q1⟩
      have hS' := hS.later q1
      clear q1
      go_wp2_with fail
      refine hK.out _ _ hS' (fun hS => ?_)
      clear hK K hS'
      refine tkH 10 ?_ hS (fun wx hx => ?_) ?_; rotate_left
      · obtain ⟨⟨hx0, hx1, hx2, hx3, hx4, hx5, hx6, hx7, hx8, hx9⟩, _⟩ := hx; go_simp; try with_reducible rfl
      refine tkH 11 ?_ hS (fun wx hx => ?_) ?_; rotate_left
      · obtain ⟨⟨hx0, hx1, hx2, hx3, hx4, hx5, hx6, hx7, hx8, hx9⟩, _⟩ := hx; go_simp; try with_reducible rfl
      refine wpAnyH_done (by kernel_rfl) ?_ _
      go_simp
      go_wp2
      go_ret
      exact ⟨by rw [E.out]; rfl, hS.2⟩
    · have E : Hid (scan (lockF S.l) (k + 1) = 0) := by
        have : lockF S.l k = 0 := by
          unfold lockF
          rw [NN.out.1, NN.out.2.1, NN.out.2.2.1, NN.out.2.2.2.1, NN.out.2.2.2.2]
          rw [if_neg (fun h => h G0.out)]
          rw [if_neg (fun h => h G1.out)]
          have g2 := G2.out; have g3 := G3.out; have g4 := G4.out; rw [if_neg (by omega)]
          rw [MM.out.1]
          have ho := HO.out
          rw [if_neg (by omega)]
        exact scan_go HS.out this
      have dr : decide (0 ≤ r) = false := decide_eq_false hr
      clear HS NN G0 G1 G2 G3 G4 MM HO hr
      go_wp2_with fail
      refine (L0.out _).mono ?_
      rintro e w1 ⟨rfl, rfl⟩
      go_wp2_with fail
      refine (L1.out _).mono ?_
      rintro e w1 ⟨rfl, rfl⟩
      go_wp2_with fail
      refine (isTime_is _ true L2.out _).mono ?_
      rintro e w1 ⟨rfl, rfl⟩
      go_wp2_with fail
      refine (isLockKind_is _ true L3.out _).mono ?_
      rintro e w1 ⟨rfl, rfl⟩
      go_wp2_with fail
      refine (isUntil_is _ true L4.out _).mono ?_
      rintro e w1 ⟨rfl, rfl⟩
      go_wp2_with fail
      refine wp_region_held_drew (S := PrevLock w g o k wr.heap.size m0 m1 m2 m3 m4 n0 n1 n2 n3 n4) (by kernel_rfl) h0 (fun hS => ?_)
      clear h0
      refine tkH 0 ?_ hS (fun wx hx => ?_) ?_; rotate_left
      · obtain ⟨⟨hx0, hx1, hx2, hx3, hx4, hx5, hx6, hx7, hx8, hx9⟩, _⟩ := hx; go_simp; try with_reducible rfl
      refine tkH 1 ?_ hS (fun wx hx => ?_) ?_; rotate_left
      · obtain ⟨⟨hx0, hx1, hx2, hx3, hx4, hx5, hx6, hx7, hx8, hx9⟩, _⟩ := hx; go_simp; try with_reducible rfl
      refine tkH 2 ?_ hS (fun wx hx => ?_) ?_; rotate_left
      · obtain ⟨⟨hx0, hx1, hx2, hx3, hx4, hx5, hx6, hx7, hx8, hx9⟩, _⟩ := hx; go_simp; try with_reducible rfl
      refine tkH 3 ?_ hS (fun wx hx => ?_) ?_; rotate_left
      · obtain ⟨⟨hx0, hx1, hx2, hx3, hx4, hx5, hx6, hx7, hx8, hx9⟩, _⟩ := hx; go_simp; try with_reducible rfl
      refine tkH 4 ?_ hS (fun wx hx => ?_) ?_; rotate_left
      · obtain ⟨⟨hx0, hx1, hx2, hx3, hx4, hx5, hx6, hx7, hx8, hx9⟩, _⟩ := hx; go_simp; try with_reducible rfl
      refine tkH 5 ?_ hS (fun wx hx => ?_) ?_; rotate_left
      · obtain ⟨⟨hx0, hx1, hx2, hx3, hx4, hx5, hx6, hx7, hx8, hx9⟩, _⟩ := hx; go_simp; try with_reducible rfl
      refine tkH 6 ?_ hS (fun wx hx => ?_) ?_; rotate_left
      · obtain ⟨⟨hx0, hx1, hx2, hx3, hx4, hx5, hx6, hx7, hx8, hx9⟩, _⟩ := hx; go_simp; try with_reducible rfl
      refine tkH 7 ?_ hS (fun wx hx => ?_) ?_; rotate_left
      · obtain ⟨⟨hx0, hx1, hx2, hx3, hx4, hx5, hx6, hx7, hx8, hx9⟩, _⟩ := hx; go_simp; try with_reducible rfl
      refine tkH 8 ?_ hS (fun wx hx => ?_) ?_; rotate_left
      · obtain ⟨⟨hx0, hx1, hx2, hx3, hx4, hx5, hx6, hx7, hx8, hx9⟩, _⟩ := hx; go_simp; try with_reducible rfl
      refine rdH 9 (fun K hK => ?_)
      go_simp
      go_wp2_with fail
      refine (compareLocks_is _ _ _ _ _ _ _ _ _ _ r HR.out _).mono ?_
      rintro e w1 ⟨rfl, q1⟩
      have hS' := hS.later q1
      clear q1
      go_wp2_with fail
      refine hK.out _ _ hS' (fun hS => ?_)
      clear hK K hS'
      refine tkH 10 ?_ hS (fun wx hx => ?_) ?_; rotate_left
      · obtain ⟨⟨hx0, hx1, hx2, hx3, hx4, hx5, hx6, hx7, hx8, hx9⟩, _⟩ := hx; go_simp; try with_reducible rfl
      refine tkH 11 ?_ hS (fun wx hx => ?_) ?_; rotate_left
      · obtain ⟨⟨hx0, hx1, hx2, hx3, hx4, hx5, hx6, hx7, hx8, hx9⟩, _⟩ := hx; go_simp; try with_reducible rfl
      refine wpAnyH_done (by kernel_rfl) ?_ _
      go_simp
      go_wp2
      go_roundw
      case rel => exact ⟨k + 1, by omega, by go_num, E, hS.2⟩
      case measure => simp [intOf]; omega

end Go.Proofs.YtpfmifpjmcmlaaaGreat

namespace Go.Proofs.YtpfmifpjmcmlaaaGreat
open Go.RowKit Go.Maps

theorem laid_out : laidOutB Tryz.prog = true := by kernel_rfl
theorem placeKeyed : Keyed Tryz.prog 224 := Keyed.of_law (deep_law_laid laid_out (m := 3) (by omega) (of_decide_eq_true (by kernel_rfl)) (by kernel_rfl) (by kernel_rfl))
def Wf (a : Int) : Prop := (Lit.int .i64 a).wf = true
theorem wf_small {a : Int} (h0 : 0 ≤ a) (h1 : a ≤ 100000) : Wf a := by
  have e0 : IntKind.i64.min = -9223372036854775808 := by decide
  have e1 : IntKind.i64.max = 9223372036854775807 := by decide
  unfold Wf
  simp [Lit.wf, e0, e1]
  omega
def place (a b : Int) : Value := .agg #[.int .i64 a, .int .i64 b]
def kp (a b : Int) : Lit := .string (keyBytes [.int .i64 a, .int .i64 b])
theorem kp_key (a b : Int) : WideAt.IsKeyLit (kp a b) := trivial
theorem keyOf_place {a b : Int} (ha : Wf a) (hb : Wf b) : keyOf Tryz.prog 224 (.agg #[.int .i64 a, .int .i64 b]) = some (kp a b) := by
  have h1 : Tryz.prog.keyType 224 = true := by kernel_rfl
  have h2 : Tryz.prog.cellsOf 224 = 2 := by kernel_rfl
  have h3 : Tryz.prog.cellsOf 2 = 1 := by kernel_rfl
  have h4 : ∃ m, Tryz.prog.types.size = m + 1 := ⟨Tryz.prog.types.size - 1, by kernel_rfl⟩
  obtain ⟨m, h4⟩ := h4
  unfold Wf at ha hb
  unfold keyOf
  simp only [Tryz.underlying224]
  rw [if_pos (by simp [h1, Value.formed, Tryz.underlying224, h2]), h4]
  unfold Program.keyLits
  simp only [Tryz.underlying224, Value.cells]
  rw [if_pos (by rw [h2]; exact ⟨rfl, by kernel_rfl⟩)]
  simp [Program.keyLits, Tryz.underlying2, h3, ha, hb, kp]
theorem kp_inj {a b c d : Int} (ha : Wf a) (hb : Wf b) (hc : Wf c) (hd : Wf d) (h : kp a b = kp c d) : a = c ∧ b = d := by
  have := placeKeyed.inj (keyOf_place ha hb) (by rw [h]; exact keyOf_place hc hd)
  simpa using this
/-- Block b is a map of at most n entries; it has m a b at the key (a, b). -/
def PM (w : World) (b n : Nat) (m : Int → Int → Option Int) : Prop :=
  ∃ D : DataW Unit, w.ownsMap Tryz.prog 224 (plainElem Tryz.prog 2) b n D ∧ ∀ x y, Wf x → Wf y → Maps.has D (kp x y) = (m x y).isSome ∧ D.atKey (kp x y) (.lit (.int .i64 0)) = .lit (.int .i64 ((m x y).getD 0))
theorem PM.made (w : World) : PM (w.alloc (.map #[] 0)) w.heap.size 0 (fun _ _ => none) := ⟨.map [], World.ownsMap_made w _ _ _, fun _ _ _ _ => ⟨rfl, rfl⟩⟩
theorem PM.lt {w : World} {b n : Nat} {m : Int → Int → Option Int} (h : PM w b n m) : b < w.heap.size := by
  obtain ⟨D, h, _⟩ := h; exact h.lt
theorem PM.mono {w : World} {b n n' : Nat} {m : Int → Int → Option Int} (h : PM w b n m) (hn : n ≤ n') : PM w b n' m := by
  obtain ⟨D, h, r⟩ := h; exact ⟨D, h.mono hn, r⟩
theorem PM.kept {w w' : World} {b n : Nat} {m : Int → Int → Option Int} (h : PM w b n m) (hb : w'.heap[b]? = w.heap[b]?) : PM w' b n m := by
  obtain ⟨D, ⟨es, clock, h1, h2⟩, r⟩ := h
  exact ⟨D, ⟨es, clock, hb.trans h1, h2⟩, r⟩
theorem PM.later {w w' : World} {b n : Nat} {m : Int → Int → Option Int} (h : PM w b n m) (hb : Below w.heap.size w w') : PM w' b n m := h.kept (hb.block b h.lt)
theorem PM.alloc {w : World} {b n : Nat} {m : Int → Int → Option Int} (h : PM w b n m) (o : Obj) : PM (w.alloc o) b n m := h.later ((Below.refl _ _).alloc (Nat.le_refl _) o)
theorem PM.setCell {w : World} {b n : Nat} {m : Int → Int → Option Int} (h : PM w b n m) {a : Addr} (ha : b ≠ a.block) (u : Value) : PM (w.setCell a u) b n m := h.kept (Below.heap_setCell w a u b ha)
theorem PM.congr {w : World} {b n : Nat} {m m' : Int → Int → Option Int} (h : PM w b n m) (e : ∀ x y, m x y = m' x y) : PM w b n m' := by
  obtain ⟨D, h1, r⟩ := h; exact ⟨D, h1, fun x y hx hy => by rw [← e]; exact r x y hx hy⟩
theorem zero_i64 (w : World) : (zeroValue 2).run Tryz.prog w = .ok (.int .i64 0) w := by kernel_rfl
/-- 'v, ok := m[k]'. -/
theorem PM.look {w : World} {b n : Nat} {m : Int → Int → Option Int} (h : PM w b n m) {x y : Int} (hx : Wf x) (hy : Wf y) :
    (Instr.lookup 189 (.map (some b)) (.agg #[.int .i64 x, .int .i64 y]) true).run Tryz.prog w = .ok (.tuple #[.int .i64 ((m x y).getD 0), .bool (m x y).isSome]) w := by
  obtain ⟨D, h, r⟩ := h
  obtain ⟨v, ps, hrun, hv⟩ := h.look_ok placeKeyed Tryz.underlying189 (zero_i64 w) (plainElem_int Tryz.underlying2 (by decide)) (keyOf_place hx hy)
  obtain ⟨c, rfl, hc, _⟩ := plainElem_int_inv Tryz.underlying2 hv
  rw [hrun, (r x y hx hy).1]
  have := congrArg Prod.fst hc
  rw [(r x y hx hy).2] at this
  simp at this
  rw [this]
def putM (m : Int → Int → Option Int) (a b v : Int) (x y : Int) : Option Int := if x = a ∧ y = b then some v else m x y
/-- 'm[k] = v'. -/
theorem PM.put {w : World} {b n : Nat} {m : Int → Int → Option Int} (h : PM w b n m) (hn : n < maxLen) {x y v : Int} (hx : Wf x) (hy : Wf y) (hv : Wf v) :
    ∃ w', (Instr.mapUpdate 189 (.map (some b)) (.agg #[.int .i64 x, .int .i64 y]) (.int .i64 v)).run Tryz.prog w = .ok () w' ∧ PM w' b (n + 1) (putM m x y v) ∧ w.grownBy w' (some b) := by
  obtain ⟨D, h, r⟩ := h
  obtain ⟨w', hrun, h', hg⟩ := h.update placeKeyed Tryz.underlying189 hn (keyOf_place hx hy) (plainElem_int Tryz.underlying2 hv)
  refine ⟨w', hrun, ⟨_, h', fun p q hp hq => ?_⟩, hg⟩
  unfold putM
  by_cases e : p = x ∧ q = y
  · obtain ⟨rfl, rfl⟩ := e
    rw [if_pos ⟨rfl, rfl⟩]
    exact ⟨has_put_same h.isMap (kp_key _ _) _, atKey_put_same h.isMap (kp_key _ _) _ _⟩
  · rw [if_neg e, has_put_other (fun q => e (kp_inj hp hq hx hy q)), atKey_put_other (fun q => e (kp_inj hp hq hx hy q))]
    exact r p q hp hq
theorem wpList_put (w : World) {ops : Array Oper} {rest : List Oper} {o : Oper} {a : Act} {Q : Exit → Act → World → Prop}
    (hg : o.guard = none) (mo x v : Operand) (hop : o.op = Op.mapUpdate 189 mo x v)
    (b n : Nat) (m : Int → Int → Option Int) (hm : a.eval mo = .map (some b)) (h : PM w b n m) (hn : n < maxLen) (p q u : Int) (hx : a.eval x = .agg #[.int .i64 p, .int .i64 q]) (hv : a.eval v = .int .i64 u) (hp : Wf p) (hq : Wf q) (hu : Wf u)
    (hK : ∀ w', PM w' b (n + 1) (putM m p q u) → w.grownBy w' (some b) → wpList Tryz.prog ops Q rest (a.put o.dst undef) w') :
    wpList Tryz.prog ops Q (o :: rest) a w := by
  refine wpList_plain hg fun K' hK' => ?_
  obtain ⟨w', hrun, r1, r2⟩ := h.put hn hp hq hu
  unfold Oper.wp
  simp [execOp, hop, hm, hx, hv, hrun, Result.andThen]
  exact hK' _ _ (hK w' r1 r2)
/-- What a map has behind n puts, put i at (p i, q i), of v i. -/
def puts (p q v : Nat → Int) : Nat → Int → Int → Option Int
  | 0, _, _ => none
  | n + 1, x, y => putM (puts p q v n) (p n) (q n) (v n) x y
theorem puts_has (p q v : Nat → Int) (x y : Int) : ∀ n, (puts p q v n x y).isSome = true ↔ ∃ i, i < n ∧ p i = x ∧ q i = y
  | 0 => by simp [puts]
  | n + 1 => by
    have ih := puts_has p q v x y n
    unfold puts putM
    by_cases e : x = p n ∧ y = q n
    · rw [if_pos e]
      exact ⟨fun _ => ⟨n, by omega, e.1.symm, e.2.symm⟩, fun _ => rfl⟩
    · rw [if_neg e, ih]
      constructor
      · rintro ⟨i, hi, h⟩; exact ⟨i, by omega, h⟩
      · rintro ⟨i, hi, h1, h2⟩
        by_cases hin : i = n
        · subst hin; exact absurd ⟨h1.symm, h2.symm⟩ e
        · exact ⟨i, by omega, h1, h2⟩
def cellM (S : Sto) (n : Nat) : Int → Int → Option Int := puts (fun i => S.c (i * 3)) (fun i => S.c (i * 3 + 1)) (fun i => S.c (i * 3 + 2)) n
def writeM (S : Sto) (n : Nat) : Int → Int → Option Int := puts (fun i => S.k (i * 4)) (fun i => S.k (i * 4 + 2)) (fun i => S.k (i * 4 + 3)) n
theorem cellM_has (S : Sto) (n : Nat) (x y : Int) : (cellM S n x y).isSome = true ↔ hasCell S n x y := puts_has _ _ _ x y n
theorem writeM_has (S : Sto) (n : Nat) (x y : Int) : (writeM S n x y).isSome = true ↔ hasWrite S n x y := puts_has _ _ _ x y n
end Go.Proofs.YtpfmifpjmcmlaaaGreat

namespace Go.Proofs.YtpfmifpjmcmlaaaGreat
open Go.RowKit Go.Maps

theorem scan_zero {g : Nat → Int} : ∀ {n : Nat}, scan g n = 0 → ∀ i, i < n → g i = 0
  | 0, _, i, hi => by omega
  | n + 1, h, i, hi => by
    unfold scan at h
    by_cases e : scan g n = 0
    · rw [if_pos e] at h
      by_cases hin : i = n
      · subst hin; exact h
      · exact scan_zero e i (by omega)
    · rw [if_neg e] at h; exact absurd h e
theorem faultOf_zero {a : Int} (h : faultOf a = 0) : 0 ≤ a ∧ a ≤ 199 := by
  by_cases e : a < 0 ∨ 199 < a
  · rw [faultOf_range e] at h; exact absurd h (by decide)
  · omega
theorem cellF_zero {c : Nat → Int} {i : Nat} (h : cellF c i = 0) : faultOf (c (i * 3)) = 0 ∧ 1 ≤ c (i * 3 + 1) ∧ c (i * 3 + 1) ≤ 100000 ∧ 0 ≤ c (i * 3 + 2) ∧ c (i * 3 + 2) ≤ 9999 := by
  unfold cellF at h
  by_cases h0 : faultOf (c (i * 3)) = 0
  · rw [if_neg (fun q => q h0)] at h
    refine ⟨h0, ?_⟩
    by_cases h1 : 1 ≤ c (i * 3 + 1) ∧ c (i * 3 + 1) ≤ 100000 ∧ 0 ≤ c (i * 3 + 2) ∧ c (i * 3 + 2) ≤ 9999
    · exact h1
    · rw [if_pos h1] at h; exact absurd h (by decide)
  · rw [if_pos h0] at h; exact absurd h h0
theorem lockF_zero {l : Nat → Int} {i : Nat} (h : lockF l i = 0) : faultOf (l (i * 5)) = 0 ∧ 1 ≤ l (i * 5 + 1) ∧ l (i * 5 + 1) ≤ 100000 := by
  unfold lockF at h
  by_cases h0 : faultOf (l (i * 5)) = 0
  · rw [if_neg (fun q => q h0)] at h
    refine ⟨h0, ?_⟩
    by_cases h2 : faultOf (l (i * 5 + 3)) = 0
    · rw [if_neg (fun q => q h2)] at h
      by_cases h1 : 1 ≤ l (i * 5 + 1) ∧ l (i * 5 + 1) ≤ 100000 ∧ 1 ≤ l (i * 5 + 2) ∧ l (i * 5 + 2) ≤ 3 ∧ 0 ≤ l (i * 5 + 4) ∧ l (i * 5 + 4) ≤ 100000
      · exact ⟨h1.1, h1.2.1⟩
      · rw [if_pos h1] at h; exact absurd h (by decide)
    · rw [if_pos h2] at h; exact absurd h h2
  · rw [if_pos h0] at h; exact absurd h h0
theorem writeF_zero {k : Nat → Int} {i : Nat} (h : writeF k i = 0) : faultOf (k (i * 4)) = 0 ∧ 1 ≤ k (i * 4 + 1) ∧ k (i * 4 + 1) ≤ 100000 ∧ 1 ≤ k (i * 4 + 2) ∧ k (i * 4 + 2) ≤ 100000 ∧ 1 ≤ k (i * 4 + 3) ∧ k (i * 4 + 3) ≤ 4 := by
  unfold writeF at h
  by_cases h0 : faultOf (k (i * 4)) = 0
  · rw [if_neg (fun q => q h0)] at h
    refine ⟨h0, ?_⟩
    by_cases h1 : 1 ≤ k (i * 4 + 1) ∧ k (i * 4 + 1) ≤ 100000 ∧ 1 ≤ k (i * 4 + 2) ∧ k (i * 4 + 2) ≤ 100000 ∧ 1 ≤ k (i * 4 + 3) ∧ k (i * 4 + 3) ≤ 4
    · exact h1
    · rw [if_pos h1] at h; exact absurd h (by decide)
  · rw [if_pos h0] at h; exact absurd h h0
theorem below_grown {B b : Nat} {w x x' : World} (h : Below B w x) (hB : B ≤ x.heap.size) (hb : B ≤ b) (g : x.grownBy x' (some b)) : Below B w x' :=
  ⟨g.os.trans h.os, g.tape.trans h.tape, g.output.trans h.output, Nat.le_trans h.size g.size, fun i hi => (g.block i (by omega) (by intro e; injection e with e; omega)).trans (h.block i hi)⟩
theorem run_makeMap_i64 (n : Int) (w : World) : (Instr.makeMap 189 (some (.int .i64 n))).run Tryz.prog w = .ok (.map (some w.heap.size)) (w.alloc (.map #[] 0)) := by
  simp [Instr.makeMap, run_underlying Tryz.underlying189, asInt, asIntOf, Result.andThen]
theorem small_maxLen {n : Nat} (h : n ≤ 200) : n < maxLen := Nat.lt_of_le_of_lt h (by decide)
set_option maxRecDepth 100000 in
theorem cellsByPlace_any (S : Sto) (v : Value) (B : Nat) (w : World) (h : Row w B 3 S.nc S.c v) (hn : S.nc ≤ 200) (hz : scan (cellF S.c) S.nc = 0) :
    Calls Tryz.prog 158 #[v] w fun e w' => e = .returned (.map (some w.heap.size)) ∧ PM w' w.heap.size S.nc (cellM S S.nc) ∧ Below w.heap.size w w' := by
  obtain ⟨ao, cp, rfl⟩ := h.form
  have H : Hid (Row w B 3 S.nc S.c (.slice ao S.nc cp)) := h
  have HZ : Hid (∀ i, i < S.nc → cellF S.c i = 0) := scan_zero hz
  clear h hz
  have hmm := run_makeMap_i64
  go_enter Tryz.func158, Tryz.ntmps158
  go_wp2
  go_loopw [11] (fun i wr => ∃ k : Nat, k ≤ S.nc ∧ i = .int .i64 k ∧ Hid (PM wr w.heap.size k (cellM S k)) ∧ Below w.heap.size w wr) (fun i _ => S.nc - (intOf i).toNat)
  case atStart => exact ⟨0, Nat.zero_le _, rfl, PM.made w, below_alloc _ _⟩
  case round =>
    obtain ⟨k, hk, rfl, HM, hbw⟩ := hrel
    by_cases hlt : k < S.nc
    case neg =>
      obtain rfl : k = S.nc := by omega
      go_wp2
      go_ret
      exact ⟨rfl, HM.out, hbw⟩
    obtain ⟨g, o, rfl, _, hg, x0, x1, x2⟩ := (H.out.later hbw).at3 hlt
    have HC := cellF_zero (HZ.out k hlt)
    have hk2 := faultOf_zero HC.1
    obtain ⟨n0, N0⟩ : ∃ x, S.c (k * 3) = x := ⟨_, rfl⟩
    obtain ⟨n1, N1⟩ : ∃ x, S.c (k * 3 + 1) = x := ⟨_, rfl⟩
    obtain ⟨n2, N2⟩ : ∃ x, S.c (k * 3 + 2) = x := ⟨_, rfl⟩
    rw [N0] at x0 hk2
    rw [N1] at x1
    rw [N2] at x2
    rw [N1, N2] at HC
    have hP := HM.out.alloc (.cells #[.int .i64 n0, .int .i64 n1, .int .i64 n2] 173)
    have hw0 : Wf n0 := wf_small hk2.1 (by omega)
    have hw1 : Wf n1 := wf_small (by omega) HC.2.2.1
    have hw2 : Wf n2 := wf_small HC.2.2.2.1 (by omega)
    have hb2 := hbw.alloc hbw.size (.cells #[.int .i64 n0, .int .i64 n1, .int .i64 n2] 173)
    have NN : Hid (S.c (k * 3) = n0 ∧ S.c (k * 3 + 1) = n1 ∧ S.c (k * 3 + 2) = n2) := ⟨N0, N1, N2⟩
    clear N0 N1 N2 HC hk2
    go_wp2_with (first | (at_mapUpdate; refine wpList_put _ rfl _ _ _ rfl w.heap.size k _ rfl hP (small_maxLen (Nat.le_trans hk hn)) n0 n1 n2 rfl rfl hw0 hw1 hw2 ?_; intro w1 hP1 hg1) | go_in)
    go_roundw
    case rel => exact ⟨k + 1, by omega, by go_num, by rw [← NN.out.1, ← NN.out.2.1, ← NN.out.2.2] at hP1; exact hP1, below_grown hb2 (Nat.le_trans hbw.size (by simp)) (Nat.le_refl _) hg1⟩
    case measure => simp [intOf]; omega
end Go.Proofs.YtpfmifpjmcmlaaaGreat

