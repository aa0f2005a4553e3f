/-
  Own text. A part of a store, as plain lists of numbers; a row of structs that a call has made, as a list.
-/
import Derived.Test.YtpfmbfmlpoibeaaGreatColsZ
import Derived.Test.YtpfmbfmlpoibeaaGreatLawT
namespace Go.Proofs.YtpfmbfmlpoibeaaGreat
open Go.RowKit

/-- The numbers of the structs (m numbers each) among the first k whose first number lies from a to b. -/
def keepL (F : Nat → Int) (m : Nat) (a b : Int) : Nat → List Int
  | 0 => []
  | k + 1 => keepL F m a b k ++ (if a ≤ F (k * m) ∧ F (k * m) ≤ b then (List.range m).map (fun q => F (k * m + q)) else [])
def keepN (F : Nat → Int) (m : Nat) (a b : Int) : Nat → Nat
  | 0 => 0
  | k + 1 => keepN F m a b k + (if a ≤ F (k * m) ∧ F (k * m) ≤ b then 1 else 0)
theorem keep_yes {F : Nat → Int} {m : Nat} {a b : Int} {k : Nat} (h : a ≤ F (k * m) ∧ F (k * m) ≤ b) : keepL F m a b (k + 1) = keepL F m a b k ++ (List.range m).map (fun q => F (k * m + q)) ∧ keepN F m a b (k + 1) = keepN F m a b k + 1 := by
  rw [keepL, keepN, if_pos h, if_pos h]
  exact ⟨rfl, rfl⟩
theorem keep_no {F : Nat → Int} {m : Nat} {a b : Int} {k : Nat} (h : ¬ (a ≤ F (k * m) ∧ F (k * m) ≤ b)) : keepL F m a b (k + 1) = keepL F m a b k ∧ keepN F m a b (k + 1) = keepN F m a b k := by
  rw [keepL, keepN, if_neg h, if_neg h]
  exact ⟨List.append_nil _, rfl⟩
theorem keep_length (F : Nat → Int) (m : Nat) (a b : Int) : ∀ k, (keepL F m a b k).length = keepN F m a b k * m
  | 0 => by simp [keepL, keepN]
  | k + 1 => by
    have ih := keep_length F m a b k
    by_cases h : a ≤ F (k * m) ∧ F (k * m) ≤ b
    · rw [(keep_yes h).1, (keep_yes h).2, List.length_append, ih, List.length_map, List.length_range, Nat.succ_mul]
    · rw [(keep_no h).1, (keep_no h).2, ih]
theorem keep_le (F : Nat → Int) (m : Nat) (a b : Int) : ∀ k, keepN F m a b k ≤ k
  | 0 => Nat.le_refl _
  | k + 1 => by
    have ih := keep_le F m a b k
    by_cases h : a ≤ F (k * m) ∧ F (k * m) ≤ b
    · rw [(keep_yes h).2]; omega
    · rw [(keep_no h).2]; omega
def keepF (F : Nat → Int) (m : Nat) (a b : Int) (k : Nat) : Nat → Int := fun p => (keepL F m a b k).getD p 0
/-- The part of a store from fr on below to. -/
def partS (S : Sto) (fr to : Int) : Sto := ⟨keepN S.c 3 fr (to - 1) S.nc, keepF S.c 3 fr (to - 1) S.nc, keepN S.l 5 fr (to - 1) S.nl, keepF S.l 5 fr (to - 1) S.nl, keepN S.k 4 fr (to - 1) S.nw, keepF S.k 4 fr (to - 1) S.nw⟩
/-- A row that a call has made and has done with: its block lies from lo on below hi. -/
def Done (x : World) (lo hi m n : Nat) (F : Nat → Int) (u : Value) : Prop := (Row x lo m n F u ∧ Free x (n * m) u) ∧ (0 < n → ∀ k, u.ownBlock = some k → k < hi)
theorem OwnM.done {w : World} {B : Nat} {e : TypeId} {m : Nat} {v : Value} {n : Nat} {L : List Int} (h : OwnM w B e m v n L) (hl : L.length = n * m) : Done w B w.heap.size m n (fun p => L.getD p 0) v := ⟨(h.own hl).row, fun _ k hk => (h.block k hk).2⟩
theorem Done.within {x x' : World} {lo hi m n B E : Nat} {F : Nat → Int} {u : Value} (h : Done x lo hi m n F u) (hw : Within B E x x') (hB : hi ≤ B) : Done x' lo hi m n F u :=
  ⟨⟨h.1.1.within hw (fun h0 k hk => Or.inl (Nat.lt_of_lt_of_le (h.2 h0 k hk) hB)), h.1.2.within h.1.1 hw (fun h0 k hk => Or.inl (Nat.lt_of_lt_of_le (h.2 h0 k hk) hB))⟩, h.2⟩
theorem Done.later {x x' : World} {lo hi m n : Nat} {F : Nat → Int} {u : Value} (h : Done x lo hi m n F u) (hb : Below x.heap.size x x') : Done x' lo hi m n F u := h.within (Within.grow (B := hi) (E := hi) hb) (Nat.le_refl _)
theorem Done.far {x : World} {lo hi m n : Nat} {F : Nat → Int} {u : Value} (h : Done x lo hi m n F u) {a : Addr} (ha : a.block < lo) (v : Value) : Done (x.setCell a v) lo hi m n F u := ⟨⟨h.1.1.far (Or.inl ha) v, h.1.2.far a v⟩, h.2⟩
theorem Done.mono {x : World} {lo hi lo' hi' m n : Nat} {F : Nat → Int} {u : Value} (h : Done x lo hi m n F u) (h1 : lo' ≤ lo) (h2 : hi ≤ hi') : Done x lo' hi' m n F u := ⟨⟨h.1.1.mono h1, h.1.2⟩, fun h0 k hk => Nat.lt_of_lt_of_le (h.2 h0 k hk) h2⟩
/-- What the model's part stands on: its result (the first block), the store that it makes (the second). -/
def PartEnv (w : World) (u0 u1 u2 : Value) (x : World) : Prop := Blk3 x w.heap.size (.slice none 0 0) (.slice none 0 0) (.slice none 0 0) ∧ Blk3 x (w.heap.size + 1) u0 u1 u2 ∧ Below w.heap.size w x
theorem PartEnv.later {w x x' : World} {u0 u1 u2 : Value} (h : PartEnv w u0 u1 u2 x) (hb : Below x.heap.size x x') : PartEnv w u0 u1 u2 x' := ⟨h.1.later hb, h.2.1.later hb, h.2.2.trans (hb.mono h.2.2.size)⟩
theorem PartEnv.within {w x x' : World} {u0 u1 u2 : Value} {B E : Nat} (h : PartEnv w u0 u1 u2 x) (hw : Within B E x x') (hB : w.heap.size + 2 ≤ B) : PartEnv w u0 u1 u2 x' := ⟨h.1.within hw (Or.inl (by omega)), h.2.1.within hw (Or.inl (by omega)), hw.below h.2.2 (by omega)⟩
theorem PartEnv.set0 {w x : World} {u0 u1 u2 : Value} (h : PartEnv w u0 u1 u2 x) (u : Value) : PartEnv w u u1 u2 (x.setCell ⟨w.heap.size + 1, 0, none⟩ u) := ⟨h.1.setFar (by simp) _, h.2.1.set0 _, h.2.2.setCell (by simp) _⟩
theorem PartEnv.set1 {w x : World} {u0 u1 u2 : Value} (h : PartEnv w u0 u1 u2 x) (u : Value) : PartEnv w u0 u u2 (x.setCell ⟨w.heap.size + 1, 1, none⟩ u) := ⟨h.1.setFar (by simp) _, h.2.1.set1 _, h.2.2.setCell (by simp) _⟩
theorem PartEnv.set2 {w x : World} {u0 u1 u2 : Value} (h : PartEnv w u0 u1 u2 x) (u : Value) : PartEnv w u0 u1 u (x.setCell ⟨w.heap.size + 1, 2, none⟩ u) := ⟨h.1.setFar (by simp) _, h.2.1.set2 _, h.2.2.setCell (by simp) _⟩
/-- D speaks of what lies below Z, and of no block of the part's own two. -/
structure Stays (w : World) (Z : Nat) (D : World → Prop) : Prop where
  lo : w.heap.size + 2 ≤ Z
  within : ∀ x x' E, D x → Within Z E x x' → D x'
  far : ∀ x a u, D x → a.block < w.heap.size + 2 → D (x.setCell a u)
/-- What a loop of the part stands on: the store that it makes, what is done, and the row under way. -/
def Mak (w : World) (Z : Nat) (D : World → Prop) (T : TypeId) (m : Nat) (u0 u1 u2 v : Value) (n : Nat) (L : List Int) (x : World) : Prop := PartEnv w u0 u1 u2 x ∧ D x ∧ OwnM x Z T m v n L
theorem Mak.later {w x x' : World} {Z : Nat} {D : World → Prop} {T : TypeId} {m : Nat} {u0 u1 u2 v : Value} {n : Nat} {L : List Int} (h : Mak w Z D T m u0 u1 u2 v n L x) (hs : Stays w Z D) (hb : Below x.heap.size x x') : Mak w Z D T m u0 u1 u2 v n L x' := ⟨h.1.later hb, hs.within x x' Z h.2.1 (Within.grow hb), h.2.2.later hb⟩
theorem Mak.step {w x x' : World} {Z : Nat} {D : World → Prop} {T : TypeId} {m : Nat} {u0 u1 u2 v v' : Value} {n n' : Nat} {L L' : List Int} (h : Mak w Z D T m u0 u1 u2 v n L x) (hs : Stays w Z D) (hg : x.grownBy x' v.ownBlock) (ho : OwnM x' Z T m v' n' L') : Mak w Z D T m u0 u1 u2 v' n' L' x' :=
  have hw : Within Z x.heap.size x x' := Within.of hg (fun b q => h.2.2.block b q)
  ⟨h.1.within hw hs.lo, hs.within _ _ _ h.2.1 hw, ho⟩
theorem Mak.set0 {w x : World} {Z : Nat} {D : World → Prop} {T : TypeId} {m : Nat} {u0 u1 u2 v : Value} {n : Nat} {L : List Int} (h : Mak w Z D T m u0 u1 u2 v n L x) (hs : Stays w Z D) : Mak w Z D T m v u1 u2 v n L (x.setCell ⟨w.heap.size + 1, 0, none⟩ v) := ⟨h.1.set0 _, hs.far _ _ _ h.2.1 (by simp), h.2.2.far (by have := hs.lo; simp; omega) _⟩
theorem Mak.set1 {w x : World} {Z : Nat} {D : World → Prop} {T : TypeId} {m : Nat} {u0 u1 u2 v : Value} {n : Nat} {L : List Int} (h : Mak w Z D T m u0 u1 u2 v n L x) (hs : Stays w Z D) : Mak w Z D T m u0 v u2 v n L (x.setCell ⟨w.heap.size + 1, 1, none⟩ v) := ⟨h.1.set1 _, hs.far _ _ _ h.2.1 (by simp), h.2.2.far (by have := hs.lo; simp; omega) _⟩
theorem Mak.set2 {w x : World} {Z : Nat} {D : World → Prop} {T : TypeId} {m : Nat} {u0 u1 u2 v : Value} {n : Nat} {L : List Int} (h : Mak w Z D T m u0 u1 u2 v n L x) (hs : Stays w Z D) : Mak w Z D T m u0 u1 v v n L (x.setCell ⟨w.heap.size + 1, 2, none⟩ v) := ⟨h.1.set2 _, hs.far _ _ _ h.2.1 (by simp), h.2.2.far (by have := hs.lo; simp; omega) _⟩
theorem Stays.none (w : World) : Stays w (w.heap.size + 2) (fun x => w.heap.size + 2 ≤ x.heap.size) := ⟨Nat.le_refl _, fun _ _ _ h hw => Nat.le_trans h hw.size, fun _ _ _ h _ => by simpa using h⟩
theorem Stays.more {w : World} {Z Z' : Nat} {D : World → Prop} {m n : Nat} {F : Nat → Int} {u : Value} (h : Stays w Z D) (hZ : Z ≤ Z') : Stays w Z' (fun x => Z' ≤ x.heap.size ∧ D x ∧ Done x Z Z' m n F u) :=
  ⟨Nat.le_trans h.lo hZ, fun x x' E hd hw => ⟨Nat.le_trans hd.1 hw.size, h.within x x' E hd.2.1 ⟨hw.os, hw.tape, hw.output, hw.size, fun k hk ho => hw.block k hk (by omega)⟩, hd.2.2.within hw (Nat.le_refl _)⟩, fun x a u hd ha => ⟨by simpa using hd.1, h.far x a u hd.2.1 ha, hd.2.2.far (Nat.lt_of_lt_of_le ha h.lo) u⟩⟩
/-- A new store, its rows in three blocks. -/
def NewSto (w : World) (R : Sto) (e : Ending) (w' : World) : Prop := ∃ a0 c0 a1 c1 a2 c2, e = .returned (.agg #[.slice a0 R.nc c0, .slice a1 R.nl c1, .slice a2 R.nw c2]) ∧ (St w' w.heap.size R (.slice a0 R.nc c0) (.slice a1 R.nl c1) (.slice a2 R.nw c2) ∧ FreeS w' R (.slice a0 R.nc c0) (.slice a1 R.nl c1) (.slice a2 R.nw c2) ∧ ApartD R (.slice a0 R.nc c0) (.slice a1 R.nl c1) (.slice a2 R.nw c2)) ∧ Below w.heap.size w w'
def emptyS : Sto := ⟨0, fun _ => 0, 0, fun _ => 0, 0, fun _ => 0⟩
theorem row_none0 (w : World) (B m : Nat) (F : Nat → Int) : Row w B m 0 F (.slice none 0 0) ∧ Free w (0 * m) (.slice none 0 0) := ⟨⟨_, _, rfl, fun q => absurd q (Nat.lt_irrefl 0)⟩, by rw [Nat.zero_mul]; exact Free.of0 _ _⟩
theorem empty_sto (w : World) (B : Nat) : St w B emptyS (.slice none 0 0) (.slice none 0 0) (.slice none 0 0) ∧ FreeS w emptyS (.slice none 0 0) (.slice none 0 0) (.slice none 0 0) ∧ ApartD emptyS (.slice none 0 0) (.slice none 0 0) (.slice none 0 0) :=
  ⟨⟨(row_none0 w B 3 _).1, (row_none0 w B 5 _).1, (row_none0 w B 4 _).1⟩, ⟨(row_none0 w B 3 (fun _ => 0)).2, (row_none0 w B 5 (fun _ => 0)).2, (row_none0 w B 4 (fun _ => 0)).2⟩, fun q => absurd q (Nat.lt_irrefl 0), fun q => absurd q (Nat.lt_irrefl 0), fun q => absurd q (Nat.lt_irrefl 0)⟩
/-- A call that has its store (the first block) and its answer, a code and a store (the second). -/
def CallSto (w : World) (B : Nat) (S : Sto) (v0 v1 v2 : Value) (x : World) : Prop := Blk3 x w.heap.size v0 v1 v2 ∧ Blk4 x (w.heap.size + 1) (.int .i64 0) (.slice none 0 0) (.slice none 0 0) (.slice none 0 0) ∧ St x B S v0 v1 v2 ∧ Below w.heap.size w x
theorem CallSto.later {w x x' : World} {B : Nat} {S : Sto} {v0 v1 v2 : Value} (h : CallSto w B S v0 v1 v2 x) (hb : Below x.heap.size x x') : CallSto w B S v0 v1 v2 x' := ⟨h.1.later hb, h.2.1.later hb, h.2.2.1.later hb, h.2.2.2.trans (hb.mono h.2.2.2.size)⟩
theorem CallSto.new {w : World} {B : Nat} {S : Sto} {v0 v1 v2 : Value} (h : St w B S v0 v1 v2) (t t' : TypeId) : CallSto w B S v0 v1 v2 ((w.alloc (.cells #[v0, v1, v2] t)).alloc (.cells #[.int .i64 0, .slice none 0 0, .slice none 0 0, .slice none 0 0] t')) := by
  have h4 := Blk4.new (w.alloc (.cells #[v0, v1, v2] t)) (.int .i64 0) (.slice none 0 0) (.slice none 0 0) (.slice none 0 0) t'
  rw [World.size_alloc] at h4
  exact ⟨(Blk3.new w _ _ _ _).alloc _, h4, (h.alloc _).alloc _, (below_alloc _ _).alloc (by simp) _⟩
/-- A time. -/
def isT (safe : Int) : Prop := 1 ≤ safe ∧ safe ≤ 100000
set_option maxRecDepth 100000 in
theorem l3Bad_is (c : Int) (w : World) : Calls Tryz.prog 37 #[.int .i64 c] w (ResSto w c emptyS) := by
  unfold ResSto
  go_enter Tryz.func37, Tryz.ntmps37
  go_wp2
  exact bodyPost_ret (v := .agg #[.int .i64 c, .slice none 0 0, .slice none 0 0, .slice none 0 0]) (by simp [results, Tryz.results37, go_sem]) rfl ⟨none, 0, none, 0, none, 0, rfl, empty_sto _ _, below_alloc _ _⟩
end Go.Proofs.YtpfmbfmlpoibeaaGreat
