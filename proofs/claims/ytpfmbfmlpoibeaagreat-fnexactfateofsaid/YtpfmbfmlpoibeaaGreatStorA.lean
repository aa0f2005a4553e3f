/-
  Own text. The program's columnsOf: new columns that have what the store has (stores without a fault).
-/
import Derived.Test.YtpfmbfmlpoibeaaGreatColsU
import Derived.Test.YtpfmbfmlpoibeaaGreatColsZ
namespace Go.Proofs.YtpfmbfmlpoibeaaGreat
open Go.RowKit Go.Maps

/-- Block b holds columns: a map that has m, a row of locks, a row of writes; all of them lie from B on. -/
def Cols (x : World) (B b N : Nat) (m : Int → Int → Option Int) (nl : Nat) (l : Nat → Int) (nw : Nat) (k : Nat → Int) (g : Nat) (u1 u2 : Value) : Prop :=
  B ≤ b ∧ B ≤ g ∧ Blk3 x b (.map (some g)) u1 u2 ∧ PM x g N m ∧ Own x B 96 5 nl l u1 ∧ Own x B 45 4 nw k u2
theorem Cols.later {x x' : World} {B b N : Nat} {m : Int → Int → Option Int} {nl : Nat} {l : Nat → Int} {nw : Nat} {k : Nat → Int} {g : Nat} {u1 u2 : Value} (h : Cols x B b N m nl l nw k g u1 u2) (hb : Below x.heap.size x x') : Cols x' B b N m nl l nw k g u1 u2 :=
  ⟨h.1, h.2.1, h.2.2.1.later hb, h.2.2.2.1.later hb, h.2.2.2.2.1.later hb, h.2.2.2.2.2.later hb⟩
theorem Cols.mono {x : World} {B B' b N : Nat} {m : Int → Int → Option Int} {nl : Nat} {l : Nat → Int} {nw : Nat} {k : Nat → Int} {g : Nat} {u1 u2 : Value} (h : Cols x B b N m nl l nw k g u1 u2) (hB : B' ≤ B) : Cols x B' b N m nl l nw k g u1 u2 :=
  ⟨Nat.le_trans hB h.1, Nat.le_trans hB h.2.1, h.2.2.1, h.2.2.2.1, h.2.2.2.2.1.mono hB, h.2.2.2.2.2.mono hB⟩
/-- From place oo of block b on lie three cells, none frozen. -/
def Blk3O (x : World) (b oo : Nat) (a0 a1 a2 : Value) : Prop :=
  (x.cell? ⟨b, oo, none⟩ = some a0 ∧ x.cell? ⟨b, oo + 1, none⟩ = some a1 ∧ x.cell? ⟨b, oo + 2, none⟩ = some a2) ∧ x.frozen? ⟨b, oo, none⟩ = false ∧ x.frozen? ⟨b, oo + 1, none⟩ = false ∧ x.frozen? ⟨b, oo + 2, none⟩ = false
theorem Blk3O.kept {x x' : World} {b oo : Nat} {a0 a1 a2 : Value} (h : Blk3O x b oo a0 a1 a2) (hb : x'.heap[b]? = x.heap[b]?) : Blk3O x' b oo a0 a1 a2 := by
  obtain ⟨⟨h0, h1, h2⟩, f0, f1, f2⟩ := h
  exact ⟨⟨(World.cell?_of_block (w := x) (a := ⟨b, oo, none⟩) hb).trans h0, (World.cell?_of_block (w := x) (a := ⟨b, oo + 1, none⟩) hb).trans h1, (World.cell?_of_block (w := x) (a := ⟨b, oo + 2, none⟩) hb).trans h2⟩,
    (World.frozen?_of_block (w := x) (a := ⟨b, oo, none⟩) hb).trans f0, (World.frozen?_of_block (w := x) (a := ⟨b, oo + 1, none⟩) hb).trans f1, (World.frozen?_of_block (w := x) (a := ⟨b, oo + 2, none⟩) hb).trans f2⟩
theorem Blk3O.lt {x : World} {b oo : Nat} {a0 a1 a2 : Value} (h : Blk3O x b oo a0 a1 a2) : b < x.heap.size := World.block_lt_of_cell? x ⟨b, oo, none⟩ h.1.1
theorem Blk3O.later {x x' : World} {b oo : Nat} {a0 a1 a2 : Value} (h : Blk3O x b oo a0 a1 a2) (hb : Below x.heap.size x x') : Blk3O x' b oo a0 a1 a2 := h.kept (hb.block b h.lt)
theorem Blk3O.alloc {x : World} {b oo : Nat} {a0 a1 a2 : Value} (h : Blk3O x b oo a0 a1 a2) (o : Obj) : Blk3O (x.alloc o) b oo a0 a1 a2 := h.later (below_alloc _ _)
theorem Blk3.o {x : World} {b : Nat} {a0 a1 a2 : Value} (h : Blk3 x b a0 a1 a2) : Blk3O x b 0 a0 a1 a2 := h
/-- Columns that lie from place oo of block b on. -/
def ColsO (x : World) (B b oo N : Nat) (m : Int → Int → Option Int) (nl : Nat) (l : Nat → Int) (nw : Nat) (k : Nat → Int) (g : Nat) (u1 u2 : Value) : Prop :=
  B ≤ b ∧ B ≤ g ∧ Blk3O x b oo (.map (some g)) u1 u2 ∧ PM x g N m ∧ Own x B 96 5 nl l u1 ∧ Own x B 45 4 nw k u2
theorem ColsO.later {x x' : World} {B b oo N : Nat} {m : Int → Int → Option Int} {nl : Nat} {l : Nat → Int} {nw : Nat} {k : Nat → Int} {g : Nat} {u1 u2 : Value} (h : ColsO x B b oo N m nl l nw k g u1 u2) (hb : Below x.heap.size x x') : ColsO x' B b oo N m nl l nw k g u1 u2 :=
  ⟨h.1, h.2.1, h.2.2.1.later hb, h.2.2.2.1.later hb, h.2.2.2.2.1.later hb, h.2.2.2.2.2.later hb⟩
theorem Cols.o {x : World} {B b N : Nat} {m : Int → Int → Option Int} {nl : Nat} {l : Nat → Int} {nw : Nat} {k : Nat → Int} {g : Nat} {u1 u2 : Value} (h : Cols x B b N m nl l nw k g u1 u2) : ColsO x B b 0 N m nl l nw k g u1 u2 := h
def StoBox (w : World) (v0 v1 v2 : Value) (x : World) : Prop := Blk3 x w.heap.size v0 v1 v2 ∧ Below w.heap.size w x
theorem StoBox.later {w x x' : World} {v0 v1 v2 : Value} (h : StoBox w v0 v1 v2 x) (hb : Below x.heap.size x x') : StoBox w v0 v1 v2 x' := ⟨h.1.later hb, h.2.trans (hb.mono h.2.size)⟩
theorem cellsByPlace_ex (S : Sto) (v : Value) (B : Nat) (w : World) (h : Row w B 3 S.nc S.c v) (hn : S.nc ≤ 200) (hz : scan (cellF S.c) S.nc = 0) :
    Calls Tryz.prog 73 #[v] w fun e w' => ∃ g, e = .returned (.map (some g)) ∧ w.heap.size ≤ g ∧ PM w' g S.nc (cellM S S.nc) ∧ Below w.heap.size w w' :=
  (cellsByPlace_any S v B w h hn hz).mono fun _ _ ⟨he, hP, hb⟩ => ⟨_, he, Nat.le_refl _, hP, hb⟩
theorem own_in {w : World} {B : Nat} {e : TypeId} {m n : Nat} {F : Nat → Int} {v : Value} (h : Own w B e m n F v) : ∀ k, v.ownBlock = some k → B ≤ k ∧ k < w.heap.size := by
  intro k hk
  rcases h.2 with ⟨rfl, _⟩ | ⟨g, cap, cur, rfl, hg, hw, _⟩
  · simp [Value.ownBlock] at hk
  · simp [Value.ownBlock] at hk
    subst hk
    exact ⟨hg, (Array.getElem?_eq_some_iff.1 hw).1⟩
/-- The columns' block, the map, the two rows: all in blocks of their own. -/
def ApartC (b g : Nat) (u1 u2 : Value) : Prop := g ≠ b ∧ (∀ q, u1.ownBlock = some q → q ≠ b ∧ q ≠ g) ∧ (∀ q, u2.ownBlock = some q → q ≠ b ∧ q ≠ g) ∧ ∀ q, u1.ownBlock = some q → u2.ownBlock ≠ some q
set_option maxRecDepth 100000 in
set_option maxHeartbeats 2000000 in
theorem columnsOf_apart (S : Sto) (B : Nat) (v0 v1 v2 : Value) (w : World) (h : St w B S v0 v1 v2) (hc : S.nc ≤ 200) (hl : S.nl ≤ 200) (hk : S.nw ≤ 200) (z0 : scan (cellF S.c) S.nc = 0) :
    Calls Tryz.prog 34 #[.agg #[v0, v1, v2]] w fun e w' => ∃ b g u1 u2, e = .returned (.pointer (some ⟨b, 0, none⟩)) ∧ Cols w' w.heap.size b S.nc (cellM S S.nc) S.nl S.l S.nw S.k g u1 u2 ∧ ApartC b g u1 u2 ∧ Below w.heap.size w w' := by
  obtain ⟨a0, c0, a1, c1, a2, c2, rfl, rfl, rfl⟩ := h.form
  have H : Hid (St w B S (.slice a0 S.nc c0) (.slice a1 S.nl c1) (.slice a2 S.nw c2)) := h
  have Z0 : Hid (scan (cellF S.c) S.nc = 0) := z0
  clear h z0
  go_enter Tryz.func34, Tryz.ntmps34
  go_wp2_with fail
  have h0 : StoBox w (.slice a0 S.nc c0) (.slice a1 S.nl c1) (.slice a2 S.nw c2) (w.alloc (.cells #[.slice a0 S.nc c0, .slice a1 S.nl c1, .slice a2 S.nw c2] 37)).drew := ⟨Blk3.new w _ _ _ _, (below_alloc _ _).drew⟩
  refine wp_region_held_drew (S := StoBox w (.slice a0 S.nc c0) (.slice a1 S.nl c1) (.slice a2 S.nw c2)) (by kernel_rfl) h0 (fun hS => ?_)
  clear h0
  refine wpAnyH_take (i := 0) (v := ?_) rfl (by kernel_rfl) (by kernel_rfl) (by kernel_rfl) (fun _ _ _ h => h) (Or.inl ⟨by kernel_rfl, ?_⟩) hS ?_
  rotate_left
  · intro wx hx
    obtain ⟨⟨⟨hx0, hx1, hx2⟩, _⟩, _⟩ := hx
    go_simp
    try with_reducible rfl
  refine wpAnyH_take (i := 1) (v := ?_) rfl (by kernel_rfl) (by kernel_rfl) (by kernel_rfl) (fun _ _ _ h => h) (Or.inl ⟨by kernel_rfl, ?_⟩) hS ?_
  rotate_left
  · intro wx hx
    obtain ⟨⟨⟨hx0, hx1, hx2⟩, _⟩, _⟩ := hx
    go_simp
    try with_reducible rfl
  refine wpAnyH_take (i := 3) (v := ?_) rfl (by kernel_rfl) (by kernel_rfl) (by kernel_rfl) (fun _ _ _ h => h) (Or.inl ⟨by kernel_rfl, ?_⟩) hS ?_
  rotate_left
  · intro wx hx
    obtain ⟨⟨⟨hx0, hx1, hx2⟩, _⟩, _⟩ := hx
    go_simp
    try with_reducible rfl
  refine wpAnyH_take (i := 4) (v := ?_) rfl (by kernel_rfl) (by kernel_rfl) (by kernel_rfl) (fun _ _ _ h => h) (Or.inl ⟨by kernel_rfl, ?_⟩) hS ?_
  rotate_left
  · intro wx hx
    obtain ⟨⟨⟨hx0, hx1, hx2⟩, _⟩, _⟩ := hx
    go_simp
    try with_reducible rfl
  refine wpAnyH_take (i := 6) (v := ?_) rfl (by kernel_rfl) (by kernel_rfl) (by kernel_rfl) (fun _ _ _ h => h) (Or.inl ⟨by kernel_rfl, ?_⟩) hS ?_
  rotate_left
  · intro wx hx
    obtain ⟨⟨⟨hx0, hx1, hx2⟩, _⟩, _⟩ := hx
    go_simp
    try with_reducible rfl
  refine wpAnyH_take (i := 7) (v := ?_) rfl (by kernel_rfl) (by kernel_rfl) (by kernel_rfl) (fun _ _ _ h => h) (Or.inl ⟨by kernel_rfl, ?_⟩) hS ?_
  rotate_left
  · intro wx hx
    obtain ⟨⟨⟨hx0, hx1, hx2⟩, _⟩, _⟩ := hx
    go_simp
    try with_reducible rfl
  refine wpAnyH_ready (rs := [2]) (by kernel_rfl) (by simp) ?_
  refine AllReadyH.cons rfl (fun K hK => ?_) AllReadyH.nil
  go_simp
  go_wp2_with fail
  refine (cellsByPlace_ex S _ B _ (H.out.later hS.2).1 hc Z0.out).mono ?_
  rintro e w1 ⟨g, rfl, hg, HP, hb1⟩
  have P1 : Hid (w.heap.size ≤ g ∧ PM w1 g S.nc (cellM S S.nc)) := ⟨Nat.le_trans hS.2.size hg, HP⟩
  have z1 : Hid (g < w1.heap.size) := HP.lt
  have hS' := hS.later hb1
  clear hg HP hb1
  go_wp2_with fail
  refine hK.out _ _ hS' (fun hS => ?_)
  clear hK K hS'
  refine wpAnyH_ready (rs := [5]) (by kernel_rfl) (by simp) ?_
  refine AllReadyH.cons rfl (fun K hK => ?_) AllReadyH.nil
  go_simp
  go_wp2_with fail
  refine (cloneLocks_any S.nl S.l _ B _ (H.out.later hS.2).2.1 (by omega)).mono ?_
  rintro e w2 ⟨u1, rfl, ho, hb2⟩
  obtain ⟨b1, d1, rfl⟩ := ho.form
  have P2 : Hid ((w.heap.size ≤ g ∧ PM w2 g S.nc (cellM S S.nc)) ∧ Own w2 w.heap.size 96 5 S.nl S.l (.slice b1 S.nl d1)) := ⟨⟨P1.out.1, P1.out.2.later hb2⟩, ho.mono hS.2.size⟩
  have z12 : Hid (w1.heap.size ≤ w2.heap.size) := hb2.size
  have B2 : Hid (∀ q, (Value.slice b1 S.nl d1).ownBlock = some q → w1.heap.size ≤ q ∧ q < w2.heap.size) := fun q hq => own_in ho q hq
  have hS' := hS.later hb2
  clear ho hb2 P1
  go_wp2_with fail
  refine hK.out _ _ hS' (fun hS => ?_)
  clear hK K hS'
  refine wpAnyH_ready (rs := [8]) (by kernel_rfl) (by simp) ?_
  refine AllReadyH.cons rfl (fun K hK => ?_) AllReadyH.nil
  go_simp
  go_wp2_with fail
  refine (cloneWrites_any S.nw S.k _ B _ (H.out.later hS.2).2.2 (by omega)).mono ?_
  rintro e w3 ⟨u2, rfl, ho, hb3⟩
  obtain ⟨b2, d2, rfl⟩ := ho.form
  have P3 : Hid (((w.heap.size ≤ g ∧ PM w3 g S.nc (cellM S S.nc)) ∧ Own w3 w.heap.size 96 5 S.nl S.l (.slice b1 S.nl d1)) ∧ Own w3 w.heap.size 45 4 S.nw S.k (.slice b2 S.nw d2)) := ⟨⟨⟨P2.out.1.1, P2.out.1.2.later hb3⟩, P2.out.2.later hb3⟩, ho.mono hS.2.size⟩
  have B3 : Hid (∀ q, (Value.slice b2 S.nw d2).ownBlock = some q → w2.heap.size ≤ q ∧ q < w3.heap.size) := fun q hq => own_in ho q hq
  have z23 : Hid (w1.heap.size ≤ w2.heap.size ∧ w2.heap.size ≤ w3.heap.size) := ⟨z12.out, hb3.size⟩
  have hS' := hS.later hb3
  have hS3 : Hid (w.heap.size ≤ w3.heap.size) := hS'.2.size
  clear ho hb3 P2
  go_wp2_with fail
  refine hK.out _ _ hS' (fun hS => ?_)
  clear hK K hS'
  refine wpAnyH_take (i := 9) (v := ?_) rfl (by kernel_rfl) (by kernel_rfl) (by kernel_rfl) (fun _ _ _ h => h) (Or.inl ⟨by kernel_rfl, ?_⟩) hS ?_
  rotate_left
  · intro wx hx
    obtain ⟨⟨⟨hx0, hx1, hx2⟩, _⟩, _⟩ := hx
    go_simp
    try with_reducible rfl
  refine wpAnyH_ready (rs := [10]) (by kernel_rfl) (by simp) ?_
  refine AllReadyH.cons rfl (fun K hK => ?_) AllReadyH.nil
  go_simp
  refine hK.out _ _ (hS.later (below_alloc w3 _)) (fun hS => ?_)
  clear hK K
  refine wpAnyH_take (i := 11) (v := ?_) rfl (by kernel_rfl) (by kernel_rfl) (by kernel_rfl) (fun _ _ _ h => h) (Or.inl ⟨by kernel_rfl, ?_⟩) hS ?_
  rotate_left
  · intro wx hx
    obtain ⟨⟨⟨hx0, hx1, hx2⟩, _⟩, _⟩ := hx
    go_simp
    try with_reducible rfl
  refine wpAnyH_done (by kernel_rfl) ?_ _
  go_simp
  go_wp2
  go_ret
  exact ⟨_, g, _, _, rfl, ⟨hS3.out, P3.out.1.1.1, Blk3.new w3 _ _ _ _, P3.out.1.1.2.alloc _, P3.out.1.2.alloc _, P3.out.2.alloc _⟩, ⟨by have := z1.out; have := z23.out; omega, fun q hq => by have := B2.out q hq; have := z1.out; have := z23.out; omega, fun q hq => by have := B3.out q hq; have := z1.out; have := z23.out; omega, fun q hq e => by have := B2.out q hq; have := B3.out q e; omega⟩, hS.2⟩
theorem columnsOf_any (S : Sto) (B : Nat) (v0 v1 v2 : Value) (w : World) (h : St w B S v0 v1 v2) (hc : S.nc ≤ 200) (hl : S.nl ≤ 200) (hk : S.nw ≤ 200) (z0 : scan (cellF S.c) S.nc = 0) :
    Calls Tryz.prog 34 #[.agg #[v0, v1, v2]] w fun e w' => ∃ b g u1 u2, e = .returned (.pointer (some ⟨b, 0, none⟩)) ∧ Cols w' w.heap.size b S.nc (cellM S S.nc) S.nl S.l S.nw S.k g u1 u2 ∧ Below w.heap.size w w' :=
  (columnsOf_apart S B v0 v1 v2 w h hc hl hk z0).mono fun _ _ ⟨b, g, u1, u2, h1, h2, _, h3⟩ => ⟨b, g, u1, u2, h1, h2, h3⟩
end Go.Proofs.YtpfmbfmlpoibeaaGreat
