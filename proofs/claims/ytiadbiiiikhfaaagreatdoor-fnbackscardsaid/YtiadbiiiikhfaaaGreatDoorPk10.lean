/-
 Own text, merged of DrawS, DrawR, DrawE, DrawX.
-/
import Derived.Test.YtiadbiiiikhfaaaGreatDoorPk9
namespace Go.Proofs.YtiadbiiiikhfaaaGreatDoor
open Go.RowKit

def Sz (R : Sto) : Prop := R.nc ≤ 201 ∧ R.nl ≤ 201 ∧ R.nw ≤ 201
theorem sz_empty : Sz emptyS := by unfold Sz emptyS; decide
theorem sz_of {S : Sto} (h : storeF S = 0) : Sz S := by have := (storeF_zero h).1; unfold Sz; omega
theorem CommitAns.sz {S : Sto} {a s c r : Int} {R : Sto} (h : CommitAns S a s c r R) : Sz R := by
 rcases h with ⟨_, _, rfl⟩ | ⟨_, _, _, rfl⟩ | ⟨_, _, _, _, rfl⟩ | ⟨_, _, _, _, _, rfl⟩ | ⟨hz, _, _, _, hR⟩
 ·exact sz_empty
 ·exact sz_empty
 ·exact sz_empty
 ·exact sz_empty
 ·have hs := sz_of (askF_zero hz).1
  rcases hR with ⟨_, _, _, _, e⟩ | ⟨_, _, _, _, e⟩ | ⟨_, _, _, e⟩ | ⟨_, _, _, _, _, _, e⟩ | ⟨_, _, _, _, _, _, _, e⟩ | ⟨j, k, _, _, _, _, h5, _, _, e⟩
  ·rw [e]; exact hs
  ·rw [e]; exact sz_empty
  ·rw [e]; exact sz_empty
  ·rw [e]; exact sz_empty
  ·rw [e]; exact sz_empty
  ·rw [e]
   exact ⟨hs.1, Nat.le_trans (selD_le _ _ _ _) hs.2.1, by show S.nw + 1 ≤ 201; omega⟩
theorem RollAns.sz {S : Sto} {a s r : Int} {R : Sto} (h : RollAns S a s r R) : Sz R := by
 rcases h with ⟨_, _, rfl⟩ | ⟨_, _, _, rfl⟩ | ⟨hz, _, hR⟩
 ·exact sz_empty
 ·exact sz_empty
 ·have hs := sz_of (askF_zero hz).1
  rcases hR with ⟨_, _, _, _, e⟩ | ⟨_, _, _, _, e⟩ | ⟨_, _, _, e⟩ | ⟨_, _, _, _, e⟩ | ⟨k, _, _, h3, _, _, e⟩
  ·rw [e]; exact hs
  ·rw [e]; exact sz_empty
  ·rw [e]; exact sz_empty
  ·rw [e]; exact sz_empty
  ·rw [e]
   exact ⟨Nat.le_trans (selD_le _ _ _ _) hs.1, Nat.le_trans (selD_le _ _ _ _) hs.2.1, by show S.nw + 1 ≤ 201; omega⟩
theorem PreAns.sz {S : Sto} {a s kd va pr un r : Int} {R : Sto} (h : PreAns S a s kd va pr un r R) : Sz R := by
 have main : ∀ {r : Int} {R : Sto}, askF S a = 0 → PreRes S a s kd pr un va r R → Sz R := fun {r R} hz hR => by
  have hs := sz_of (askF_zero hz).1
  rcases hR with ⟨_, _, e⟩ | ⟨_, _, _, _, _, e⟩ | ⟨_, _, _, _, _, e⟩ | ⟨_, _, _, _, _, _, e⟩ | ⟨_, _, h3, _, _, _, _, _, _, e⟩ | ⟨_, _, h3, _, _, h6, _, _, _, _, _, e⟩ | ⟨_, _, h3, _, _, _, _, _, _, _, _, e⟩
  ·rw [e]; exact sz_empty
  ·rw [e]; exact hs
  ·rw [e]; exact sz_empty
  ·rw [e]; exact sz_empty
  ·rw [e]; exact ⟨hs.1, by show S.nl + 1 ≤ 201; omega, hs.2.2⟩
  ·rw [e]; exact ⟨by show S.nc + 1 ≤ 201; omega, by show S.nl + 1 ≤ 201; omega, hs.2.2⟩
  ·rw [e]
   have h8 : (unlC S.c a s S.nc).length ≤ S.nc := selD_le _ _ _ _
   have h9 := (storeF_zero (askF_zero hz).1).1
   exact ⟨by show (unlC S.c a s S.nc).length + 1 ≤ 201; omega, by show S.nl + 1 ≤ 201; omega, hs.2.2⟩
 rcases h with ⟨_, _, rfl⟩ | ⟨_, _, _, rfl⟩ | ⟨_, _, _, _, rfl⟩ | ⟨_, _, _, _, _, _, rfl⟩ | ⟨hz, _, _, _, hR⟩
 ·exact sz_empty
 ·exact sz_empty
 ·exact sz_empty
 ·exact sz_empty
 ·exact main hz hR
/-- A store under way while the source is drawn from: the answer's block, the store's box, its rows. -/
structure DrS (w : World) (b : Nat) (o : Option Addr) (len cap : Nat) (S : Sto) (v0 v1 v2 : Value) (a : Int) (x : World) : Prop where
 src : Src x b o len cap a
 but : But b w x
 res : Blk3 x w.heap.size (.slice none 0 0) (.slice none 0 0) (.slice none 0 0)
 box : Blk3 x (w.heap.size + 1) v0 v1 v2
 own : OwnS x (w.heap.size + 2) S v0 v1 v2
 lo : b < w.heap.size
 base : ∃ z, Src w b o len cap z
theorem Blk3.butS {x x' : World} {b c : Nat} {a0 a1 a2 : Value} (h : Blk3 x c a0 a1 a2) (hT : But b x x') (hc : c ≠ b) : Blk3 x' c a0 a1 a2 := h.kept (hT.block c h.lt (fun e => hc (Option.some.inj e)))
theorem OwnS.keptS {x x' : World} {B : Nat} {S : Sto} {v0 v1 v2 : Value} (h : OwnS x B S v0 v1 v2) (hb : ∀ k, B ≤ k → k < x.heap.size → x'.heap[k]? = x.heap[k]?) : OwnS x' B S v0 v1 v2 :=
 ⟨⟨own_kept h.1.1 (fun k hk => hb k (own_blk h.1.1 k hk).1 (own_blk h.1.1 k hk).2), own_kept h.1.2.1 (fun k hk => hb k (own_blk h.1.2.1 k hk).1 (own_blk h.1.2.1 k hk).2), own_kept h.1.2.2 (fun k hk => hb k (own_blk h.1.2.2 k hk).1 (own_blk h.1.2.2 k hk).2)⟩, h.2⟩
theorem DrS.step {w : World} {b : Nat} {o : Option Addr} {len cap : Nat} {S : Sto} {v0 v1 v2 : Value} {a a' : Int} {x x' : World} (h : DrS w b o len cap S v0 v1 v2 a x) (hT : But b x x') (hS : Src x' b o len cap a') : DrS w b o len cap S v0 v1 v2 a' x' where
 src := hS
 but := h.but.trans hT
 res := h.res.butS hT (by have := h.lo; omega)
 box := h.box.butS hT (by have := h.lo; omega)
 own := h.own.keptS (fun k hk hl => hT.block k hl (fun e => by have := Option.some.inj e; have := h.lo; omega))
 lo := h.lo
 base := h.base
theorem DrS.later {w : World} {b : Nat} {o : Option Addr} {len cap : Nat} {S : Sto} {v0 v1 v2 : Value} {a : Int} {x x' : World} (h : DrS w b o len cap S v0 v1 v2 a x) (hb : Below x.heap.size x x') : DrS w b o len cap S v0 v1 v2 a x' :=
 h.step ((But.refl _ _).below hb) (h.src.later hb)
theorem DrS.sz {w : World} {b : Nat} {o : Option Addr} {len cap : Nat} {S : Sto} {v0 v1 v2 : Value} {a : Int} {x : World} (h : DrS w b o len cap S v0 v1 v2 a x) : w.heap.size + 2 ≤ x.heap.size := h.box.lt
theorem But.setS {b : Nat} {w x : World} (h : But b w x) {c : Nat} (hc : w.heap.size ≤ c) (off : Nat) (v : Value) : But b w (x.setCell ⟨c, off, none⟩ v) :=
 ⟨h.os, h.tape, h.output, by simpa [World.setCell] using h.size, fun k hk hne => (Below.heap_setCell x ⟨c, off, none⟩ v k (by simp; omega)).trans (h.block k hk hne)⟩
theorem Src.setS {x : World} {b : Nat} {o : Option Addr} {len cap : Nat} {a : Int} (h : Src x b o len cap a) {w : World} {a0 : Int} (h0 : Src w b o len cap a0) (hT : But b w x) {c : Nat} (hc : w.heap.size ≤ c) (off : Nat) (v : Value) : Src (x.setCell ⟨c, off, none⟩ v) b o len cap a := by
 have hb := h0.lt
 have kb : (x.setCell ⟨c, off, none⟩ v).heap[b]? = x.heap[b]? := Below.heap_setCell x ⟨c, off, none⟩ v b (by simp; omega)
 refine ⟨(World.cell?_of_block (w := x) (a := ⟨b, 0, none⟩) kb).trans h.code, (World.cell?_of_block (w := x) (a := ⟨b, 1, none⟩) kb).trans h.count, (World.frozen?_of_block (w := x) (a := ⟨b, 1, none⟩) kb).trans h.live, h.pos, fun j hj => ?_⟩
 obtain ⟨g, off', n, e1, e2, e3, e4⟩ := h0.bytes j hj
 exact ⟨g, off', n, e1, e2, (hT.setS hc off v).cell e3 e2, e4⟩
theorem OwnS.off {x : World} {B : Nat} {R : Sto} {g0 g1 g2 : Value} (h : OwnS x B R g0 g1 g2) {c : Nat} (hc : c < B) : ∀ v ∈ [g0, g1, g2], v.ownBlock ≠ some c := fun v hv e => by
 simp only [List.mem_cons, List.not_mem_nil, or_false] at hv
 rcases hv with rfl | rfl | rfl
 ·have := (own_blk h.1.1 c e).1; omega
 ·have := (own_blk h.1.2.1 c e).1; omega
 ·have := (own_blk h.1.2.2 c e).1; omega
theorem OwnS.fresh {x : World} {B : Nat} {R : Sto} {g0 g1 g2 : Value} (h : OwnS x B R g0 g1 g2) : ∀ v ∈ [g0, g1, g2], v.ownBlock ≠ some x.heap.size := fun v hv e => by
 simp only [List.mem_cons, List.not_mem_nil, or_false] at hv
 rcases hv with rfl | rfl | rfl
 ·have := (own_blk h.1.1 _ e).2; omega
 ·have := (own_blk h.1.2.1 _ e).2; omega
 ·have := (own_blk h.1.2.2 _ e).2; omega
theorem OwnS.setO {x : World} {B : Nat} {R : Sto} {g0 g1 g2 : Value} (h : OwnS x B R g0 g1 g2) {c : Nat} (hc : ∀ v ∈ [g0, g1, g2], v.ownBlock ≠ some c) (j : Nat) (u : Value) : OwnS (x.setCell ⟨c, j, none⟩ u) B R g0 g1 g2 :=
 ⟨⟨own_kept h.1.1 (fun k hk => Below.heap_setCell x ⟨c, j, none⟩ u k (fun e => hc g0 (by simp) (by rw [hk, e]))), own_kept h.1.2.1 (fun k hk => Below.heap_setCell x ⟨c, j, none⟩ u k (fun e => hc g1 (by simp) (by rw [hk, e]))), own_kept h.1.2.2 (fun k hk => Below.heap_setCell x ⟨c, j, none⟩ u k (fun e => hc g2 (by simp) (by rw [hk, e])))⟩, h.2⟩
/-- The block of an answer that is being laid: apart from the store's rows. -/
def RbT (w : World) (v0 v1 v2 : Value) (rb : Nat) (u0 u1 u2 u3 : Value) (x : World) : Prop := w.heap.size + 2 ≤ rb ∧ Blk4 x rb u0 u1 u2 u3 ∧ ∀ v ∈ [v0, v1, v2], v.ownBlock ≠ some rb
theorem RbT.later {w x x' : World} {v0 v1 v2 : Value} {rb : Nat} {u0 u1 u2 u3 : Value} (h : RbT w v0 v1 v2 rb u0 u1 u2 u3 x) (hb : Below x.heap.size x x') : RbT w v0 v1 v2 rb u0 u1 u2 u3 x' := ⟨h.1, h.2.1.later hb, h.2.2⟩
theorem RbT.step {w x x' : World} {v0 v1 v2 : Value} {rb : Nat} {u0 u1 u2 u3 : Value} {b : Nat} (h : RbT w v0 v1 v2 rb u0 u1 u2 u3 x) (hT : But b x x') (hb : b < w.heap.size) : RbT w v0 v1 v2 rb u0 u1 u2 u3 x' :=
 ⟨h.1, h.2.1.kept (hT.block rb h.2.1.lt (fun e => by have := Option.some.inj e; have := h.1; omega)), h.2.2⟩
theorem RbT.new {w : World} {b : Nat} {o : Option Addr} {len cap : Nat} {S : Sto} {v0 v1 v2 : Value} {a : Int} {x : World} (h : DrS w b o len cap S v0 v1 v2 a x) {u0 u1 u2 u3 : Value} (t : TypeId) : RbT w v0 v1 v2 x.heap.size u0 u1 u2 u3 (x.alloc (.cells #[u0, u1, u2, u3] t)) := ⟨h.sz, Blk4.new x _ _ _ _ _, h.own.fresh⟩
theorem DrS.setR {w : World} {b : Nat} {o : Option Addr} {len cap : Nat} {S : Sto} {v0 v1 v2 : Value} {a : Int} {x : World} (h : DrS w b o len cap S v0 v1 v2 a x) {c : Nat} (hc : w.heap.size + 2 ≤ c) (hn : ∀ v ∈ [v0, v1, v2], v.ownBlock ≠ some c) (j : Nat) (u : Value) : DrS w b o len cap S v0 v1 v2 a (x.setCell ⟨c, j, none⟩ u) where
 src := by
  obtain ⟨z, h0⟩ := h.base
  exact h.src.setS h0 h.but (by omega) j u
 but := h.but.setS (by omega) j u
 res := h.res.kept (Below.heap_setCell _ _ _ _ (by show w.heap.size ≠ c; omega))
 box := h.box.kept (Below.heap_setCell _ _ _ _ (by show w.heap.size + 1 ≠ c; omega))
 own := h.own.setO hn j u
 lo := h.lo
 base := h.base
/-- An answer that was laid: a code and a store of its own. -/
structure RQ (w : World) (v0 v1 v2 : Value) (rb : Nat) (rc : Int) (R : Sto) (g0 g1 g2 : Value) (x : World) : Prop where
 blk : RbT w v0 v1 v2 rb (.int .i64 rc) g0 g1 g2 x
 own : OwnS x (w.heap.size + 2) R g0 g1 g2
 ne : ∀ v ∈ [g0, g1, g2], v.ownBlock ≠ some rb
theorem DrS.put {w : World} {b : Nat} {o : Option Addr} {len cap : Nat} {S : Sto} {v0 v1 v2 : Value} {a : Int} {x : World} (h : DrS w b o len cap S v0 v1 v2 a x) {rb : Nat} {u0 u1 u2 u3 : Value} (hr : RbT w v0 v1 v2 rb u0 u1 u2 u3 x) {B : Nat} {R : Sto} {g0 g1 g2 : Value} (ho : OwnS x B R g0 g1 g2) (hB : w.heap.size + 2 ≤ B) (hq : ∀ v ∈ [g0, g1, g2], v.ownBlock ≠ some rb) (rc : Int) :
  DrS w b o len cap S v0 v1 v2 a ((((x.setCell ⟨rb, 0, none⟩ (.int .i64 rc)).setCell ⟨rb, 1, none⟩ g0).setCell ⟨rb, 2, none⟩ g1).setCell ⟨rb, 3, none⟩ g2) ∧ RQ w v0 v1 v2 rb rc R g0 g1 g2 ((((x.setCell ⟨rb, 0, none⟩ (.int .i64 rc)).setCell ⟨rb, 1, none⟩ g0).setCell ⟨rb, 2, none⟩ g1).setCell ⟨rb, 3, none⟩ g2) :=
 ⟨(((h.setR hr.1 hr.2.2 _ _).setR hr.1 hr.2.2 _ _).setR hr.1 hr.2.2 _ _).setR hr.1 hr.2.2 _ _, ⟨⟨hr.1, hr.2.1.put _ _ _ _, hr.2.2⟩, ((((ho.setO hq _ _).setO hq _ _).setO hq _ _).setO hq _ _).mono hB, hq⟩⟩
theorem RQ.later {w x x' : World} {v0 v1 v2 : Value} {rb : Nat} {rc : Int} {R : Sto} {g0 g1 g2 : Value} (h : RQ w v0 v1 v2 rb rc R g0 g1 g2 x) (hb : Below x.heap.size x x') : RQ w v0 v1 v2 rb rc R g0 g1 g2 x' := ⟨h.blk.later hb, h.own.later hb, h.ne⟩
theorem RQ.step {w x x' : World} {v0 v1 v2 : Value} {rb : Nat} {rc : Int} {R : Sto} {g0 g1 g2 : Value} {b : Nat} (h : RQ w v0 v1 v2 rb rc R g0 g1 g2 x) (hT : But b x x') (hb : b < w.heap.size) : RQ w v0 v1 v2 rb rc R g0 g1 g2 x' :=
 ⟨h.blk.step hT hb, h.own.keptS (fun k hk hl => hT.block k hl (fun e => by have := Option.some.inj e; omega)), h.ne⟩
/-- The answer's store takes the place of the store. -/
theorem DrS.take {w : World} {b : Nat} {o : Option Addr} {len cap : Nat} {S : Sto} {v0 v1 v2 : Value} {a : Int} {x : World} (h : DrS w b o len cap S v0 v1 v2 a x) {rb : Nat} {rc : Int} {R : Sto} {g0 g1 g2 : Value} (hq : RQ w v0 v1 v2 rb rc R g0 g1 g2 x) :
  DrS w b o len cap R g0 g1 g2 a (((x.setCell ⟨w.heap.size + 1, 0, none⟩ g0).setCell ⟨w.heap.size + 1, 1, none⟩ g1).setCell ⟨w.heap.size + 1, 2, none⟩ g2) := by
 obtain ⟨z, h0⟩ := h.base
 have hb : w.heap.size ≤ w.heap.size + 1 := Nat.le_succ _
 have hne : ∀ (X : World) (j : Nat) (u : Value), (X.setCell ⟨w.heap.size + 1, j, none⟩ u).heap[w.heap.size]? = X.heap[w.heap.size]? := fun X j u => Below.heap_setCell X ⟨w.heap.size + 1, j, none⟩ u _ (by show w.heap.size ≠ w.heap.size + 1; omega)
 exact {
  src := ((h.src.setS h0 h.but hb _ _).setS h0 (h.but.setS hb _ _) hb _ _).setS h0 ((h.but.setS hb _ _).setS hb _ _) hb _ _
  but := ((h.but.setS hb _ _).setS hb _ _).setS hb _ _
  res := h.res.kept ((hne _ _ _).trans ((hne _ _ _).trans (hne _ _ _)))
  box := ((h.box.set0 g0).set1 g1).set2 g2
  own := ((hq.own.far (a := ⟨w.heap.size + 1, 0, none⟩) (Nat.lt_succ_self _) _).far (a := ⟨w.heap.size + 1, 1, none⟩) (Nat.lt_succ_self _) _).far (a := ⟨w.heap.size + 1, 2, none⟩) (Nat.lt_succ_self _) _
  lo := h.lo
  base := ⟨z, h0⟩ }
set_option maxHeartbeats 400000 in
theorem l1Chance_any (w : World) (b : Nat) (o : Option Addr) (len cap : Nat) (a n : Int) (h : Src w b o len cap a) (ha : a ≤ 1000000) (hl : len ≤ 1048576) :
  Calls Tryz.prog 29 #[.pointer (some ⟨b, 0, none⟩), .int .i64 n] w fun e w' => ∃ r : Bool, e = .returned (.bool r) ∧ Src w' b o len cap (a + 1) ∧ But b w w' := by
 have H : Hid (Src w b o len cap a) := h
 clear h
 go_enter Tryz.func29, Tryz.ntmps29
 go_wp2_with fail
 refine (l1Next_any _ b o len cap a n H.out ha hl).mono ?_
 rintro e w1 ⟨r, rfl, _, _, hS, hT⟩
 have HR : Hid (Src w1 b o len cap (a + 1) ∧ But b w w1) := ⟨hS, hT⟩
 clear hS hT
 go_wp2
 go_ret
 exact ⟨_, rfl, HR.out⟩
set_option maxRecDepth 10000 in
set_option maxHeartbeats 2000000 in
theorem l2Lock_draw (S : Sto) (b oo : Nat) (v0 v1 v2 : Value) (a : Int) (w : World) (h : LiesO w b oo S v0 v1 v2) (hn : S.nl ≤ 201) :
  Calls Tryz.prog 87 #[.pointer (some ⟨b, oo, none⟩), .int .i64 a] w fun e w' => ∃ r : Int, e = .returned (.int .i64 r) ∧ FirstAt (lockIs S.l a) S.nl r ∧ w' = w := by
 obtain ⟨a0, c0, a1, c1, a2, c2, rfl, rfl, rfl⟩ := h.2.form
 have H : Hid (LiesO w b oo S (.slice a0 S.nc c0) (.slice a1 S.nl c1) (.slice a2 S.nw c2)) := h
 have p0 := h.1.2.1
 have hb := h.lt
 clear h
 go_enter Tryz.func87, Tryz.ntmps87
 go_wp2
 go_loop [5] (fun i => ∃ k : Nat, k ≤ S.nl ∧ i = .int .i64 k ∧ Hid (∀ j, j < k → ¬ lockIs S.l a j)) (fun i => S.nl - (intOf i).toNat)
 case atStart => exact ⟨0, Nat.zero_le _, rfl, fun j hj => absurd hj (Nat.not_lt_zero j)⟩
 case round =>
  obtain ⟨k, hk, rfl, HS⟩ := hrel
  by_cases hlt : k < S.nl
  case neg =>
   obtain rfl : k = S.nl := by omega
   go_wp2
   go_ret
   exact ⟨_, rfl, Or.inl ⟨rfl, HS.out⟩, rfl⟩
  obtain ⟨g, o, rfl, _, hg, x0, x1, x2, x3, x4⟩ := H.out.2.2.1.at5 hlt
  obtain ⟨n0, N0⟩ : ∃ x, S.l (k * 5) = x := ⟨_, rfl⟩
  rw [N0] at x0
  by_cases h0 : n0 = a
  ·have E : Hid (lockIs S.l a k) := N0.trans h0
   clear N0
   subst h0
   go_wp2
   go_ret
   exact ⟨_, rfl, Or.inr ⟨k, hlt, rfl, E.out, HS.out⟩, rfl⟩
  ·have E : Hid (∀ j, j < k + 1 → ¬ lockIs S.l a j) := all_next HS.out (fun q => h0 (N0.symm.trans q))
   have d0 : (n0 == a) = false := beq_eq_false_iff_ne.2 h0
   clear N0 HS h0
   go_wp2
   go_round
   case rel => exact ⟨k + 1, by omega, by go_num, E⟩
   case measure => simp [intOf]; omega
def BoxS (b : Nat) (v0 v1 v2 : Value) (x : World) : Prop := Blk3 x b v0 v1 v2
end Go.Proofs.YtiadbiiiikhfaaaGreatDoor

namespace Go.Proofs.YtiadbiiiikhfaaaGreatDoor
open Go.RowKit

theorem hid_mk {p : Prop} (h : p) : Hid p := h
theorem commitDraw_any (S : Sto) (v0 v1 v2 : Value) (a s c : Int) (B : Nat) (w : World) (h : St w B S v0 v1 v2) :
  Calls Tryz.prog 19 #[.agg #[v0, v1, v2], .int .i64 a, .int .i64 s, .int .i64 c] w fun e w' => ∃ r R, Sz R ∧ ResStoK w r R e w' := by
 obtain ⟨r, R, _, hA⟩ := CommitAns.get S a s c
 exact (specCommitKey_own S v0 v1 v2 a s c r R B w h hA).mono fun e w' q => ⟨r, R, hA.sz, q⟩
theorem rollDraw_any (S : Sto) (v0 v1 v2 : Value) (a s : Int) (B : Nat) (w : World) (h : St w B S v0 v1 v2) :
  Calls Tryz.prog 25 #[.agg #[v0, v1, v2], .int .i64 a, .int .i64 s] w fun e w' => ∃ r R, Sz R ∧ ResStoK w r R e w' := by
 obtain ⟨r, R, _, hA⟩ := RollAns.get S a s
 exact (specRollbackKey_own S v0 v1 v2 a s r R B w h hA).mono fun e w' q => ⟨r, R, hA.sz, q⟩
set_option maxRecDepth 100000 in
set_option maxHeartbeats 16000000 in
theorem l3Right_any (w : World) (b : Nat) (o : Option Addr) (len cap : Nat) (a : Int) (h : Src w b o len cap a) (ha : a ≤ 100000) (hl : len ≤ 1048576) :
  Calls Tryz.prog 103 #[.pointer (some ⟨b, 0, none⟩)] w fun e w' => ∃ (S : Sto) (a0 : Option Addr) (c0 : Nat) (a1 : Option Addr) (c1 : Nat) (a2 : Option Addr) (c2 : Nat) (z : Int), e = .returned (.agg #[.slice a0 S.nc c0, .slice a1 S.nl c1, .slice a2 S.nw c2]) ∧ (Sz S ∧ z ≤ a + 700) ∧ OwnS w' w.heap.size S (.slice a0 S.nc c0) (.slice a1 S.nl c1) (.slice a2 S.nw c2) ∧ Src w' b o len cap z ∧ But b w w' := by
 have hbl := h.lt
 have hpos := h.pos
 have H0 : Hid (Src w b o len cap a) := h
 have D0 : Hid (DrS w b o len cap emptyS (.slice none 0 0) (.slice none 0 0) (.slice none 0 0) a ((w.alloc (.cells #[.slice none 0 0, .slice none 0 0, .slice none 0 0] 28)).alloc (.cells #[.slice none 0 0, .slice none 0 0, .slice none 0 0] 28))) := {
  src := (h.alloc _).alloc _
  but := ((But.refl _ _).alloc _).alloc _
  res := (Blk3.new w _ _ _ _).alloc _
  box := by
   have := Blk3.new (w.alloc (.cells #[.slice none 0 0, .slice none 0 0, .slice none 0 0] 28)) (.slice none 0 0) (.slice none 0 0) (.slice none 0 0) 28
   rwa [World.size_alloc] at this
  own := OwnS.empty _ _
  lo := hbl
  base := ⟨a, h⟩ }
 clear h
 go_enter Tryz.func103, Tryz.ntmps103
 go_wp2_with fail
 refine (l1Next_any _ b o len cap a 30 D0.out.src (by omega) hl).mono ?_
 rintro e w1 ⟨r, rfl, p0, p1, hS1, hT1⟩
 have p2 : r < 30 := p1 (by omega)
 obtain ⟨k0, rfl⟩ : ∃ k : Nat, r = k := ⟨r.toNat, by omega⟩
 have D1 : Hid (DrS w b o len cap emptyS (.slice none 0 0) (.slice none 0 0) (.slice none 0 0) (a + 1) w1) := D0.out.step hT1 hS1
 clear hS1 hT1 D0 p0 p1
 go_wp2
 go_loopw [4] (fun i wr => ∃ (z : Nat) (S : Sto) (a0 : Option Addr) (c0 : Nat) (a1 : Option Addr) (c1 : Nat) (a2 : Option Addr) (c2 : Nat) (c : Int), i = .int .i64 z ∧ z ≤ 29 ∧ (0 ≤ c ∧ c + 20 * z ≤ a + 601) ∧ Hid (Sz S) ∧ Hid (DrS w b o len cap S (.slice a0 S.nc c0) (.slice a1 S.nl c1) (.slice a2 S.nw c2) c wr)) (fun i _ => (intOf i).toNat)
 case atStart => exact ⟨k0, emptyS, none, 0, none, 0, none, 0, a + 1, rfl, by omega, ⟨by omega, by omega⟩, sz_empty, D1⟩
 case round =>
  clear D1
  obtain ⟨z, S, a0, c0, a1, c1, a2, c2, c, rfl, hz29, hcz, HZ, HD⟩ := hrel
  by_cases hz : 0 < z
  case neg =>
   obtain rfl : z = 0 := by omega
   obtain ⟨⟨r0, r1, r2⟩, f0, f1, f2⟩ := HD.out.res
   obtain ⟨⟨t0, t1, t2⟩, _⟩ := HD.out.box
   go_wp2
   have hlo : (w.heap.size : Nat) < w.heap.size + 2 := by omega
   refine bodyPost_ret (v := .agg #[.slice a0 S.nc c0, .slice a1 S.nl c1, .slice a2 S.nw c2]) (by simp [results, Tryz.results103, go_sem, r0, r1, r2]) rfl ⟨S, a0, c0, a1, c1, a2, c2, c, rfl, ⟨HZ.out, by omega⟩, (((HD.out.own.far hlo _).far hlo _).far hlo _).mono (by omega), ?_, ?_⟩
   ·exact ((HD.out.src.setS H0.out HD.out.but (Nat.le_refl _) _ _).setS H0.out (HD.out.but.setS (Nat.le_refl _) _ _) (Nat.le_refl _) _ _).setS H0.out ((HD.out.but.setS (Nat.le_refl _) _ _).setS (Nat.le_refl _) _ _) (Nat.le_refl _) _ _
   ·exact ((HD.out.but.setS (Nat.le_refl _) _ _).setS (Nat.le_refl _) _ _).setS (Nat.le_refl _) _ _
  have dz : decide (0 < z) = true := decide_eq_true hz
  have hwz : IntKind.i64.wrap ((z : Int) - 1) = ((z - 1 : Nat) : Int) := by simp [IntKind.wrap, IntKind.bits, IntKind.signed]; omega
  go_wp2_with fail
  refine (l1Next_any _ b o len cap c 12 HD.out.src (by omega) hl).mono ?_
  rintro e w2 ⟨rs, rfl, s0, s1, hS2, hT2⟩
  have s2 : rs < 12 := s1 (by omega)
  have HD : Hid (DrS w b o len cap S (.slice a0 S.nc c0) (.slice a1 S.nl c1) (.slice a2 S.nw c2) (c + 1) w2) := HD.out.step hT2 hS2
  clear hS2 hT2 s1
  go_wp2_with fail
  refine (l1Key_any _ b o len cap (c + 1) HD.out.src (by omega) hl).mono ?_
  rintro e w3 ⟨ky, rfl, _, hS3, hT3⟩
  have HD : Hid (DrS w b o len cap S (.slice a0 S.nc c0) (.slice a1 S.nl c1) (.slice a2 S.nw c2) (c + 1 + 5) w3) := HD.out.step hT3 hS3
  clear hS3 hT3
  go_upto_region 7 with fail
  go_cut [30] (fun s wx => ∃ (q : Bool) (d : Int), s = .bool q ∧ (q = true → 0 < S.nl) ∧ (0 ≤ d ∧ d ≤ c + 7) ∧ Hid (DrS w b o len cap S (.slice a0 S.nc c0) (.slice a1 S.nl c1) (.slice a2 S.nw c2) d wx))
  case first =>
   obtain ⟨⟨t0, t1, t2⟩, _⟩ := HD.out.box
   by_cases hnl : 0 < S.nl
   case neg =>
    have dn : decide (0 < S.nl) = false := decide_eq_false hnl
    go_wp2_with fail
    go_meet
    case rel => exact ⟨false, _, rfl, fun q => absurd q (by decide), ⟨by omega, by omega⟩, HD⟩
   have dn : decide (0 < S.nl) = true := decide_eq_true hnl
   go_wp2_with fail
   refine (l1Chance_any _ b o len cap (c + 1 + 5) 2 HD.out.src (by omega) hl).mono ?_
   rintro e w4 ⟨r, rfl, hS4, hT4⟩
   have HD : Hid (DrS w b o len cap S (.slice a0 S.nc c0) (.slice a1 S.nl c1) (.slice a2 S.nw c2) (c + 1 + 5 + 1) w4) := HD.out.step hT4 hS4
   clear hS4 hT4 t0 t1 t2
   go_wp2_with fail
   go_meet
   case rel => exact ⟨r, _, rfl, fun _ => hnl, ⟨by omega, by omega⟩, HD⟩
  case rest =>
  clear HD
  obtain ⟨q, d, rfl, hq, hd, HD⟩ := hcut
  go_upto_if 30 with fail
  go_cut [5, 6] (fun s k wx => ∃ (st ky d : Int), s = .int .i64 st ∧ k = .int .i64 ky ∧ (0 ≤ d ∧ d ≤ c + 8) ∧ Hid (DrS w b o len cap S (.slice a0 S.nc c0) (.slice a1 S.nl c1) (.slice a2 S.nw c2) d wx))
  case first =>
   cases q with
   | false =>
    go_wp2_with fail
    go_meet
    case rel => exact ⟨_, _, _, rfl, rfl, ⟨by omega, by omega⟩, HD⟩
   | true =>
    have hnl := hq rfl
    clear hq
    go_wp2_with fail
    refine wp_region_held_drew (S := BoxS (w.heap.size + 1) (.slice a0 S.nc c0) (.slice a1 S.nl c1) (.slice a2 S.nw c2)) (by kernel_rfl) (HD.out.box.kept rfl) (fun hS => ?_)
    have HD : Hid (DrS w b o len cap S (.slice a0 S.nc c0) (.slice a1 S.nl c1) (.slice a2 S.nw c2) d wc.drew) := HD.out.later (below_dr (Below.refl _ _) 1)
    generalize wc.drew = w5 at HD hS ⊢
    refine tkH 0 ?_ hS (fun wx hx => ?_) ?_; rotate_left
    ·obtain ⟨⟨hx0, hx1, hx2⟩, _⟩ := hx; go_simp; try with_reducible rfl
    refine tkH 1 ?_ hS (fun wx hx => ?_) ?_; rotate_left
    ·obtain ⟨⟨hx0, hx1, hx2⟩, _⟩ := hx; go_simp; try with_reducible rfl
    refine tkH 2 ?_ hS (fun wx hx => ?_) ?_; rotate_left
    ·obtain ⟨⟨hx0, hx1, hx2⟩, _⟩ := hx; go_simp; try with_reducible rfl
    refine tkH 3 ?_ hS (fun wx hx => ?_) ?_; rotate_left
    ·obtain ⟨⟨hx0, hx1, hx2⟩, _⟩ := hx; go_simp; try with_reducible rfl
    refine tkH 4 ?_ hS (fun wx hx => ?_) ?_; rotate_left
    ·obtain ⟨⟨hx0, hx1, hx2⟩, _⟩ := hx; go_simp; try with_reducible rfl
    refine tkH 5 ?_ hS (fun wx hx => ?_) ?_; rotate_left
    ·obtain ⟨⟨hx0, hx1, hx2⟩, _⟩ := hx; go_simp; try with_reducible rfl
    refine rdH 6 (fun K hK => ?_)
    go_simp
    go_wp2_with fail
    refine (l1Next_any _ b o len cap d S.nl HD.out.src (by omega) hl).mono ?_
    rintro e w6 ⟨ri, rfl, i0, i1, hS6, hT6⟩
    have i2 : ri < S.nl := i1 (by omega)
    obtain ⟨i, rfl⟩ : ∃ i : Nat, ri = i := ⟨ri.toNat, by omega⟩
    have hin : i < S.nl := by omega
    have HD : Hid (DrS w b o len cap S (.slice a0 S.nc c0) (.slice a1 S.nl c1) (.slice a2 S.nw c2) (d + 1) w6) := HD.out.step hT6 hS6
    have hS' : BoxS (w.heap.size + 1) (.slice a0 S.nc c0) (.slice a1 S.nl c1) (.slice a2 S.nw c2) w6 := HD.out.box
    clear hS6 hT6 i1
    go_wp2_with fail
    refine hK.out _ _ hS' (fun hS => ?_)
    clear hK K hS'
    obtain ⟨g, oo, rfl, _, hg, x0, x1, x2, x3, x4⟩ := HD.out.own.st.2.1.at5 hin
    obtain ⟨n0, N0⟩ : ∃ x, S.l (i * 5) = x := ⟨_, rfl⟩
    rw [N0] at x0
    refine tkH 7 ?_ hS (fun wx hx => ?_) ?_; rotate_left
    ·obtain ⟨⟨hx0, hx1, hx2⟩, _⟩ := hx; go_simp; try with_reducible rfl
    refine tkH 8 ?_ hS (fun wx hx => ?_) ?_; rotate_left
    ·obtain ⟨⟨hx0, hx1, hx2⟩, _⟩ := hx; go_simp; try with_reducible rfl
    refine rdH 9 (fun K hK => ?_)
    go_simp
    refine hK.out _ _ hS (fun hS => ?_)
    clear hK K
    refine tkH 10 ?_ hS (fun wx hx => ?_) ?_; rotate_left
    ·obtain ⟨⟨hx0, hx1, hx2⟩, _⟩ := hx; go_simp; try with_reducible rfl
    refine wpAnyH_done (by kernel_rfl) ?_ _
    clear hS x0 x1 x2 x3 x4
    go_simp
    go_wp2_with fail
    refine wp_region_held_drew (S := BoxS (w.heap.size + 1) (.slice a0 S.nc c0) (.slice (some ⟨g, oo, none⟩) S.nl c1) (.slice a2 S.nw c2)) (by kernel_rfl) (HD.out.box.kept rfl) (fun hS => ?_)
    have HD : Hid (DrS w b o len cap S (.slice a0 S.nc c0) (.slice (some ⟨g, oo, none⟩) S.nl c1) (.slice a2 S.nw c2) (d + 1) w6.drew) := HD.out.later (below_dr (Below.refl _ _) 1)
    generalize w6.drew = w7 at HD hS ⊢
    refine tkH 0 ?_ hS (fun wx hx => ?_) ?_; rotate_left
    ·obtain ⟨⟨hx0, hx1, hx2⟩, _⟩ := hx; go_simp; try with_reducible rfl
    refine tkH 1 ?_ hS (fun wx hx => ?_) ?_; rotate_left
    ·obtain ⟨⟨hx0, hx1, hx2⟩, _⟩ := hx; go_simp; try with_reducible rfl
    refine tkH 2 ?_ hS (fun wx hx => ?_) ?_; rotate_left
    ·obtain ⟨⟨hx0, hx1, hx2⟩, _⟩ := hx; go_simp; try with_reducible rfl
    refine rdH 3 (fun K hK => ?_)
    go_simp
    go_wp2_with fail
    refine (l2Lock_draw S (w.heap.size + 1) 0 _ _ _ n0 _ ⟨HD.out.box.1, HD.out.own.st.mono (Nat.zero_le _)⟩ HZ.out.2.1).mono ?_
    rintro e w8 ⟨rj, rfl, hF, hw8⟩
    obtain rfl := hw8.symm
    obtain ⟨j, hj, rfl⟩ : ∃ j : Nat, j < S.nl ∧ rj = j := by
     rcases hF with ⟨_, hno⟩ | ⟨j, hj, e, _⟩
     ·exact absurd N0 (hno i hin)
     ·exact ⟨j, hj, e⟩
    clear hF N0
    go_wp2_with fail
    refine hK.out _ _ hS (fun hS => ?_)
    clear hK K
    obtain ⟨g', oo', e', _, _, x0, x1, x2, x3, x4⟩ := HD.out.own.st.2.1.at5 hj
    simp only [Option.some.injEq, Addr.mk.injEq] at e'
    obtain ⟨rfl, rfl, _⟩ := e'
    obtain ⟨n1, N1⟩ : ∃ x, S.l (j * 5 + 1) = x := ⟨_, rfl⟩
    rw [N1] at x1
    refine tkH 4 ?_ hS (fun wx hx => ?_) ?_; rotate_left
    ·obtain ⟨⟨hx0, hx1, hx2⟩, _⟩ := hx; go_simp; try with_reducible rfl
    refine tkH 5 ?_ hS (fun wx hx => ?_) ?_; rotate_left
    ·obtain ⟨⟨hx0, hx1, hx2⟩, _⟩ := hx; go_simp; try with_reducible rfl
    refine rdH 6 (fun K hK => ?_)
    go_simp
    refine hK.out _ _ hS (fun hS => ?_)
    clear hK K
    refine tkH 7 ?_ hS (fun wx hx => ?_) ?_; rotate_left
    ·obtain ⟨⟨hx0, hx1, hx2⟩, _⟩ := hx; go_simp; try with_reducible rfl
    refine wpAnyH_done (by kernel_rfl) ?_ _
    clear hS x0 x1 x2 x3 x4
    go_simp
    go_wp2_with fail
    go_meet
    case rel => exact ⟨_, _, _, rfl, rfl, ⟨by omega, by omega⟩, HD⟩
  case rest =>
  obtain ⟨st, ky, d, rfl, rfl, hd, HD⟩ := hcut
  clear hq
  have hI : Hid (Ints (wc.alloc (.cells #[.int .i64 1, .int .i64 1, .int .i64 1, .int .i64 2, .int .i64 3] 2)) wc.heap.size (.slice (some ⟨wc.heap.size, 0, none⟩) 5 5) [1, 1, 1, 2, 3]) := World.ownsRow_lit wc #[.int .i64 1, .int .i64 1, .int .i64 1, .int .i64 2, .int .i64 3] 5 (Nat.le_refl _) (by decide) rfl
  go_wp2_with fail
  refine (l1Pick_any _ b o len cap d _ wc.heap.size [1, 1, 1, 2, 3] (HD.out.src.alloc _) (by omega) hl hI.out HD.out.src.lt (by simp) (by simp)).mono ?_
  rintro e w4 ⟨kd, rfl, _, hS4, hT4⟩
  have HD : Hid (DrS w b o len cap S (.slice a0 S.nc c0) (.slice a1 S.nl c1) (.slice a2 S.nw c2) (d + 1) w4) := (HD.out.later (below_alloc _ _)).step hT4 hS4
  clear hS4 hT4 hI
  go_upto_if 52 with fail
  go_cut [8] (fun s wx => ∃ (va e : Int), s = .int .i64 va ∧ (0 ≤ e ∧ e ≤ d + 2) ∧ Hid (DrS w b o len cap S (.slice a0 S.nc c0) (.slice a1 S.nl c1) (.slice a2 S.nw c2) (e) wx))
  case first =>
   by_cases hk : kd = 1
   ·have dk : (kd == 1) = true := by rw [hk]; rfl
    clear hk
    go_wp2_with fail
    refine (l1Next_any _ b o len cap (d + 1) 99 HD.out.src (by omega) hl).mono ?_
    rintro e w5 ⟨va, rfl, _, _, hS5, hT5⟩
    have HD : Hid (DrS w b o len cap S (.slice a0 S.nc c0) (.slice a1 S.nl c1) (.slice a2 S.nw c2) (d + 1 + 1) w5) := HD.out.step hT5 hS5
    clear hS5 hT5
    go_wp2_with fail
    go_meet
    case rel => exact ⟨_, _, rfl, ⟨by omega, by omega⟩, HD⟩
   ·have dk : (kd == 1) = false := beq_eq_false_iff_ne.2 hk
    clear hk
    go_wp2_with fail
    go_meet
    case rel => exact ⟨_, _, rfl, ⟨by omega, by omega⟩, HD⟩
  case rest =>
  clear HD
  obtain ⟨va, d', rfl, hd', HD⟩ := hcut
  have HB : Hid (b < w.heap.size) := hbl
  go_upto_region 14 with fail
  go_cut [9] (fun s wx => ∃ (rb : Nat) (rc : Int) (R : Sto) (g0 : Option Addr) (q0 : Nat) (g1 : Option Addr) (q1 : Nat) (g2 : Option Addr) (q2 : Nat) (e : Int), s = .pointer (some ⟨rb, 0, none⟩) ∧ (0 ≤ e ∧ e ≤ d' + 2) ∧ Hid (Sz R) ∧ Hid (DrS w b o len cap S (.slice a0 S.nc c0) (.slice a1 S.nl c1) (.slice a2 S.nw c2) (e) wx) ∧ Hid (RQ w (.slice a0 S.nc c0) (.slice a1 S.nl c1) (.slice a2 S.nw c2) rb rc R (.slice g0 R.nc q0) (.slice g1 R.nl q1) (.slice g2 R.nw q2) wx))
  case first =>
   refine wp_region_held_drew (S := BoxS (w.heap.size + 1) (.slice a0 S.nc c0) (.slice a1 S.nl c1) (.slice a2 S.nw c2)) (by kernel_rfl) (HD.out.box.kept rfl) (fun hS => ?_)
   have HD : Hid (DrS w b o len cap S (.slice a0 S.nc c0) (.slice a1 S.nl c1) (.slice a2 S.nw c2) (d') wc.drew) := HD.out.later (below_dr (Below.refl _ _) 1)
   generalize wc.drew = y0 at HD hS ⊢
   refine tkH 0 ?_ hS (fun wx hx => ?_) ?_; rotate_left
   ·obtain ⟨⟨hx0, hx1, hx2⟩, _⟩ := hx; go_simp; try with_reducible rfl
   refine tkH 1 ?_ hS (fun wx hx => ?_) ?_; rotate_left
   ·obtain ⟨⟨hx0, hx1, hx2⟩, _⟩ := hx; go_simp; try with_reducible rfl
   refine tkH 2 ?_ hS (fun wx hx => ?_) ?_; rotate_left
   ·obtain ⟨⟨hx0, hx1, hx2⟩, _⟩ := hx; go_simp; try with_reducible rfl
   refine tkH 3 ?_ hS (fun wx hx => ?_) ?_; rotate_left
   ·obtain ⟨⟨hx0, hx1, hx2⟩, _⟩ := hx; go_simp; try with_reducible rfl
   refine tkH 4 ?_ hS (fun wx hx => ?_) ?_; rotate_left
   ·obtain ⟨⟨hx0, hx1, hx2⟩, _⟩ := hx; go_simp; try with_reducible rfl
   refine tkH 5 ?_ hS (fun wx hx => ?_) ?_; rotate_left
   ·obtain ⟨⟨hx0, hx1, hx2⟩, _⟩ := hx; go_simp; try with_reducible rfl
   refine tkH 6 ?_ hS (fun wx hx => ?_) ?_; rotate_left
   ·obtain ⟨⟨hx0, hx1, hx2⟩, _⟩ := hx; go_simp; try with_reducible rfl
   refine tkH 9 ?_ hS (fun wx hx => ?_) ?_; rotate_left
   ·obtain ⟨⟨hx0, hx1, hx2⟩, _⟩ := hx; go_simp; try with_reducible rfl
   refine wpAnyH_ready (rs := [7, 12]) (by kernel_rfl) (by simp) ?_
   refine AllReadyH.cons rfl (fun K hK => ?_) (AllReadyH.cons rfl (fun K hK => ?_) AllReadyH.nil)
   focus
    go_simp
    have HI : Hid (Ints (y0.alloc (.cells #[.int .i64 ky, .int .i64 0, .int .i64 10] 2)) y0.heap.size (.slice (some ⟨y0.heap.size, 0, none⟩) 3 3) [ky, 0, 10]) := World.ownsRow_lit y0 #[.int .i64 ky, .int .i64 0, .int .i64 10] 3 (Nat.le_refl _) (by decide) rfl
    have HG : Hid (b < y0.heap.size) := HD.out.src.lt
    have HD : Hid (DrS w b o len cap S (.slice a0 S.nc c0) (.slice a1 S.nl c1) (.slice a2 S.nw c2) (d') (y0.alloc (.cells #[.int .i64 ky, .int .i64 0, .int .i64 10] 2))) := HD.out.later (below_alloc _ _)
    refine hK.out _ _ (show BoxS _ _ _ _ _ from hS.alloc _) (fun hS => ?_)
    clear hK K
    generalize y0.alloc (.cells #[.int .i64 ky, .int .i64 0, .int .i64 10] 2) = y1 at HD HI hS ⊢
    refine wpAnyH_ready (rs := [8, 12]) (by kernel_rfl) (by simp) ?_
    refine AllReadyH.cons rfl (fun K hK => ?_) (AllReadyH.cons rfl (fun K hK => ?_) AllReadyH.nil)
    focus
     go_simp
     go_wp2_with fail
     refine (l1Pick_any _ b o len cap (d') _ y0.heap.size [ky, 0, 10] HD.out.src (by omega) hl HI.out HG.out (by simp) (by simp)).mono ?_
     rintro e y2 ⟨pr, rfl, _, hS1, hT1⟩
     have HD : Hid (DrS w b o len cap S (.slice a0 S.nc c0) (.slice a1 S.nl c1) (.slice a2 S.nw c2) (d' + 1) y2) := HD.out.step hT1 hS1
     have hS' : BoxS (w.heap.size + 1) (.slice a0 S.nc c0) (.slice a1 S.nl c1) (.slice a2 S.nw c2) y2 := HD.out.box
     clear hS1 hT1 HI
     go_wp2_with fail
     refine hK.out _ _ hS' (fun hS => ?_)
     clear hK K hS'
     refine wpAnyH_ready (rs := [10, 12]) (by kernel_rfl) (by simp) ?_
     refine AllReadyH.cons rfl (fun K hK => ?_) (AllReadyH.cons rfl (fun K hK => ?_) AllReadyH.nil)
     focus
      go_simp
      go_wp2_with fail
      refine (l1Next_any _ b o len cap (d' + 1) 99 HD.out.src (by omega) hl).mono ?_
      rintro e y3 ⟨un, rfl, _, _, hS1, hT1⟩
      have HD : Hid (DrS w b o len cap S (.slice a0 S.nc c0) (.slice a1 S.nl c1) (.slice a2 S.nw c2) (d' + 1 + 1) y3) := HD.out.step hT1 hS1
      have hS' : BoxS (w.heap.size + 1) (.slice a0 S.nc c0) (.slice a1 S.nl c1) (.slice a2 S.nw c2) y3 := HD.out.box
      clear hS1 hT1
      go_wp2_with fail
      refine hK.out _ _ hS' (fun hS => ?_)
      clear hK K hS'
      refine wpAnyH_ready (rs := [11, 12]) (by kernel_rfl) (by simp) ?_
      refine AllReadyH.cons rfl (fun K hK => ?_) (AllReadyH.cons rfl (fun K hK => ?_) AllReadyH.nil)
      focus
       go_simp
       obtain ⟨rc, R, _, hA⟩ := PreAns.get S ky st kd va pr un
       have HA : Hid (PreAns S ky st kd va pr un rc R) := hA
       clear hA
       go_wp2_with fail
       refine (specPrewrite_own S _ _ _ ky st kd va pr un rc R 0 _ (HD.out.own.st.mono (Nat.zero_le _)) HA.out).mono ?_
       rintro e y4 ⟨g0, q0, g1, q1, g2, q2, rfl, o5, q5⟩
       have HP : Hid (Sz R ∧ w.heap.size + 2 ≤ y3.heap.size ∧ OwnS y4 y3.heap.size R (.slice g0 R.nc q0) (.slice g1 R.nl q1) (.slice g2 R.nw q2)) := ⟨HA.out.sz, HD.out.sz, o5⟩
       have HD : Hid (DrS w b o len cap S (.slice a0 S.nc c0) (.slice a1 S.nl c1) (.slice a2 S.nw c2) (d' + 1 + 1) y4) := HD.out.later q5
       have hS' : BoxS (w.heap.size + 1) (.slice a0 S.nc c0) (.slice a1 S.nl c1) (.slice a2 S.nw c2) y4 := HD.out.box
       clear o5 q5 HA
       go_wp2_with fail
       refine hK.out _ _ hS' (fun hS => ?_)
       clear hK K hS'
       refine rdH 12 (fun K hK => ?_)
       go_simp
       have RB : Hid (RbT w (.slice a0 S.nc c0) (.slice a1 S.nl c1) (.slice a2 S.nw c2) y4.heap.size (.int .i64 0) (.slice none 0 0) (.slice none 0 0) (.slice none 0 0) (y4.alloc (.cells #[.int .i64 0, .slice none 0 0, .slice none 0 0, .slice none 0 0] 32))) := RbT.new HD.out _
       have HN : Hid (∀ v ∈ [(.slice g0 R.nc q0 : Value), .slice g1 R.nl q1, .slice g2 R.nw q2], v.ownBlock ≠ some y4.heap.size) := HP.out.2.2.fresh
       have HP : Hid (Sz R ∧ w.heap.size + 2 ≤ y3.heap.size ∧ OwnS (y4.alloc (.cells #[.int .i64 0, .slice none 0 0, .slice none 0 0, .slice none 0 0] 32)) y3.heap.size R (.slice g0 R.nc q0) (.slice g1 R.nl q1) (.slice g2 R.nw q2)) := ⟨HP.out.1, HP.out.2.1, HP.out.2.2.later (below_alloc _ _)⟩
       have HD : Hid (DrS w b o len cap S (.slice a0 S.nc c0) (.slice a1 S.nl c1) (.slice a2 S.nw c2) (d' + 1 + 1) (y4.alloc (.cells #[.int .i64 0, .slice none 0 0, .slice none 0 0, .slice none 0 0] 32))) := HD.out.later (below_alloc _ _)
       refine hK.out _ _ (show BoxS _ _ _ _ _ from hS.alloc _) (fun hS => ?_)
       clear hK K
       generalize y4.alloc (.cells #[.int .i64 0, .slice none 0 0, .slice none 0 0, .slice none 0 0] 32) = y5 at HD RB HP hS ⊢
       obtain ⟨rb, hrb⟩ : ∃ rb, y4.heap.size = rb := ⟨_, rfl⟩
       rw [hrb] at RB HN ⊢
       clear hrb
      rotate_left
      focus
       go_simp
       have RB : Hid (RbT w (.slice a0 S.nc c0) (.slice a1 S.nl c1) (.slice a2 S.nw c2) y3.heap.size (.int .i64 0) (.slice none 0 0) (.slice none 0 0) (.slice none 0 0) (y3.alloc (.cells #[.int .i64 0, .slice none 0 0, .slice none 0 0, .slice none 0 0] 32))) := RbT.new HD.out _
       have HD : Hid (DrS w b o len cap S (.slice a0 S.nc c0) (.slice a1 S.nl c1) (.slice a2 S.nw c2) (d' + 1 + 1) (y3.alloc (.cells #[.int .i64 0, .slice none 0 0, .slice none 0 0, .slice none 0 0] 32))) := HD.out.later (below_alloc _ _)
       refine hK.out _ _ (show BoxS _ _ _ _ _ from hS.alloc _) (fun hS => ?_)
       clear hK K
       generalize y3.alloc (.cells #[.int .i64 0, .slice none 0 0, .slice none 0 0, .slice none 0 0] 32) = y4 at HD RB hS ⊢
       obtain ⟨rb, hrb⟩ : ∃ rb, y3.heap.size = rb := ⟨_, rfl⟩
       rw [hrb] at RB ⊢
       clear hrb
       refine rdH 11 (fun K hK => ?_)
       go_simp
       obtain ⟨rc, R, _, hA⟩ := PreAns.get S ky st kd va pr un
       have HA : Hid (PreAns S ky st kd va pr un rc R) := hA
       clear hA
       go_wp2_with fail
       refine (specPrewrite_own S _ _ _ ky st kd va pr un rc R 0 _ (HD.out.own.st.mono (Nat.zero_le _)) HA.out).mono ?_
       rintro e y5 ⟨g0, q0, g1, q1, g2, q2, rfl, o5, q5⟩
       have HP : Hid (Sz R ∧ w.heap.size + 2 ≤ y4.heap.size ∧ OwnS y5 y4.heap.size R (.slice g0 R.nc q0) (.slice g1 R.nl q1) (.slice g2 R.nw q2)) := ⟨HA.out.sz, HD.out.sz, o5⟩
       have HN : Hid (∀ v ∈ [(.slice g0 R.nc q0 : Value), .slice g1 R.nl q1, .slice g2 R.nw q2], v.ownBlock ≠ some rb) := o5.off RB.out.2.1.lt
       have HD : Hid (DrS w b o len cap S (.slice a0 S.nc c0) (.slice a1 S.nl c1) (.slice a2 S.nw c2) (d' + 1 + 1) y5) := HD.out.later q5
       have RB : Hid (RbT w (.slice a0 S.nc c0) (.slice a1 S.nl c1) (.slice a2 S.nw c2) rb (.int .i64 0) (.slice none 0 0) (.slice none 0 0) (.slice none 0 0) y5) := RB.out.later q5
       have hS' : BoxS (w.heap.size + 1) (.slice a0 S.nc c0) (.slice a1 S.nl c1) (.slice a2 S.nw c2) y5 := HD.out.box
       clear o5 q5 HA
       go_wp2_with fail
       refine hK.out _ _ hS' (fun hS => ?_)
       clear hK K hS'
      rotate_left
     rotate_left 2
     focus
      go_simp
      have RB : Hid (RbT w (.slice a0 S.nc c0) (.slice a1 S.nl c1) (.slice a2 S.nw c2) y2.heap.size (.int .i64 0) (.slice none 0 0) (.slice none 0 0) (.slice none 0 0) (y2.alloc (.cells #[.int .i64 0, .slice none 0 0, .slice none 0 0, .slice none 0 0] 32))) := RbT.new HD.out _
      have HD : Hid (DrS w b o len cap S (.slice a0 S.nc c0) (.slice a1 S.nl c1) (.slice a2 S.nw c2) (d' + 1) (y2.alloc (.cells #[.int .i64 0, .slice none 0 0, .slice none 0 0, .slice none 0 0] 32))) := HD.out.later (below_alloc _ _)
      refine hK.out _ _ (show BoxS _ _ _ _ _ from hS.alloc _) (fun hS => ?_)
      clear hK K
      generalize y2.alloc (.cells #[.int .i64 0, .slice none 0 0, .slice none 0 0, .slice none 0 0] 32) = y3 at HD RB hS ⊢
      obtain ⟨rb, hrb⟩ : ∃ rb, y2.heap.size = rb := ⟨_, rfl⟩
      rw [hrb] at RB ⊢
      clear hrb
      refine rdH 10 (fun K hK => ?_)
      go_simp
      go_wp2_with fail
      refine (l1Next_any _ b o len cap (d' + 1) 99 HD.out.src (by omega) hl).mono ?_
      rintro e y4 ⟨un, rfl, _, _, hS1, hT1⟩
      have HD : Hid (DrS w b o len cap S (.slice a0 S.nc c0) (.slice a1 S.nl c1) (.slice a2 S.nw c2) (d' + 1 + 1) y4) := HD.out.step hT1 hS1
      have RB : Hid (RbT w (.slice a0 S.nc c0) (.slice a1 S.nl c1) (.slice a2 S.nw c2) rb (.int .i64 0) (.slice none 0 0) (.slice none 0 0) (.slice none 0 0) y4) := RB.out.step hT1 HB.out
      have hS' : BoxS (w.heap.size + 1) (.slice a0 S.nc c0) (.slice a1 S.nl c1) (.slice a2 S.nw c2) y4 := HD.out.box
      clear hS1 hT1
      go_wp2_with fail
      refine hK.out _ _ hS' (fun hS => ?_)
      clear hK K hS'
      refine rdH 11 (fun K hK => ?_)
      go_simp
      obtain ⟨rc, R, _, hA⟩ := PreAns.get S ky st kd va pr un
      have HA : Hid (PreAns S ky st kd va pr un rc R) := hA
      clear hA
      go_wp2_with fail
      refine (specPrewrite_own S _ _ _ ky st kd va pr un rc R 0 _ (HD.out.own.st.mono (Nat.zero_le _)) HA.out).mono ?_
      rintro e y5 ⟨g0, q0, g1, q1, g2, q2, rfl, o5, q5⟩
      have HP : Hid (Sz R ∧ w.heap.size + 2 ≤ y4.heap.size ∧ OwnS y5 y4.heap.size R (.slice g0 R.nc q0) (.slice g1 R.nl q1) (.slice g2 R.nw q2)) := ⟨HA.out.sz, HD.out.sz, o5⟩
      have HN : Hid (∀ v ∈ [(.slice g0 R.nc q0 : Value), .slice g1 R.nl q1, .slice g2 R.nw q2], v.ownBlock ≠ some rb) := o5.off RB.out.2.1.lt
      have HD : Hid (DrS w b o len cap S (.slice a0 S.nc c0) (.slice a1 S.nl c1) (.slice a2 S.nw c2) (d' + 1 + 1) y5) := HD.out.later q5
      have RB : Hid (RbT w (.slice a0 S.nc c0) (.slice a1 S.nl c1) (.slice a2 S.nw c2) rb (.int .i64 0) (.slice none 0 0) (.slice none 0 0) (.slice none 0 0) y5) := RB.out.later q5
      have hS' : BoxS (w.heap.size + 1) (.slice a0 S.nc c0) (.slice a1 S.nl c1) (.slice a2 S.nw c2) y5 := HD.out.box
      clear o5 q5 HA
      go_wp2_with fail
      refine hK.out _ _ hS' (fun hS => ?_)
      clear hK K hS'
     rotate_left
    rotate_left 3
    focus
     go_simp
     have RB : Hid (RbT w (.slice a0 S.nc c0) (.slice a1 S.nl c1) (.slice a2 S.nw c2) y1.heap.size (.int .i64 0) (.slice none 0 0) (.slice none 0 0) (.slice none 0 0) (y1.alloc (.cells #[.int .i64 0, .slice none 0 0, .slice none 0 0, .slice none 0 0] 32))) := RbT.new HD.out _
     have HI : Hid (Ints (y1.alloc (.cells #[.int .i64 0, .slice none 0 0, .slice none 0 0, .slice none 0 0] 32)) y0.heap.size (.slice (some ⟨y0.heap.size, 0, none⟩) 3 3) [ky, 0, 10]) := ((But.refl b _).alloc _).ints HI.out HG.out
     have HD : Hid (DrS w b o len cap S (.slice a0 S.nc c0) (.slice a1 S.nl c1) (.slice a2 S.nw c2) (d') (y1.alloc (.cells #[.int .i64 0, .slice none 0 0, .slice none 0 0, .slice none 0 0] 32))) := HD.out.later (below_alloc _ _)
     refine hK.out _ _ (show BoxS _ _ _ _ _ from hS.alloc _) (fun hS => ?_)
     clear hK K
     generalize y1.alloc (.cells #[.int .i64 0, .slice none 0 0, .slice none 0 0, .slice none 0 0] 32) = y2 at HD RB HI hS ⊢
     obtain ⟨rb, hrb⟩ : ∃ rb, y1.heap.size = rb := ⟨_, rfl⟩
     rw [hrb] at RB ⊢
     clear hrb
     refine rdH 8 (fun K hK => ?_)
     go_simp
     go_wp2_with fail
     refine (l1Pick_any _ b o len cap (d') _ y0.heap.size [ky, 0, 10] HD.out.src (by omega) hl HI.out HG.out (by simp) (by simp)).mono ?_
     rintro e y3 ⟨pr, rfl, _, hS1, hT1⟩
     have HD : Hid (DrS w b o len cap S (.slice a0 S.nc c0) (.slice a1 S.nl c1) (.slice a2 S.nw c2) (d' + 1) y3) := HD.out.step hT1 hS1
     have RB : Hid (RbT w (.slice a0 S.nc c0) (.slice a1 S.nl c1) (.slice a2 S.nw c2) rb (.int .i64 0) (.slice none 0 0) (.slice none 0 0) (.slice none 0 0) y3) := RB.out.step hT1 HB.out
     have hS' : BoxS (w.heap.size + 1) (.slice a0 S.nc c0) (.slice a1 S.nl c1) (.slice a2 S.nw c2) y3 := HD.out.box
     clear hS1 hT1 HI
     go_wp2_with fail
     refine hK.out _ _ hS' (fun hS => ?_)
     clear hK K hS'
     refine rdH 10 (fun K hK => ?_)
     go_simp
     go_wp2_with fail
     refine (l1Next_any _ b o len cap (d' + 1) 99 HD.out.src (by omega) hl).mono ?_
     rintro e y4 ⟨un, rfl, _, _, hS1, hT1⟩
     have HD : Hid (DrS w b o len cap S (.slice a0 S.nc c0) (.slice a1 S.nl c1) (.slice a2 S.nw c2) (d' + 1 + 1) y4) := HD.out.step hT1 hS1
     have RB : Hid (RbT w (.slice a0 S.nc c0) (.slice a1 S.nl c1) (.slice a2 S.nw c2) rb (.int .i64 0) (.slice none 0 0) (.slice none 0 0) (.slice none 0 0) y4) := RB.out.step hT1 HB.out
     have hS' : BoxS (w.heap.size + 1) (.slice a0 S.nc c0) (.slice a1 S.nl c1) (.slice a2 S.nw c2) y4 := HD.out.box
     clear hS1 hT1
     go_wp2_with fail
     refine hK.out _ _ hS' (fun hS => ?_)
     clear hK K hS'
     refine rdH 11 (fun K hK => ?_)
     go_simp
     obtain ⟨rc, R, _, hA⟩ := PreAns.get S ky st kd va pr un
     have HA : Hid (PreAns S ky st kd va pr un rc R) := hA
     clear hA
     go_wp2_with fail
     refine (specPrewrite_own S _ _ _ ky st kd va pr un rc R 0 _ (HD.out.own.st.mono (Nat.zero_le _)) HA.out).mono ?_
     rintro e y5 ⟨g0, q0, g1, q1, g2, q2, rfl, o5, q5⟩
     have HP : Hid (Sz R ∧ w.heap.size + 2 ≤ y4.heap.size ∧ OwnS y5 y4.heap.size R (.slice g0 R.nc q0) (.slice g1 R.nl q1) (.slice g2 R.nw q2)) := ⟨HA.out.sz, HD.out.sz, o5⟩
     have HN : Hid (∀ v ∈ [(.slice g0 R.nc q0 : Value), .slice g1 R.nl q1, .slice g2 R.nw q2], v.ownBlock ≠ some rb) := o5.off RB.out.2.1.lt
     have HD : Hid (DrS w b o len cap S (.slice a0 S.nc c0) (.slice a1 S.nl c1) (.slice a2 S.nw c2) (d' + 1 + 1) y5) := HD.out.later q5
     have RB : Hid (RbT w (.slice a0 S.nc c0) (.slice a1 S.nl c1) (.slice a2 S.nw c2) rb (.int .i64 0) (.slice none 0 0) (.slice none 0 0) (.slice none 0 0) y5) := RB.out.later q5
     have hS' : BoxS (w.heap.size + 1) (.slice a0 S.nc c0) (.slice a1 S.nl c1) (.slice a2 S.nw c2) y5 := HD.out.box
     clear o5 q5 HA
     go_wp2_with fail
     refine hK.out _ _ hS' (fun hS => ?_)
     clear hK K hS'
    rotate_left
   rotate_left 4
   focus
    go_simp
    have RB : Hid (RbT w (.slice a0 S.nc c0) (.slice a1 S.nl c1) (.slice a2 S.nw c2) y0.heap.size (.int .i64 0) (.slice none 0 0) (.slice none 0 0) (.slice none 0 0) (y0.alloc (.cells #[.int .i64 0, .slice none 0 0, .slice none 0 0, .slice none 0 0] 32))) := RbT.new HD.out _
    have HD : Hid (DrS w b o len cap S (.slice a0 S.nc c0) (.slice a1 S.nl c1) (.slice a2 S.nw c2) (d') (y0.alloc (.cells #[.int .i64 0, .slice none 0 0, .slice none 0 0, .slice none 0 0] 32))) := HD.out.later (below_alloc _ _)
    refine hK.out _ _ (show BoxS _ _ _ _ _ from hS.alloc _) (fun hS => ?_)
    clear hK K
    generalize y0.alloc (.cells #[.int .i64 0, .slice none 0 0, .slice none 0 0, .slice none 0 0] 32) = y1 at HD RB hS ⊢
    obtain ⟨rb, hrb⟩ : ∃ rb, y0.heap.size = rb := ⟨_, rfl⟩
    rw [hrb] at RB ⊢
    clear hrb
    refine rdH 7 (fun K hK => ?_)
    go_simp
    have HI : Hid (Ints (y1.alloc (.cells #[.int .i64 ky, .int .i64 0, .int .i64 10] 2)) y1.heap.size (.slice (some ⟨y1.heap.size, 0, none⟩) 3 3) [ky, 0, 10]) := World.ownsRow_lit y1 #[.int .i64 ky, .int .i64 0, .int .i64 10] 3 (Nat.le_refl _) (by decide) rfl
    have HG : Hid (b < y1.heap.size) := HD.out.src.lt
    have HD : Hid (DrS w b o len cap S (.slice a0 S.nc c0) (.slice a1 S.nl c1) (.slice a2 S.nw c2) (d') (y1.alloc (.cells #[.int .i64 ky, .int .i64 0, .int .i64 10] 2))) := HD.out.later (below_alloc _ _)
    have RB : Hid (RbT w (.slice a0 S.nc c0) (.slice a1 S.nl c1) (.slice a2 S.nw c2) rb (.int .i64 0) (.slice none 0 0) (.slice none 0 0) (.slice none 0 0) (y1.alloc (.cells #[.int .i64 ky, .int .i64 0, .int .i64 10] 2))) := RB.out.later (below_alloc _ _)
    refine hK.out _ _ (show BoxS _ _ _ _ _ from hS.alloc _) (fun hS => ?_)
    clear hK K
    generalize y1.alloc (.cells #[.int .i64 ky, .int .i64 0, .int .i64 10] 2) = y2 at HD HI RB hS ⊢
    refine rdH 8 (fun K hK => ?_)
    go_simp
    go_wp2_with fail
    refine (l1Pick_any _ b o len cap (d') _ y1.heap.size [ky, 0, 10] HD.out.src (by omega) hl HI.out HG.out (by simp) (by simp)).mono ?_
    rintro e y3 ⟨pr, rfl, _, hS1, hT1⟩
    have HD : Hid (DrS w b o len cap S (.slice a0 S.nc c0) (.slice a1 S.nl c1) (.slice a2 S.nw c2) (d' + 1) y3) := HD.out.step hT1 hS1
    have RB : Hid (RbT w (.slice a0 S.nc c0) (.slice a1 S.nl c1) (.slice a2 S.nw c2) rb (.int .i64 0) (.slice none 0 0) (.slice none 0 0) (.slice none 0 0) y3) := RB.out.step hT1 HB.out
    have hS' : BoxS (w.heap.size + 1) (.slice a0 S.nc c0) (.slice a1 S.nl c1) (.slice a2 S.nw c2) y3 := HD.out.box
    clear hS1 hT1 HI
    go_wp2_with fail
    refine hK.out _ _ hS' (fun hS => ?_)
    clear hK K hS'
    refine rdH 10 (fun K hK => ?_)
    go_simp
    go_wp2_with fail
    refine (l1Next_any _ b o len cap (d' + 1) 99 HD.out.src (by omega) hl).mono ?_
    rintro e y4 ⟨un, rfl, _, _, hS1, hT1⟩
    have HD : Hid (DrS w b o len cap S (.slice a0 S.nc c0) (.slice a1 S.nl c1) (.slice a2 S.nw c2) (d' + 1 + 1) y4) := HD.out.step hT1 hS1
    have RB : Hid (RbT w (.slice a0 S.nc c0) (.slice a1 S.nl c1) (.slice a2 S.nw c2) rb (.int .i64 0) (.slice none 0 0) (.slice none 0 0) (.slice none 0 0) y4) := RB.out.step hT1 HB.out
    have hS' : BoxS (w.heap.size + 1) (.slice a0 S.nc c0) (.slice a1 S.nl c1) (.slice a2 S.nw c2) y4 := HD.out.box
    clear hS1 hT1
    go_wp2_with fail
    refine hK.out _ _ hS' (fun hS => ?_)
    clear hK K hS'
    refine rdH 11 (fun K hK => ?_)
    go_simp
    obtain ⟨rc, R, _, hA⟩ := PreAns.get S ky st kd va pr un
    have HA : Hid (PreAns S ky st kd va pr un rc R) := hA
    clear hA
    go_wp2_with fail
    refine (specPrewrite_own S _ _ _ ky st kd va pr un rc R 0 _ (HD.out.own.st.mono (Nat.zero_le _)) HA.out).mono ?_
    rintro e y5 ⟨g0, q0, g1, q1, g2, q2, rfl, o5, q5⟩
    have HP : Hid (Sz R ∧ w.heap.size + 2 ≤ y4.heap.size ∧ OwnS y5 y4.heap.size R (.slice g0 R.nc q0) (.slice g1 R.nl q1) (.slice g2 R.nw q2)) := ⟨HA.out.sz, HD.out.sz, o5⟩
    have HN : Hid (∀ v ∈ [(.slice g0 R.nc q0 : Value), .slice g1 R.nl q1, .slice g2 R.nw q2], v.ownBlock ≠ some rb) := o5.off RB.out.2.1.lt
    have HD : Hid (DrS w b o len cap S (.slice a0 S.nc c0) (.slice a1 S.nl c1) (.slice a2 S.nw c2) (d' + 1 + 1) y5) := HD.out.later q5
    have RB : Hid (RbT w (.slice a0 S.nc c0) (.slice a1 S.nl c1) (.slice a2 S.nw c2) rb (.int .i64 0) (.slice none 0 0) (.slice none 0 0) (.slice none 0 0) y5) := RB.out.later q5
    have hS' : BoxS (w.heap.size + 1) (.slice a0 S.nc c0) (.slice a1 S.nl c1) (.slice a2 S.nw c2) y5 := HD.out.box
    clear o5 q5 HA
    go_wp2_with fail
    refine hK.out _ _ hS' (fun hS => ?_)
    clear hK K hS'
   rotate_left
   all_goals
    refine rdH 13 (fun K hK => ?_)
    obtain ⟨⟨e0, e1, e2, e3⟩, f0, f1, f2, f3⟩ := RB.out.2.1
    go_simp
    have HF : Hid (DrS w b o len cap S (.slice a0 S.nc c0) (.slice a1 S.nl c1) (.slice a2 S.nw c2) (d' + 1 + 1) ((((y5.setCell ⟨rb, 0, none⟩ (.int .i64 rc)).setCell ⟨rb, 1, none⟩ (.slice g0 R.nc q0)).setCell ⟨rb, 2, none⟩ (.slice g1 R.nl q1)).setCell ⟨rb, 3, none⟩ (.slice g2 R.nw q2)) ∧ RQ w (.slice a0 S.nc c0) (.slice a1 S.nl c1) (.slice a2 S.nw c2) rb rc R (.slice g0 R.nc q0) (.slice g1 R.nl q1) (.slice g2 R.nw q2) ((((y5.setCell ⟨rb, 0, none⟩ (.int .i64 rc)).setCell ⟨rb, 1, none⟩ (.slice g0 R.nc q0)).setCell ⟨rb, 2, none⟩ (.slice g1 R.nl q1)).setCell ⟨rb, 3, none⟩ (.slice g2 R.nw q2))) := HD.out.put RB.out HP.out.2.2 HP.out.2.1 HN.out rc
    refine hK.out _ _ (show BoxS _ _ _ _ _ from HF.out.1.box) (fun hS => ?_)
    clear hK K
    refine wpAnyH_done (by kernel_rfl) ?_ _
    clear hS e0 e1 e2 e3 f0 f1 f2 f3
    go_simp
    generalize (((y5.setCell ⟨rb, 0, none⟩ (.int .i64 rc)).setCell ⟨rb, 1, none⟩ (.slice g0 R.nc q0)).setCell ⟨rb, 2, none⟩ (.slice g1 R.nl q1)).setCell ⟨rb, 3, none⟩ (.slice g2 R.nw q2) = y6 at HF ⊢
    go_wp2_with fail
    go_meet
    case rel => exact ⟨rb, rc, R, g0, q0, g1, q1, g2, q2, _, rfl, ⟨by omega, by omega⟩, HP.out.1, HF.out.1, HF.out.2⟩
  case rest =>
  clear HD
  obtain ⟨rb, rc, R, g0, q0, g1, q1, g2, q2, d2, rfl, hd2, HR, HD, HQ⟩ := hcut
  go_wp2_with fail
  refine (l1Next_any _ b o len cap d2 5 HD.out.src (by omega) hl).mono ?_
  rintro e w6 ⟨sw, rfl, x0, x1, hS6, hT6⟩
  have x2 : sw < 5 := x1 (by omega)
  have HD : Hid (DrS w b o len cap S (.slice a0 S.nc c0) (.slice a1 S.nl c1) (.slice a2 S.nw c2) (d2 + 1) w6) := HD.out.step hT6 hS6
  have HQ : Hid (RQ w (.slice a0 S.nc c0) (.slice a1 S.nl c1) (.slice a2 S.nw c2) rb rc R (.slice g0 R.nc q0) (.slice g1 R.nl q1) (.slice g2 R.nw q2) w6) := HQ.out.step hT6 HB.out
  clear hS6 hT6 x1
  have hsw : sw = 0 ∨ sw = 1 ∨ sw = 2 ∨ sw = 3 ∨ sw = 4 := by omega
  clear x0 x2
  rcases hsw with rfl | rfl | rfl | rfl | rfl
  ·go_wp2_with fail
   refine wp_region_held_drew (S := BoxS (w.heap.size + 1) (.slice a0 S.nc c0) (.slice a1 S.nl c1) (.slice a2 S.nw c2)) (by kernel_rfl) (HD.out.box.kept rfl) (fun hS => ?_)
   have HD : Hid (DrS w b o len cap S (.slice a0 S.nc c0) (.slice a1 S.nl c1) (.slice a2 S.nw c2) (d2 + 1) w6.drew) := HD.out.later (below_dr (Below.refl _ _) 1)
   have HQ : Hid (RQ w (.slice a0 S.nc c0) (.slice a1 S.nl c1) (.slice a2 S.nw c2) rb rc R (.slice g0 R.nc q0) (.slice g1 R.nl q1) (.slice g2 R.nw q2) w6.drew) := HQ.out.later (below_dr (Below.refl _ _) 1)
   generalize w6.drew = w7 at HD HQ hS ⊢
   refine tkH 0 ?_ hS (fun wx hx => ?_) ?_; rotate_left
   ·obtain ⟨⟨hx0, hx1, hx2⟩, _⟩ := hx; go_simp; try with_reducible rfl
   refine tkH 1 ?_ hS (fun wx hx => ?_) ?_; rotate_left
   ·obtain ⟨⟨hx0, hx1, hx2⟩, _⟩ := hx; go_simp; try with_reducible rfl
   refine tkH 2 ?_ hS (fun wx hx => ?_) ?_; rotate_left
   ·obtain ⟨⟨hx0, hx1, hx2⟩, _⟩ := hx; go_simp; try with_reducible rfl
   refine tkH 3 ?_ hS (fun wx hx => ?_) ?_; rotate_left
   ·obtain ⟨⟨hx0, hx1, hx2⟩, _⟩ := hx; go_simp; try with_reducible rfl
   refine tkH 4 ?_ hS (fun wx hx => ?_) ?_; rotate_left
   ·obtain ⟨⟨hx0, hx1, hx2⟩, _⟩ := hx; go_simp; try with_reducible rfl
   refine tkH 5 ?_ hS (fun wx hx => ?_) ?_; rotate_left
   ·obtain ⟨⟨hx0, hx1, hx2⟩, _⟩ := hx; go_simp; try with_reducible rfl
   refine rdH 6 (fun K hK => ?_)
   go_simp
   go_wp2_with fail
   refine (l1Next_any _ b o len cap (d2 + 1) 9 HD.out.src (by omega) hl).mono ?_
   rintro e w8 ⟨cx, rfl, _, _, hS8, hT8⟩
   have HD : Hid (DrS w b o len cap S (.slice a0 S.nc c0) (.slice a1 S.nl c1) (.slice a2 S.nw c2) (d2 + 1 + 1) w8) := HD.out.step hT8 hS8
   have HQ : Hid (RQ w (.slice a0 S.nc c0) (.slice a1 S.nl c1) (.slice a2 S.nw c2) rb rc R (.slice g0 R.nc q0) (.slice g1 R.nl q1) (.slice g2 R.nw q2) w8) := HQ.out.step hT8 HB.out
   have hS' : BoxS (w.heap.size + 1) (.slice a0 S.nc c0) (.slice a1 S.nl c1) (.slice a2 S.nw c2) w8 := HD.out.box
   clear hS8 hT8
   go_wp2_with fail
   refine hK.out _ _ hS' (fun hS => ?_)
   clear hK K hS'
   refine tkH 7 ?_ hS (fun wx hx => ?_) ?_; rotate_left
   ·obtain ⟨⟨hx0, hx1, hx2⟩, _⟩ := hx; go_simp; try with_reducible rfl
   refine rdH 8 (fun K hK => ?_)
   go_simp
   go_wp2_with fail
   refine (commitDraw_any S _ _ _ _ _ _ 0 _ (HD.out.own.st.mono (Nat.zero_le _))).mono ?_
   rintro e w9 ⟨rc2, R2, hR2, h0, p0, h1, p1, h2, p2, rfl, o9, q9⟩
   have HP : Hid ((Sz R2 ∧ w.heap.size + 2 ≤ w8.heap.size ∧ OwnS w9 w8.heap.size R2 (.slice h0 R2.nc p0) (.slice h1 R2.nl p1) (.slice h2 R2.nw p2)) ∧ ∀ v ∈ [(.slice h0 R2.nc p0 : Value), .slice h1 R2.nl p1, .slice h2 R2.nw p2], v.ownBlock ≠ some rb) := ⟨⟨hR2, HD.out.sz, o9⟩, o9.off HQ.out.blk.2.1.lt⟩
   have HD : Hid (DrS w b o len cap S (.slice a0 S.nc c0) (.slice a1 S.nl c1) (.slice a2 S.nw c2) (d2 + 1 + 1) w9) := HD.out.later q9
   have HQ : Hid (RQ w (.slice a0 S.nc c0) (.slice a1 S.nl c1) (.slice a2 S.nw c2) rb rc R (.slice g0 R.nc q0) (.slice g1 R.nl q1) (.slice g2 R.nw q2) w9) := HQ.out.later q9
   have hS' : BoxS (w.heap.size + 1) (.slice a0 S.nc c0) (.slice a1 S.nl c1) (.slice a2 S.nw c2) w9 := HD.out.box
   clear o9 q9 hR2
   go_wp2_with fail
   refine hK.out _ _ hS' (fun hS => ?_)
   clear hK K hS'
   obtain ⟨⟨e0, e1, e2, e3⟩, f0, f1, f2, f3⟩ := HQ.out.blk.2.1
   refine rdH 9 (fun K hK => ?_)
   go_simp
   have HF : Hid (DrS w b o len cap S (.slice a0 S.nc c0) (.slice a1 S.nl c1) (.slice a2 S.nw c2) (d2 + 1 + 1) ((((w9.setCell ⟨rb, 0, none⟩ (.int .i64 rc2)).setCell ⟨rb, 1, none⟩ (.slice h0 R2.nc p0)).setCell ⟨rb, 2, none⟩ (.slice h1 R2.nl p1)).setCell ⟨rb, 3, none⟩ (.slice h2 R2.nw p2)) ∧ RQ w (.slice a0 S.nc c0) (.slice a1 S.nl c1) (.slice a2 S.nw c2) rb rc2 R2 (.slice h0 R2.nc p0) (.slice h1 R2.nl p1) (.slice h2 R2.nw p2) ((((w9.setCell ⟨rb, 0, none⟩ (.int .i64 rc2)).setCell ⟨rb, 1, none⟩ (.slice h0 R2.nc p0)).setCell ⟨rb, 2, none⟩ (.slice h1 R2.nl p1)).setCell ⟨rb, 3, none⟩ (.slice h2 R2.nw p2))) := HD.out.put HQ.out.blk HP.out.1.2.2 HP.out.1.2.1 HP.out.2 rc2
   refine hK.out _ _ (show BoxS _ _ _ _ _ from HF.out.1.box) (fun hS => ?_)
   clear hK K
   refine wpAnyH_done (by kernel_rfl) ?_ _
   clear hS e0 e1 e2 e3 f0 f1 f2 f3 HD HQ HR
   go_simp
   generalize ((((w9.setCell ⟨rb, 0, none⟩ (.int .i64 rc2)).setCell ⟨rb, 1, none⟩ (.slice h0 R2.nc p0)).setCell ⟨rb, 2, none⟩ (.slice h1 R2.nl p1)).setCell ⟨rb, 3, none⟩ (.slice h2 R2.nw p2)) = y6 at HF ⊢
   have HD := hid_mk HF.out.1
   have HQ := hid_mk HF.out.2
   have HR : Hid (Sz R2) := HP.out.1.1
   clear HF HP
   go_upto_region 21 with fail
   obtain ⟨⟨e0, e1, e2, e3⟩, _⟩ := HQ.out.blk.2.1
   obtain ⟨⟨t0, t1, t2⟩, ft0, ft1, ft2⟩ := HD.out.box
   by_cases hrc : rc2 = 0
   ·have dr : (rc2 == 0) = true := by rw [hrc]; rfl
    have HX := HD.out.take HQ.out
    clear hrc
    go_wp2
    go_roundw
    case rel => exact ⟨z - 1, R2, h0, p0, h1, p1, h2, p2, _, by go_num, by omega, ⟨by omega, by omega⟩, HR, HX⟩
    case measure => simp [intOf]; omega
   ·have dr : (rc2 == 0) = false := beq_eq_false_iff_ne.2 hrc
    clear hrc
    go_wp2
    go_roundw
    case rel => exact ⟨z - 1, S, a0, c0, a1, c1, a2, c2, _, by go_num, by omega, ⟨by omega, by omega⟩, HZ, HD⟩
    case measure => simp [intOf]; omega
  ·go_wp2_with fail
   refine wp_region_held_drew (S := BoxS (w.heap.size + 1) (.slice a0 S.nc c0) (.slice a1 S.nl c1) (.slice a2 S.nw c2)) (by kernel_rfl) (HD.out.box.kept rfl) (fun hS => ?_)
   have HD : Hid (DrS w b o len cap S (.slice a0 S.nc c0) (.slice a1 S.nl c1) (.slice a2 S.nw c2) (d2 + 1) w6.drew) := HD.out.later (below_dr (Below.refl _ _) 1)
   have HQ : Hid (RQ w (.slice a0 S.nc c0) (.slice a1 S.nl c1) (.slice a2 S.nw c2) rb rc R (.slice g0 R.nc q0) (.slice g1 R.nl q1) (.slice g2 R.nw q2) w6.drew) := HQ.out.later (below_dr (Below.refl _ _) 1)
   generalize w6.drew = w7 at HD HQ hS ⊢
   refine tkH 0 ?_ hS (fun wx hx => ?_) ?_; rotate_left
   ·obtain ⟨⟨hx0, hx1, hx2⟩, _⟩ := hx; go_simp; try with_reducible rfl
   refine tkH 1 ?_ hS (fun wx hx => ?_) ?_; rotate_left
   ·obtain ⟨⟨hx0, hx1, hx2⟩, _⟩ := hx; go_simp; try with_reducible rfl
   refine tkH 2 ?_ hS (fun wx hx => ?_) ?_; rotate_left
   ·obtain ⟨⟨hx0, hx1, hx2⟩, _⟩ := hx; go_simp; try with_reducible rfl
   refine tkH 3 ?_ hS (fun wx hx => ?_) ?_; rotate_left
   ·obtain ⟨⟨hx0, hx1, hx2⟩, _⟩ := hx; go_simp; try with_reducible rfl
   refine tkH 4 ?_ hS (fun wx hx => ?_) ?_; rotate_left
   ·obtain ⟨⟨hx0, hx1, hx2⟩, _⟩ := hx; go_simp; try with_reducible rfl
   refine tkH 5 ?_ hS (fun wx hx => ?_) ?_; rotate_left
   ·obtain ⟨⟨hx0, hx1, hx2⟩, _⟩ := hx; go_simp; try with_reducible rfl
   refine rdH 6 (fun K hK => ?_)
   go_simp
   go_wp2_with fail
   refine (l1Next_any _ b o len cap (d2 + 1) 9 HD.out.src (by omega) hl).mono ?_
   rintro e w8 ⟨cx, rfl, _, _, hS8, hT8⟩
   have HD : Hid (DrS w b o len cap S (.slice a0 S.nc c0) (.slice a1 S.nl c1) (.slice a2 S.nw c2) (d2 + 1 + 1) w8) := HD.out.step hT8 hS8
   have HQ : Hid (RQ w (.slice a0 S.nc c0) (.slice a1 S.nl c1) (.slice a2 S.nw c2) rb rc R (.slice g0 R.nc q0) (.slice g1 R.nl q1) (.slice g2 R.nw q2) w8) := HQ.out.step hT8 HB.out
   have hS' : BoxS (w.heap.size + 1) (.slice a0 S.nc c0) (.slice a1 S.nl c1) (.slice a2 S.nw c2) w8 := HD.out.box
   clear hS8 hT8
   go_wp2_with fail
   refine hK.out _ _ hS' (fun hS => ?_)
   clear hK K hS'
   refine tkH 7 ?_ hS (fun wx hx => ?_) ?_; rotate_left
   ·obtain ⟨⟨hx0, hx1, hx2⟩, _⟩ := hx; go_simp; try with_reducible rfl
   refine rdH 8 (fun K hK => ?_)
   go_simp
   go_wp2_with fail
   refine (commitDraw_any S _ _ _ _ _ _ 0 _ (HD.out.own.st.mono (Nat.zero_le _))).mono ?_
   rintro e w9 ⟨rc2, R2, hR2, h0, p0, h1, p1, h2, p2, rfl, o9, q9⟩
   have HP : Hid ((Sz R2 ∧ w.heap.size + 2 ≤ w8.heap.size ∧ OwnS w9 w8.heap.size R2 (.slice h0 R2.nc p0) (.slice h1 R2.nl p1) (.slice h2 R2.nw p2)) ∧ ∀ v ∈ [(.slice h0 R2.nc p0 : Value), .slice h1 R2.nl p1, .slice h2 R2.nw p2], v.ownBlock ≠ some rb) := ⟨⟨hR2, HD.out.sz, o9⟩, o9.off HQ.out.blk.2.1.lt⟩
   have HD : Hid (DrS w b o len cap S (.slice a0 S.nc c0) (.slice a1 S.nl c1) (.slice a2 S.nw c2) (d2 + 1 + 1) w9) := HD.out.later q9
   have HQ : Hid (RQ w (.slice a0 S.nc c0) (.slice a1 S.nl c1) (.slice a2 S.nw c2) rb rc R (.slice g0 R.nc q0) (.slice g1 R.nl q1) (.slice g2 R.nw q2) w9) := HQ.out.later q9
   have hS' : BoxS (w.heap.size + 1) (.slice a0 S.nc c0) (.slice a1 S.nl c1) (.slice a2 S.nw c2) w9 := HD.out.box
   clear o9 q9 hR2
   go_wp2_with fail
   refine hK.out _ _ hS' (fun hS => ?_)
   clear hK K hS'
   obtain ⟨⟨e0, e1, e2, e3⟩, f0, f1, f2, f3⟩ := HQ.out.blk.2.1
   refine rdH 9 (fun K hK => ?_)
   go_simp
   have HF : Hid (DrS w b o len cap S (.slice a0 S.nc c0) (.slice a1 S.nl c1) (.slice a2 S.nw c2) (d2 + 1 + 1) ((((w9.setCell ⟨rb, 0, none⟩ (.int .i64 rc2)).setCell ⟨rb, 1, none⟩ (.slice h0 R2.nc p0)).setCell ⟨rb, 2, none⟩ (.slice h1 R2.nl p1)).setCell ⟨rb, 3, none⟩ (.slice h2 R2.nw p2)) ∧ RQ w (.slice a0 S.nc c0) (.slice a1 S.nl c1) (.slice a2 S.nw c2) rb rc2 R2 (.slice h0 R2.nc p0) (.slice h1 R2.nl p1) (.slice h2 R2.nw p2) ((((w9.setCell ⟨rb, 0, none⟩ (.int .i64 rc2)).setCell ⟨rb, 1, none⟩ (.slice h0 R2.nc p0)).setCell ⟨rb, 2, none⟩ (.slice h1 R2.nl p1)).setCell ⟨rb, 3, none⟩ (.slice h2 R2.nw p2))) := HD.out.put HQ.out.blk HP.out.1.2.2 HP.out.1.2.1 HP.out.2 rc2
   refine hK.out _ _ (show BoxS _ _ _ _ _ from HF.out.1.box) (fun hS => ?_)
   clear hK K
   refine wpAnyH_done (by kernel_rfl) ?_ _
   clear hS e0 e1 e2 e3 f0 f1 f2 f3 HD HQ HR
   go_simp
   generalize ((((w9.setCell ⟨rb, 0, none⟩ (.int .i64 rc2)).setCell ⟨rb, 1, none⟩ (.slice h0 R2.nc p0)).setCell ⟨rb, 2, none⟩ (.slice h1 R2.nl p1)).setCell ⟨rb, 3, none⟩ (.slice h2 R2.nw p2)) = y6 at HF ⊢
   have HD := hid_mk HF.out.1
   have HQ := hid_mk HF.out.2
   have HR : Hid (Sz R2) := HP.out.1.1
   clear HF HP
   go_upto_region 21 with fail
   obtain ⟨⟨e0, e1, e2, e3⟩, _⟩ := HQ.out.blk.2.1
   obtain ⟨⟨t0, t1, t2⟩, ft0, ft1, ft2⟩ := HD.out.box
   by_cases hrc : rc2 = 0
   ·have dr : (rc2 == 0) = true := by rw [hrc]; rfl
    have HX := HD.out.take HQ.out
    clear hrc
    go_wp2
    go_roundw
    case rel => exact ⟨z - 1, R2, h0, p0, h1, p1, h2, p2, _, by go_num, by omega, ⟨by omega, by omega⟩, HR, HX⟩
    case measure => simp [intOf]; omega
   ·have dr : (rc2 == 0) = false := beq_eq_false_iff_ne.2 hrc
    clear hrc
    go_wp2
    go_roundw
    case rel => exact ⟨z - 1, S, a0, c0, a1, c1, a2, c2, _, by go_num, by omega, ⟨by omega, by omega⟩, HZ, HD⟩
    case measure => simp [intOf]; omega
  ·obtain ⟨⟨t0, t1, t2⟩, _⟩ := HD.out.box
   go_wp2_with fail
   refine (rollDraw_any S _ _ _ _ _ 0 _ (HD.out.own.st.mono (Nat.zero_le _))).mono ?_
   rintro e w9 ⟨rc2, R2, hR2, h0, p0, h1, p1, h2, p2, rfl, o9, q9⟩
   have HP : Hid ((Sz R2 ∧ w.heap.size + 2 ≤ w6.heap.size ∧ OwnS w9 w6.heap.size R2 (.slice h0 R2.nc p0) (.slice h1 R2.nl p1) (.slice h2 R2.nw p2)) ∧ ∀ v ∈ [(.slice h0 R2.nc p0 : Value), .slice h1 R2.nl p1, .slice h2 R2.nw p2], v.ownBlock ≠ some rb) := ⟨⟨hR2, HD.out.sz, o9⟩, o9.off HQ.out.blk.2.1.lt⟩
   have HD : Hid (DrS w b o len cap S (.slice a0 S.nc c0) (.slice a1 S.nl c1) (.slice a2 S.nw c2) (d2 + 1) w9) := HD.out.later q9
   have HQ : Hid (RQ w (.slice a0 S.nc c0) (.slice a1 S.nl c1) (.slice a2 S.nw c2) rb rc R (.slice g0 R.nc q0) (.slice g1 R.nl q1) (.slice g2 R.nw q2) w9) := HQ.out.later q9
   clear o9 q9 hR2 t0 t1 t2
   obtain ⟨⟨e0, e1, e2, e3⟩, f0, f1, f2, f3⟩ := HQ.out.blk.2.1
   go_upto_region 21 with fail
   have HF : Hid (DrS w b o len cap S (.slice a0 S.nc c0) (.slice a1 S.nl c1) (.slice a2 S.nw c2) (d2 + 1) ((((w9.setCell ⟨rb, 0, none⟩ (.int .i64 rc2)).setCell ⟨rb, 1, none⟩ (.slice h0 R2.nc p0)).setCell ⟨rb, 2, none⟩ (.slice h1 R2.nl p1)).setCell ⟨rb, 3, none⟩ (.slice h2 R2.nw p2)) ∧ RQ w (.slice a0 S.nc c0) (.slice a1 S.nl c1) (.slice a2 S.nw c2) rb rc2 R2 (.slice h0 R2.nc p0) (.slice h1 R2.nl p1) (.slice h2 R2.nw p2) ((((w9.setCell ⟨rb, 0, none⟩ (.int .i64 rc2)).setCell ⟨rb, 1, none⟩ (.slice h0 R2.nc p0)).setCell ⟨rb, 2, none⟩ (.slice h1 R2.nl p1)).setCell ⟨rb, 3, none⟩ (.slice h2 R2.nw p2))) := HD.out.put HQ.out.blk HP.out.1.2.2 HP.out.1.2.1 HP.out.2 rc2
   clear e0 e1 e2 e3 f0 f1 f2 f3 HD HQ HR
   generalize ((((w9.setCell ⟨rb, 0, none⟩ (.int .i64 rc2)).setCell ⟨rb, 1, none⟩ (.slice h0 R2.nc p0)).setCell ⟨rb, 2, none⟩ (.slice h1 R2.nl p1)).setCell ⟨rb, 3, none⟩ (.slice h2 R2.nw p2)) = y6 at HF ⊢
   have HD := hid_mk HF.out.1
   have HQ := hid_mk HF.out.2
   have HR : Hid (Sz R2) := HP.out.1.1
   clear HF HP
   obtain ⟨⟨e0, e1, e2, e3⟩, _⟩ := HQ.out.blk.2.1
   obtain ⟨⟨t0, t1, t2⟩, ft0, ft1, ft2⟩ := HD.out.box
   by_cases hrc : rc2 = 0
   ·have dr : (rc2 == 0) = true := by rw [hrc]; rfl
    have HX := HD.out.take HQ.out
    clear hrc
    go_wp2
    go_roundw
    case rel => exact ⟨z - 1, R2, h0, p0, h1, p1, h2, p2, _, by go_num, by omega, ⟨by omega, by omega⟩, HR, HX⟩
    case measure => simp [intOf]; omega
   ·have dr : (rc2 == 0) = false := beq_eq_false_iff_ne.2 hrc
    clear hrc
    go_wp2
    go_roundw
    case rel => exact ⟨z - 1, S, a0, c0, a1, c1, a2, c2, _, by go_num, by omega, ⟨by omega, by omega⟩, HZ, HD⟩
    case measure => simp [intOf]; omega
  ·go_upto_region 21 with fail
   obtain ⟨⟨e0, e1, e2, e3⟩, _⟩ := HQ.out.blk.2.1
   obtain ⟨⟨t0, t1, t2⟩, ft0, ft1, ft2⟩ := HD.out.box
   by_cases hrc : rc = 0
   ·have dr : (rc == 0) = true := by rw [hrc]; rfl
    have HX := HD.out.take HQ.out
    clear hrc
    go_wp2
    go_roundw
    case rel => exact ⟨z - 1, R, g0, q0, g1, q1, g2, q2, _, by go_num, by omega, ⟨by omega, by omega⟩, HR, HX⟩
    case measure => simp [intOf]; omega
   ·have dr : (rc == 0) = false := beq_eq_false_iff_ne.2 hrc
    clear hrc
    go_wp2
    go_roundw
    case rel => exact ⟨z - 1, S, a0, c0, a1, c1, a2, c2, _, by go_num, by omega, ⟨by omega, by omega⟩, HZ, HD⟩
    case measure => simp [intOf]; omega
  ·go_upto_region 21 with fail
   obtain ⟨⟨e0, e1, e2, e3⟩, _⟩ := HQ.out.blk.2.1
   obtain ⟨⟨t0, t1, t2⟩, ft0, ft1, ft2⟩ := HD.out.box
   by_cases hrc : rc = 0
   ·have dr : (rc == 0) = true := by rw [hrc]; rfl
    have HX := HD.out.take HQ.out
    clear hrc
    go_wp2
    go_roundw
    case rel => exact ⟨z - 1, R, g0, q0, g1, q1, g2, q2, _, by go_num, by omega, ⟨by omega, by omega⟩, HR, HX⟩
    case measure => simp [intOf]; omega
   ·have dr : (rc == 0) = false := beq_eq_false_iff_ne.2 hrc
    clear hrc
    go_wp2
    go_roundw
    case rel => exact ⟨z - 1, S, a0, c0, a1, c1, a2, c2, _, by go_num, by omega, ⟨by omega, by omega⟩, HZ, HD⟩
    case measure => simp [intOf]; omega
end Go.Proofs.YtiadbiiiikhfaaaGreatDoor

namespace Go.Proofs.YtiadbiiiikhfaaaGreatDoor
open Go.RowKit

def Sz2 (R : Sto) : Prop := R.nc ≤ 202 ∧ R.nl ≤ 202 ∧ R.nw ≤ 202
/-- A drawn store in its box (block bx), its rows its own. -/
structure DrB (w : World) (b : Nat) (o : Option Addr) (len cap bx : Nat) (S : Sto) (v0 v1 v2 : Value) (a : Int) (x : World) : Prop where
 src : Src x b o len cap a
 but : But b w x
 res : Blk3 x w.heap.size (.slice none 0 0) (.slice none 0 0) (.slice none 0 0)
 box : Blk3 x bx v0 v1 v2
 own : OwnS x (w.heap.size + 1) S v0 v1 v2
 ne : ∀ v ∈ [v0, v1, v2], v.ownBlock ≠ some bx
 lo : b < w.heap.size
 bl : w.heap.size < bx
 base : ∃ z, Src w b o len cap z
theorem DrB.step {w : World} {b : Nat} {o : Option Addr} {len cap bx : Nat} {S : Sto} {v0 v1 v2 : Value} {a a' : Int} {x x' : World} (h : DrB w b o len cap bx S v0 v1 v2 a x) (hT : But b x x') (hS : Src x' b o len cap a') : DrB w b o len cap bx S v0 v1 v2 a' x' where
 src := hS
 but := h.but.trans hT
 res := h.res.butS hT (by have := h.lo; omega)
 box := h.box.butS hT (by have := h.lo; have := h.bl; omega)
 own := h.own.keptS (fun k hk hl => hT.block k hl (fun e => by have := Option.some.inj e; have := h.lo; omega))
 ne := h.ne
 lo := h.lo
 bl := h.bl
 base := h.base
theorem DrB.later {w : World} {b : Nat} {o : Option Addr} {len cap bx : Nat} {S : Sto} {v0 v1 v2 : Value} {a : Int} {x x' : World} (h : DrB w b o len cap bx S v0 v1 v2 a x) (hb : Below x.heap.size x x') : DrB w b o len cap bx S v0 v1 v2 a x' :=
 h.step ((But.refl _ _).below hb) (h.src.later hb)
/-- A drawn store in its box, whatever its rows are. -/
structure DrF (w : World) (b : Nat) (o : Option Addr) (len cap bx : Nat) (S : Sto) (v0 v1 v2 : Value) (a : Int) (x : World) : Prop where
 src : Src x b o len cap a
 but : But b w x
 res : Blk3 x w.heap.size (.slice none 0 0) (.slice none 0 0) (.slice none 0 0)
 box : Blk3 x bx v0 v1 v2
 st : St x (w.heap.size + 1) S v0 v1 v2
 sz : Sz2 S
 base : ∃ z, Src w b o len cap z
theorem DrB.f {w : World} {b : Nat} {o : Option Addr} {len cap bx : Nat} {S : Sto} {v0 v1 v2 : Value} {a : Int} {x : World} (h : DrB w b o len cap bx S v0 v1 v2 a x) (hz : Sz S) : DrF w b o len cap bx S v0 v1 v2 a x := ⟨h.src, h.but, h.res, h.box, h.own.st, ⟨by have := hz.1; omega, by have := hz.2.1; omega, by have := hz.2.2; omega⟩, h.base⟩
theorem St.setO {x : World} {B : Nat} {S : Sto} {v0 v1 v2 : Value} (h : St x B S v0 v1 v2) {c : Nat} (hc : ∀ v ∈ [v0, v1, v2], v.ownBlock ≠ some c) (j : Nat) (u : Value) : St (x.setCell ⟨c, j, none⟩ u) B S v0 v1 v2 := by
 have kp : ∀ {m n : Nat} {F : Nat → Int} {v : Value}, Row x B m n F v → v.ownBlock ≠ some c → Row (x.setCell ⟨c, j, none⟩ u) B m n F v := fun {m n F v} hr hv => by
  obtain ⟨ao, cp, rfl, hr⟩ := hr
  refine ⟨ao, cp, rfl, fun hn => ?_⟩
  obtain ⟨g, o, rfl, h1, h2, h3⟩ := hr hn
  refine ⟨g, o, rfl, h1, by simpa [World.setCell] using h2, fun p hp => ?_⟩
  rw [World.cell?_setCell_other _ _ _ _ (by intro e; simp at e; exact hv (by simp [Value.ownBlock, e.1]))]
  exact h3 p hp
 exact ⟨kp h.1 (hc v0 (by simp)), kp h.2.1 (hc v1 (by simp)), kp h.2.2 (hc v2 (by simp))⟩
/-- A drawn store whose rows are laid anew, its box not yet. -/
structure DrW (w : World) (b : Nat) (o : Option Addr) (len cap bx : Nat) (T : Sto) (u0 u1 u2 v0 v1 v2 : Value) (a : Int) (x : World) : Prop where
 src : Src x b o len cap a
 but : But b w x
 res : Blk3 x w.heap.size (.slice none 0 0) (.slice none 0 0) (.slice none 0 0)
 box : Blk3 x bx v0 v1 v2
 st : St x (w.heap.size + 1) T u0 u1 u2
 ne : ∀ u ∈ [u0, u1, u2], u.ownBlock ≠ some bx
 sz : Sz2 T
 bl : w.heap.size < bx
 base : ∃ z, Src w b o len cap z
theorem DrW.store0 {w : World} {b : Nat} {o : Option Addr} {len cap bx : Nat} {T : Sto} {u0 u1 u2 v : Value} {a : Int} {x : World} (h : DrW w b o len cap bx T u0 u1 u2 v u1 u2 a x) : DrF w b o len cap bx T u0 u1 u2 a (x.setCell ⟨bx, 0, none⟩ u0) := by
 obtain ⟨z, h0⟩ := h.base
 have hb := h.bl
 exact {
  src := h.src.setS h0 h.but (by omega) _ _
  but := h.but.setS (by omega) _ _
  res := h.res.kept (Below.heap_setCell _ _ _ _ (by show w.heap.size ≠ bx; omega))
  box := h.box.set0 u0
  st := h.st.setO h.ne _ _
  sz := h.sz
  base := h.base }
theorem DrW.store1 {w : World} {b : Nat} {o : Option Addr} {len cap bx : Nat} {T : Sto} {u0 u1 u2 v : Value} {a : Int} {x : World} (h : DrW w b o len cap bx T u0 u1 u2 u0 v u2 a x) : DrF w b o len cap bx T u0 u1 u2 a (x.setCell ⟨bx, 1, none⟩ u1) := by
 obtain ⟨z, h0⟩ := h.base
 have hb := h.bl
 exact {
  src := h.src.setS h0 h.but (by omega) _ _
  but := h.but.setS (by omega) _ _
  res := h.res.kept (Below.heap_setCell _ _ _ _ (by show w.heap.size ≠ bx; omega))
  box := h.box.set1 u1
  st := h.st.setO h.ne _ _
  sz := h.sz
  base := h.base }
theorem DrW.store2 {w : World} {b : Nat} {o : Option Addr} {len cap bx : Nat} {T : Sto} {u0 u1 u2 v : Value} {a : Int} {x : World} (h : DrW w b o len cap bx T u0 u1 u2 u0 u1 v a x) : DrF w b o len cap bx T u0 u1 u2 a (x.setCell ⟨bx, 2, none⟩ u2) := by
 obtain ⟨z, h0⟩ := h.base
 have hb := h.bl
 exact {
  src := h.src.setS h0 h.but (by omega) _ _
  but := h.but.setS (by omega) _ _
  res := h.res.kept (Below.heap_setCell _ _ _ _ (by show w.heap.size ≠ bx; omega))
  box := h.box.set2 u2
  st := h.st.setO h.ne _ _
  sz := h.sz
  base := h.base }
theorem DrB.app0 {w : World} {b : Nat} {o : Option Addr} {len cap bx : Nat} {S : Sto} {v0 v1 v2 : Value} {a : Int} {y2 y3 : World} (h : DrB w b o len cap bx S v0 v1 v2 a y2) (hz : Sz S) {ao : Option Addr} {cp : Nat} {L : List Int} (O5 : OwnM y3 (w.heap.size + 1) 93 3 (.slice ao (S.nc + 1) cp) (S.nc + 1) L) (hL : L.length = (S.nc + 1) * 3) (G5 : y2.grownBy y3 v0.ownBlock) (hw : (Value.slice ao (S.nc + 1) cp).ownBlock = v0.ownBlock ∨ (Value.slice ao (S.nc + 1) cp).ownBlock = some y2.heap.size) :
  DrW w b o len cap bx ⟨S.nc + 1, fun p => L.getD p 0, S.nl, S.l, S.nw, S.k⟩ (.slice ao (S.nc + 1) cp) v1 v2 v0 v1 v2 a y3 := by
 obtain ⟨z, h0⟩ := h.base
 have lo := h.lo
 have bl := h.bl
 have hsz := h.but.size
 have hbx := h.box.lt
 have kb : ∀ k, k < y2.heap.size → v0.ownBlock ≠ some k → y3.heap[k]? = y2.heap[k]? := fun k hk hne => G5.block k hk (fun e => hne e.symm)
 have nlo : ∀ k, k ≤ w.heap.size → v0.ownBlock ≠ some k := fun k hk e => by have := (own_blk h.own.1.1 k e).1; omega
 have nb : (Value.slice ao (S.nc + 1) cp).ownBlock ≠ some bx := by
  rcases hw with e | e
  ·rw [e]; exact h.ne v0 (by simp)
  ·rw [e]; intro e'; have := Option.some.inj e'; omega
 have hB : But b w y3 := ⟨G5.os.trans h.but.os, G5.tape.trans h.but.tape, G5.output.trans h.but.output, Nat.le_trans hsz G5.size, fun i hi hne => (kb i (by omega) (nlo i (by omega))).trans (h.but.block i hi hne)⟩
 have kbb := kb b (by omega) (nlo b (by omega))
 exact {
  src := ⟨(World.cell?_of_block (w := y2) (a := ⟨b, 0, none⟩) kbb).trans h.src.code, (World.cell?_of_block (w := y2) (a := ⟨b, 1, none⟩) kbb).trans h.src.count, (World.frozen?_of_block (w := y2) (a := ⟨b, 1, none⟩) kbb).trans h.src.live, h.src.pos, fun j hj => by
   obtain ⟨g, off', n, e1, e2, e3, e4⟩ := h0.bytes j hj
   exact ⟨g, off', n, e1, e2, hB.cell e3 e2, e4⟩⟩
  but := hB
  res := h.res.kept (kb _ (by omega) (nlo _ (Nat.le_refl _)))
  box := h.box.kept (kb bx hbx (h.ne v0 (by simp)))
  st := ⟨(O5.own hL).row.1, (own_kept h.own.1.2.1 (fun k hk => kb k (own_blk h.own.1.2.1 k hk).2 (fun e => h.own.2.1 k e hk))).row.1, (own_kept h.own.1.2.2 (fun k hk => kb k (own_blk h.own.1.2.2 k hk).2 (fun e => h.own.2.2.1 k e hk))).row.1⟩
  ne := fun u hu => by
   simp only [List.mem_cons, List.not_mem_nil, or_false] at hu
   rcases hu with rfl | rfl | rfl
   ·exact nb
   ·exact h.ne _ (by simp)
   ·exact h.ne _ (by simp)
  sz := ⟨by have := hz.1; show S.nc + 1 ≤ 202; omega, by have := hz.2.1; show S.nl ≤ 202; omega, by have := hz.2.2; show S.nw ≤ 202; omega⟩
  bl := bl
  base := ⟨z, h0⟩ }
theorem DrB.app1 {w : World} {b : Nat} {o : Option Addr} {len cap bx : Nat} {S : Sto} {v0 v1 v2 : Value} {a : Int} {y2 y3 : World} (h : DrB w b o len cap bx S v0 v1 v2 a y2) (hz : Sz S) {ao : Option Addr} {cp : Nat} {L : List Int} (O5 : OwnM y3 (w.heap.size + 1) 40 5 (.slice ao (S.nl + 1) cp) (S.nl + 1) L) (hL : L.length = (S.nl + 1) * 5) (G5 : y2.grownBy y3 v1.ownBlock) (hw : (Value.slice ao (S.nl + 1) cp).ownBlock = v1.ownBlock ∨ (Value.slice ao (S.nl + 1) cp).ownBlock = some y2.heap.size) :
  DrW w b o len cap bx ⟨S.nc, S.c, S.nl + 1, fun p => L.getD p 0, S.nw, S.k⟩ v0 (.slice ao (S.nl + 1) cp) v2 v0 v1 v2 a y3 := by
 obtain ⟨z, h0⟩ := h.base
 have lo := h.lo
 have bl := h.bl
 have hsz := h.but.size
 have hbx := h.box.lt
 have kb : ∀ k, k < y2.heap.size → v1.ownBlock ≠ some k → y3.heap[k]? = y2.heap[k]? := fun k hk hne => G5.block k hk (fun e => hne e.symm)
 have nlo : ∀ k, k ≤ w.heap.size → v1.ownBlock ≠ some k := fun k hk e => by have := (own_blk h.own.1.2.1 k e).1; omega
 have nb : (Value.slice ao (S.nl + 1) cp).ownBlock ≠ some bx := by
  rcases hw with e | e
  ·rw [e]; exact h.ne v1 (by simp)
  ·rw [e]; intro e'; have := Option.some.inj e'; omega
 have hB : But b w y3 := ⟨G5.os.trans h.but.os, G5.tape.trans h.but.tape, G5.output.trans h.but.output, Nat.le_trans hsz G5.size, fun i hi hne => (kb i (by omega) (nlo i (by omega))).trans (h.but.block i hi hne)⟩
 have kbb := kb b (by omega) (nlo b (by omega))
 exact {
  src := ⟨(World.cell?_of_block (w := y2) (a := ⟨b, 0, none⟩) kbb).trans h.src.code, (World.cell?_of_block (w := y2) (a := ⟨b, 1, none⟩) kbb).trans h.src.count, (World.frozen?_of_block (w := y2) (a := ⟨b, 1, none⟩) kbb).trans h.src.live, h.src.pos, fun j hj => by
   obtain ⟨g, off', n, e1, e2, e3, e4⟩ := h0.bytes j hj
   exact ⟨g, off', n, e1, e2, hB.cell e3 e2, e4⟩⟩
  but := hB
  res := h.res.kept (kb _ (by omega) (nlo _ (Nat.le_refl _)))
  box := h.box.kept (kb bx hbx (h.ne v1 (by simp)))
  st := ⟨(own_kept h.own.1.1 (fun k hk => kb k (own_blk h.own.1.1 k hk).2 (fun e => h.own.2.1 k hk e))).row.1, (O5.own hL).row.1, (own_kept h.own.1.2.2 (fun k hk => kb k (own_blk h.own.1.2.2 k hk).2 (fun e => h.own.2.2.2 k e hk))).row.1⟩
  ne := fun u hu => by
   simp only [List.mem_cons, List.not_mem_nil, or_false] at hu
   rcases hu with rfl | rfl | rfl
   ·exact h.ne _ (by simp)
   ·exact nb
   ·exact h.ne _ (by simp)
  sz := ⟨by have := hz.1; show S.nc ≤ 202; omega, by have := hz.2.1; show S.nl + 1 ≤ 202; omega, by have := hz.2.2; show S.nw ≤ 202; omega⟩
  bl := bl
  base := ⟨z, h0⟩ }
theorem DrB.app2 {w : World} {b : Nat} {o : Option Addr} {len cap bx : Nat} {S : Sto} {v0 v1 v2 : Value} {a : Int} {y2 y3 : World} (h : DrB w b o len cap bx S v0 v1 v2 a y2) (hz : Sz S) {ao : Option Addr} {cp : Nat} {L : List Int} (O5 : OwnM y3 (w.heap.size + 1) 55 4 (.slice ao (S.nw + 1) cp) (S.nw + 1) L) (hL : L.length = (S.nw + 1) * 4) (G5 : y2.grownBy y3 v2.ownBlock) (hw : (Value.slice ao (S.nw + 1) cp).ownBlock = v2.ownBlock ∨ (Value.slice ao (S.nw + 1) cp).ownBlock = some y2.heap.size) :
  DrW w b o len cap bx ⟨S.nc, S.c, S.nl, S.l, S.nw + 1, fun p => L.getD p 0⟩ v0 v1 (.slice ao (S.nw + 1) cp) v0 v1 v2 a y3 := by
 obtain ⟨z, h0⟩ := h.base
 have lo := h.lo
 have bl := h.bl
 have hsz := h.but.size
 have hbx := h.box.lt
 have kb : ∀ k, k < y2.heap.size → v2.ownBlock ≠ some k → y3.heap[k]? = y2.heap[k]? := fun k hk hne => G5.block k hk (fun e => hne e.symm)
 have nlo : ∀ k, k ≤ w.heap.size → v2.ownBlock ≠ some k := fun k hk e => by have := (own_blk h.own.1.2.2 k e).1; omega
 have nb : (Value.slice ao (S.nw + 1) cp).ownBlock ≠ some bx := by
  rcases hw with e | e
  ·rw [e]; exact h.ne v2 (by simp)
  ·rw [e]; intro e'; have := Option.some.inj e'; omega
 have hB : But b w y3 := ⟨G5.os.trans h.but.os, G5.tape.trans h.but.tape, G5.output.trans h.but.output, Nat.le_trans hsz G5.size, fun i hi hne => (kb i (by omega) (nlo i (by omega))).trans (h.but.block i hi hne)⟩
 have kbb := kb b (by omega) (nlo b (by omega))
 exact {
  src := ⟨(World.cell?_of_block (w := y2) (a := ⟨b, 0, none⟩) kbb).trans h.src.code, (World.cell?_of_block (w := y2) (a := ⟨b, 1, none⟩) kbb).trans h.src.count, (World.frozen?_of_block (w := y2) (a := ⟨b, 1, none⟩) kbb).trans h.src.live, h.src.pos, fun j hj => by
   obtain ⟨g, off', n, e1, e2, e3, e4⟩ := h0.bytes j hj
   exact ⟨g, off', n, e1, e2, hB.cell e3 e2, e4⟩⟩
  but := hB
  res := h.res.kept (kb _ (by omega) (nlo _ (Nat.le_refl _)))
  box := h.box.kept (kb bx hbx (h.ne v2 (by simp)))
  st := ⟨(own_kept h.own.1.1 (fun k hk => kb k (own_blk h.own.1.1 k hk).2 (fun e => h.own.2.2.1 k hk e))).row.1, (own_kept h.own.1.2.1 (fun k hk => kb k (own_blk h.own.1.2.1 k hk).2 (fun e => h.own.2.2.2 k hk e))).row.1, (O5.own hL).row.1⟩
  ne := fun u hu => by
   simp only [List.mem_cons, List.not_mem_nil, or_false] at hu
   rcases hu with rfl | rfl | rfl
   ·exact h.ne _ (by simp)
   ·exact h.ne _ (by simp)
   ·exact nb
  sz := ⟨by have := hz.1; show S.nc ≤ 202; omega, by have := hz.2.1; show S.nl ≤ 202; omega, by have := hz.2.2; show S.nw + 1 ≤ 202; omega⟩
  bl := bl
  base := ⟨z, h0⟩ }
theorem own_m {w : World} {B : Nat} {e : TypeId} {m n : Nat} {F : Nat → Int} {v : Value} (h : Own w B e m n F v) : OwnM w B e m v n (nums F (n * m)) := by
 have : vals F (n * m) = (nums F (n * m)).map (Value.int .i64) := by simp [vals, nums, List.map_map, Function.comp_def]
 unfold OwnM
 rw [← this]
 exact h
theorem row_zeros (w : World) (t : TypeId) {B : Nat} (hB : B ≤ w.heap.size) : Row (w.alloc (.cells (madeCells #[.int .i64 0, .int .i64 0, .int .i64 0, .int .i64 0] 804) t)) B 4 201 (fun _ => 0) (.slice (some ⟨w.heap.size, 0, none⟩) 201 201) := by
 refine ⟨_, _, rfl, fun _ => ⟨w.heap.size, 0, rfl, hB, by simp, fun p hp => ?_⟩⟩
 rw [Nat.zero_add, World.cell?_alloc_mark]
 have hs : (madeCells #[Value.int .i64 0, .int .i64 0, .int .i64 0, .int .i64 0] 804).size = 804 := size_madeCells _ _
 rw [Array.getElem?_eq_getElem (by omega)]
 have h4 : p % 4 = 0 ∨ p % 4 = 1 ∨ p % 4 = 2 ∨ p % 4 = 3 := by omega
 simp only [madeCells]
 rcases h4 with e | e | e | e <;> simp [e]
set_option maxRecDepth 100000 in
set_option maxHeartbeats 16000000 in
theorem l3Bent_any (w : World) (b : Nat) (o : Option Addr) (len cap : Nat) (a : Int) (h : Src w b o len cap a) (ha : a ≤ 100000) (hl : len ≤ 1048576) :
  Calls Tryz.prog 68 #[.pointer (some ⟨b, 0, none⟩)] w fun e w' => ∃ (S : Sto) (a0 : Option Addr) (c0 : Nat) (a1 : Option Addr) (c1 : Nat) (a2 : Option Addr) (c2 : Nat) (z : Int), e = .returned (.agg #[.slice a0 S.nc c0, .slice a1 S.nl c1, .slice a2 S.nw c2]) ∧ (Sz2 S ∧ z ≤ a + 800) ∧ St w' w.heap.size S (.slice a0 S.nc c0) (.slice a1 S.nl c1) (.slice a2 S.nw c2) ∧ Src w' b o len cap z ∧ But b w w' := by
 have hbl := h.lt
 have hpos := h.pos
 have H0 : Hid (Src w b o len cap a) := h
 clear h
 go_enter Tryz.func68, Tryz.ntmps68
 go_wp2_with fail
 try dsimp only
 have HH := l3Right_any (w.alloc (.cells #[.slice none 0 0, .slice none 0 0, .slice none 0 0] 28)) b o len cap a (H0.out.alloc _) ha hl
 refine HH.mono ?_
 rintro e w1 ⟨S, a0, c0, a1, c1, a2, c2, c, rfl, ⟨hZ, hc⟩, hO, hS1, hT1⟩
 have hc0 := hS1.pos
 have HZ : Hid (Sz S) := hZ
 have z1 : w.heap.size < w1.heap.size := by have := hT1.size; simp at this; omega
 have HD : Hid (DrB w b o len cap w1.heap.size S (.slice a0 S.nc c0) (.slice a1 S.nl c1) (.slice a2 S.nw c2) c (w1.alloc (.cells #[.slice a0 S.nc c0, .slice a1 S.nl c1, .slice a2 S.nw c2] 28))) := {
  src := hS1.alloc _
  but := (((But.refl _ _).alloc _).trans hT1).alloc _
  res := ((Blk3.new w (.slice none 0 0) (.slice none 0 0) (.slice none 0 0) 28).butS hT1 (by omega)).alloc _
  box := Blk3.new w1 _ _ _ _
  own := (by simpa using hO : OwnS w1 (w.heap.size + 1) S _ _ _).later (below_alloc _ _)
  ne := hO.fresh
  lo := hbl
  bl := z1
  base := ⟨a, H0.out⟩ }
 clear hO hS1 hT1 hZ
 go_wp2_with fail
 generalize w1.alloc (.cells #[.slice a0 S.nc c0, .slice a1 S.nl c1, .slice a2 S.nw c2] 28) = w2 at HD ⊢
 obtain ⟨bx, hbx⟩ : ∃ bx, w1.heap.size = bx := ⟨_, rfl⟩
 rw [hbx] at HD z1 ⊢
 clear hbx
 refine (l1Next_any _ b o len cap c 20 HD.out.src (by omega) hl).mono ?_
 rintro e w3 ⟨sw, rfl, s0, s1, hS3, hT3⟩
 have HD : Hid (DrB w b o len cap bx S (.slice a0 S.nc c0) (.slice a1 S.nl c1) (.slice a2 S.nw c2) (c + 1) w3) := HD.out.step hT3 hS3
 clear hS3 hT3 s1
 go_upto_block 0 with fail
 go_cut [3] (fun s wx => s = .pointer (some ⟨bx, 0, none⟩) ∧ ∃ (T : Sto) (a0 : Option Addr) (c0 : Nat) (a1 : Option Addr) (c1 : Nat) (a2 : Option Addr) (c2 : Nat) (e : Int), (0 ≤ e ∧ e ≤ c + 10) ∧ Hid (DrF w b o len cap bx T (.slice a0 T.nc c0) (.slice a1 T.nl c1) (.slice a2 T.nw c2) e wx))
 case first =>
  have hsw : sw = 0 ∨ sw = 1 ∨ sw = 2 ∨ sw = 3 ∨ sw = 4 ∨ 5 ≤ sw := by omega
  rcases hsw with rfl | rfl | rfl | rfl | rfl | h5
  ·go_wp2_with fail
   refine wp_region_held_drew (S := fun _ => True) (by kernel_rfl) trivial (fun hS => ?_)
   have HD : Hid (DrB w b o len cap bx S (.slice a0 S.nc c0) (.slice a1 S.nl c1) (.slice a2 S.nw c2) (c + 1) w3.drew) := HD.out.later (below_dr (Below.refl _ _) 1)
   generalize w3.drew = y0 at HD ⊢
   refine tkH 0 ?_ hS (fun wx hx => ?_) ?_; rotate_left
   ·go_simp; try with_reducible rfl
   refine tkH 2 ?_ hS (fun wx hx => ?_) ?_; rotate_left
   ·go_simp; try with_reducible rfl
   refine tkH 5 ?_ hS (fun wx hx => ?_) ?_; rotate_left
   ·go_simp; try with_reducible rfl
   refine tkH 8 ?_ hS (fun wx hx => ?_) ?_; rotate_left
   ·go_simp; try with_reducible rfl
   simp only [Act.put, List.getElem_toArray, List.getElem_cons_zero, List.getElem_cons_succ, List.setIfInBounds_toArray, List.set_cons_succ, List.set_cons_zero]
   refine wpAnyH_at (n' := 7 + 5) (L' := mkL [⟨3, 13, 4, 14, 12, [189, 5, 0]⟩, ⟨6, 16, 7, 17, 15, [3, 0]⟩, ⟨9, 19, 10, 20, 18, [3, -1]⟩] ⟨1, 11, .slice a0 S.nc c0⟩ #[true, false, true, false, false, true, false, false, true, false, false, false, false, false, false, false] [false, false, false] false 0) (by kernel_rfl) (by kernel_rfl) ?_
   refine wpAnyH_picks (H := fun x => Blk3 x bx (.slice a0 S.nc c0) (.slice a1 S.nl c1) (.slice a2 S.nw c2)) [⟨3, 13, 4, 14, 12, [189, 5, 0]⟩, ⟨6, 16, 7, 17, 15, [3, 0]⟩, ⟨9, 19, 10, 20, 18, [3, -1]⟩] ⟨1, 11, .slice a0 S.nc c0⟩ #[true, false, true, false, false, true, false, false, true, false, false, false, false, false, false, false] _ y0 b o len cap (c + 1) 5 (by kernel_rfl) (by kernel_rfl) (by kernel_rfl) ?ok ?ld ?sr (fun x x' h hT => h.butS hT (by have := HD.out.lo; have := HD.out.bl; omega)) (fun _ _ => trivial) (by show c + 1 + 3 ≤ 1000000; omega) hl ?cont 7 _ _ 0 _ _ (by kernel_rfl) (Stand.start HD.out.src HD.out.box)
   case ok =>
    intro p hp
    simp only [List.mem_cons, List.not_mem_nil, or_false] at hp
    rcases hp with rfl | rfl | rfl
    ·exact pkOk3 3 13 4 14 12 (189) (5) (0) _ _ rfl rfl rfl rfl rfl rfl rfl _ rfl
    ·exact pkOk2 6 16 7 17 15 (3) (0) _ _ rfl rfl rfl rfl rfl rfl rfl _ rfl
    ·exact pkOk2 9 19 10 20 18 (3) (-1) _ _ rfl rfl rfl rfl rfl rfl rfl _ rfl
   case ld =>
    exact ⟨_, rfl, rfl, rfl, fun a' w' K hag hH hk => wp_loadS 24 (fun _ => by kernel_rfl) 10 rfl rfl bx 0 (by rw [hag 10 (by simp) (by simp)]; rfl) _ hH.1.1 hk⟩
   case sr =>
    intro p hp
    simp only [List.mem_cons, List.not_mem_nil, or_false] at hp
    rcases hp with rfl | rfl | rfl <;> rfl
   case cont =>
    intro e x r y1 hr hsrc hbut hH
    obtain ⟨k0, hk0⟩ : ∃ k, r ⟨3, 13, 4, 14, 12, [189, 5, 0]⟩ = k := ⟨_, rfl⟩
    obtain ⟨x0, hx0⟩ : ∃ k, x ⟨3, 13, 4, 14, 12, [189, 5, 0]⟩ = k := ⟨_, rfl⟩
    obtain ⟨k1, hk1⟩ : ∃ k, r ⟨6, 16, 7, 17, 15, [3, 0]⟩ = k := ⟨_, rfl⟩
    obtain ⟨x1, hx1⟩ : ∃ k, x ⟨6, 16, 7, 17, 15, [3, 0]⟩ = k := ⟨_, rfl⟩
    obtain ⟨k2, hk2⟩ : ∃ k, r ⟨9, 19, 10, 20, 18, [3, -1]⟩ = k := ⟨_, rfl⟩
    obtain ⟨x2, hx2⟩ : ∃ k, x ⟨9, 19, 10, 20, 18, [3, -1]⟩ = k := ⟨_, rfl⟩
    simp only [putAll, hk0, hx0, hk1, hx1, hk2, hx2]
    have HD : Hid (DrB w b o len cap bx S (.slice a0 S.nc c0) (.slice a1 S.nl c1) (.slice a2 S.nw c2) (c + 1 + 3) y1) := HD.out.step hbut hsrc
    clear hr hsrc hbut hH hk0 hx0 hk1 hx1 hk2 hx2
    cases e with
    | true =>
     refine wpAnyH_at (n' := 5) (L' := #[true, true, true, true, true, true, true, true, true, true, true, false, false, false, false, false]) rfl (by kernel_rfl) ?_
     simp only [putE, if_true]
     simp only [Act.put, List.setIfInBounds_toArray, List.set_cons_succ, List.set_cons_zero]
     refine tkH 11 ?_ hS (fun wx hx => ?_) ?_; rotate_left
     ·go_simp; try with_reducible rfl
     refine rdH 12 (fun K hK => ?_)
     go_simp
     have HI : Hid (Row (y1.alloc (.cells #[.int .i64 k0, .int .i64 k1, .int .i64 k2] 93)) 0 3 1 (fun p => [k0, k1, k2].getD p 0) (.slice (some ⟨y1.heap.size, 0, none⟩) 1 1)) := row_lit3 y1 k0 k1 k2 _
     have HD : Hid (DrB w b o len cap bx S (.slice a0 S.nc c0) (.slice a1 S.nl c1) (.slice a2 S.nw c2) (c + 1 + 3) (y1.alloc (.cells #[.int .i64 k0, .int .i64 k1, .int .i64 k2] 93))) := HD.out.later (below_alloc _ _)
     refine hK.out _ _ trivial (fun hS => ?_)
     clear hK K
     generalize y1.alloc (.cells #[.int .i64 k0, .int .i64 k1, .int .i64 k2] 93) = y2 at HD HI ⊢
     obtain ⟨i0, hi, hz0, hz1, hz2⟩ := info_parts info_Cell
     refine rdH 13 (fun K hK => ?_)
     refine step_appL 93 i0 (.agg #[.int .i64 0, .int .i64 0, .int .i64 0]) 3 24 (by rfl) _ _ 24 (by rfl) Tryz.underlying24 hi hz0 hz1 hz2 rfl (by omega) (by omega) _ (w.heap.size + 1) S.nc (nums S.c (S.nc * 3)) (.slice a0 S.nc c0) (by rfl) (own_m HD.out.own.1.1) 0 1 (fun p => [k0, k1, k2].getD p 0) (.slice (some ⟨y1.heap.size, 0, none⟩) 1 1) (by rfl) HI.out (by have := HZ.out; unfold Sz at this; omega) (by have := HD.out.but.size; have := HD.out.box.lt; have := HD.out.bl; omega) ?_
     intro ao5 cp5 y3 O5 G5 W5
     have HW : Hid (DrW w b o len cap bx ⟨S.nc + 1, fun p => (nums S.c (S.nc * 3) ++ nums (fun p => [k0, k1, k2].getD p 0) (1 * 3)).getD p 0, S.nl, S.l, S.nw, S.k⟩ (.slice ao5 (S.nc + 1) cp5) (.slice a1 S.nl c1) (.slice a2 S.nw c2) (.slice a0 S.nc c0) (.slice a1 S.nl c1) (.slice a2 S.nw c2) (c + 1 + 3) y3) := HD.out.app0 HZ.out O5 (by rw [List.length_append, nums_length, nums_length]; omega) G5 W5
     refine hK.out _ _ trivial (fun hS => ?_)
     clear hK K O5 G5 W5 HI HD hi hz0 hz1 hz2
     refine tkH 14 ?_ hS (fun wx hx => ?_) ?_; rotate_left
     ·go_simp; try with_reducible rfl
     obtain ⟨⟨t0, t1, t2⟩, f0, f1, f2⟩ := HW.out.box
     refine rdH 15 (fun K hK => ?_)
     go_simp
     have HF := hid_mk HW.out.store0
     refine hK.out _ _ trivial (fun hS => ?_)
     clear hK K t0 t1 t2 f0 f1 f2
     refine wpAnyH_done (by kernel_rfl) ?_ _
     go_simp
     go_wp2_with fail
     go_meet
     case rel => exact ⟨rfl, ⟨S.nc + 1, fun p => (nums S.c (S.nc * 3) ++ nums (fun p => [k0, k1, k2].getD p 0) (1 * 3)).getD p 0, S.nl, S.l, S.nw, S.k⟩, ao5, cp5, a1, c1, a2, c2, c + 1 + 3, ⟨by omega, by omega⟩, HF⟩
    | false =>
     refine wpAnyH_at (n' := 6) (L' := #[true, false, true, true, true, true, true, true, true, true, true, false, false, false, false, false]) rfl (by kernel_rfl) ?_
     simp only [putE, Bool.false_eq_true, if_false]
     simp only [Act.put, List.setIfInBounds_toArray, List.set_cons_succ, List.set_cons_zero]
     refine tkH 11 ?_ hS (fun wx hx => ?_) ?_; rotate_left
     ·go_simp; try with_reducible rfl
     simp only [Act.put, List.getElem_toArray, List.getElem_cons_zero, List.getElem_cons_succ, List.setIfInBounds_toArray, List.set_cons_succ, List.set_cons_zero]
     refine wpAnyH_ready (rs := [1, 12]) (by kernel_rfl) (by simp) ?_
     refine AllReadyH.cons rfl ?_ (AllReadyH.cons rfl ?_ AllReadyH.nil)
     ·intro K hK
      obtain ⟨⟨t0, t1, t2⟩, _⟩ := HD.out.box
      go_simp
      refine hK.out _ _ trivial (fun hS => ?_)
      clear hK K t0 t1 t2
      refine rdH 12 (fun K hK => ?_)
      go_simp
      have HI : Hid (Row (y1.alloc (.cells #[.int .i64 k0, .int .i64 k1, .int .i64 k2] 93)) 0 3 1 (fun p => [k0, k1, k2].getD p 0) (.slice (some ⟨y1.heap.size, 0, none⟩) 1 1)) := row_lit3 y1 k0 k1 k2 _
      have HD : Hid (DrB w b o len cap bx S (.slice a0 S.nc c0) (.slice a1 S.nl c1) (.slice a2 S.nw c2) (c + 1 + 3) (y1.alloc (.cells #[.int .i64 k0, .int .i64 k1, .int .i64 k2] 93))) := HD.out.later (below_alloc _ _)
      refine hK.out _ _ trivial (fun hS => ?_)
      clear hK K
      generalize y1.alloc (.cells #[.int .i64 k0, .int .i64 k1, .int .i64 k2] 93) = y2 at HD HI ⊢
      obtain ⟨i0, hi, hz0, hz1, hz2⟩ := info_parts info_Cell
      refine rdH 13 (fun K hK => ?_)
      refine step_appL 93 i0 (.agg #[.int .i64 0, .int .i64 0, .int .i64 0]) 3 24 (by rfl) _ _ 24 (by rfl) Tryz.underlying24 hi hz0 hz1 hz2 rfl (by omega) (by omega) _ (w.heap.size + 1) S.nc (nums S.c (S.nc * 3)) (.slice a0 S.nc c0) (by rfl) (own_m HD.out.own.1.1) 0 1 (fun p => [k0, k1, k2].getD p 0) (.slice (some ⟨y1.heap.size, 0, none⟩) 1 1) (by rfl) HI.out (by have := HZ.out; unfold Sz at this; omega) (by have := HD.out.but.size; have := HD.out.box.lt; have := HD.out.bl; omega) ?_
      intro ao5 cp5 y3 O5 G5 W5
      have HW : Hid (DrW w b o len cap bx ⟨S.nc + 1, fun p => (nums S.c (S.nc * 3) ++ nums (fun p => [k0, k1, k2].getD p 0) (1 * 3)).getD p 0, S.nl, S.l, S.nw, S.k⟩ (.slice ao5 (S.nc + 1) cp5) (.slice a1 S.nl c1) (.slice a2 S.nw c2) (.slice a0 S.nc c0) (.slice a1 S.nl c1) (.slice a2 S.nw c2) (c + 1 + 3) y3) := HD.out.app0 HZ.out O5 (by rw [List.length_append, nums_length, nums_length]; omega) G5 W5
      refine hK.out _ _ trivial (fun hS => ?_)
      clear hK K O5 G5 W5 HI HD hi hz0 hz1 hz2
      refine tkH 14 ?_ hS (fun wx hx => ?_) ?_; rotate_left
      ·go_simp; try with_reducible rfl
      obtain ⟨⟨t0, t1, t2⟩, f0, f1, f2⟩ := HW.out.box
      refine rdH 15 (fun K hK => ?_)
      go_simp
      have HF := hid_mk HW.out.store0
      refine hK.out _ _ trivial (fun hS => ?_)
      clear hK K t0 t1 t2 f0 f1 f2
      refine wpAnyH_done (by kernel_rfl) ?_ _
      go_simp
      go_wp2_with fail
      go_meet
      case rel => exact ⟨rfl, ⟨S.nc + 1, fun p => (nums S.c (S.nc * 3) ++ nums (fun p => [k0, k1, k2].getD p 0) (1 * 3)).getD p 0, S.nl, S.l, S.nw, S.k⟩, ao5, cp5, a1, c1, a2, c2, c + 1 + 3, ⟨by omega, by omega⟩, HF⟩
     ·intro K hK
      go_simp
      have HI : Hid (Row (y1.alloc (.cells #[.int .i64 k0, .int .i64 k1, .int .i64 k2] 93)) 0 3 1 (fun p => [k0, k1, k2].getD p 0) (.slice (some ⟨y1.heap.size, 0, none⟩) 1 1)) := row_lit3 y1 k0 k1 k2 _
      have HD : Hid (DrB w b o len cap bx S (.slice a0 S.nc c0) (.slice a1 S.nl c1) (.slice a2 S.nw c2) (c + 1 + 3) (y1.alloc (.cells #[.int .i64 k0, .int .i64 k1, .int .i64 k2] 93))) := HD.out.later (below_alloc _ _)
      refine hK.out _ _ trivial (fun hS => ?_)
      clear hK K
      generalize y1.alloc (.cells #[.int .i64 k0, .int .i64 k1, .int .i64 k2] 93) = y2 at HD HI ⊢
      refine rdH 1 (fun K hK => ?_)
      obtain ⟨⟨t0, t1, t2⟩, _⟩ := HD.out.box
      go_simp
      refine hK.out _ _ trivial (fun hS => ?_)
      clear hK K t0 t1 t2
      obtain ⟨i0, hi, hz0, hz1, hz2⟩ := info_parts info_Cell
      refine rdH 13 (fun K hK => ?_)
      refine step_appL 93 i0 (.agg #[.int .i64 0, .int .i64 0, .int .i64 0]) 3 24 (by rfl) _ _ 24 (by rfl) Tryz.underlying24 hi hz0 hz1 hz2 rfl (by omega) (by omega) _ (w.heap.size + 1) S.nc (nums S.c (S.nc * 3)) (.slice a0 S.nc c0) (by rfl) (own_m HD.out.own.1.1) 0 1 (fun p => [k0, k1, k2].getD p 0) (.slice (some ⟨y1.heap.size, 0, none⟩) 1 1) (by rfl) HI.out (by have := HZ.out; unfold Sz at this; omega) (by have := HD.out.but.size; have := HD.out.box.lt; have := HD.out.bl; omega) ?_
      intro ao5 cp5 y3 O5 G5 W5
      have HW : Hid (DrW w b o len cap bx ⟨S.nc + 1, fun p => (nums S.c (S.nc * 3) ++ nums (fun p => [k0, k1, k2].getD p 0) (1 * 3)).getD p 0, S.nl, S.l, S.nw, S.k⟩ (.slice ao5 (S.nc + 1) cp5) (.slice a1 S.nl c1) (.slice a2 S.nw c2) (.slice a0 S.nc c0) (.slice a1 S.nl c1) (.slice a2 S.nw c2) (c + 1 + 3) y3) := HD.out.app0 HZ.out O5 (by rw [List.length_append, nums_length, nums_length]; omega) G5 W5
      refine hK.out _ _ trivial (fun hS => ?_)
      clear hK K O5 G5 W5 HI HD hi hz0 hz1 hz2
      refine tkH 14 ?_ hS (fun wx hx => ?_) ?_; rotate_left
      ·go_simp; try with_reducible rfl
      obtain ⟨⟨t0, t1, t2⟩, f0, f1, f2⟩ := HW.out.box
      refine rdH 15 (fun K hK => ?_)
      go_simp
      have HF := hid_mk HW.out.store0
      refine hK.out _ _ trivial (fun hS => ?_)
      clear hK K t0 t1 t2 f0 f1 f2
      refine wpAnyH_done (by kernel_rfl) ?_ _
      go_simp
      go_wp2_with fail
      go_meet
      case rel => exact ⟨rfl, ⟨S.nc + 1, fun p => (nums S.c (S.nc * 3) ++ nums (fun p => [k0, k1, k2].getD p 0) (1 * 3)).getD p 0, S.nl, S.l, S.nw, S.k⟩, ao5, cp5, a1, c1, a2, c2, c + 1 + 3, ⟨by omega, by omega⟩, HF⟩
  ·go_wp2_with fail
   refine wp_region_held_drew (S := fun _ => True) (by kernel_rfl) trivial (fun hS => ?_)
   have HD : Hid (DrB w b o len cap bx S (.slice a0 S.nc c0) (.slice a1 S.nl c1) (.slice a2 S.nw c2) (c + 1) w3.drew) := HD.out.later (below_dr (Below.refl _ _) 1)
   generalize w3.drew = y0 at HD ⊢
   refine tkH 0 ?_ hS (fun wx hx => ?_) ?_; rotate_left
   ·go_simp; try with_reducible rfl
   refine tkH 2 ?_ hS (fun wx hx => ?_) ?_; rotate_left
   ·go_simp; try with_reducible rfl
   refine tkH 5 ?_ hS (fun wx hx => ?_) ?_; rotate_left
   ·go_simp; try with_reducible rfl
   refine tkH 8 ?_ hS (fun wx hx => ?_) ?_; rotate_left
   ·go_simp; try with_reducible rfl
   refine tkH 11 ?_ hS (fun wx hx => ?_) ?_; rotate_left
   ·go_simp; try with_reducible rfl
   simp only [Act.put, List.getElem_toArray, List.getElem_cons_zero, List.getElem_cons_succ, List.setIfInBounds_toArray, List.set_cons_succ, List.set_cons_zero]
   refine wpAnyH_at (n' := 9 + 5) (L' := mkL [⟨3, 30, 4, 31, 29, [189, 5, 0]⟩, ⟨6, 33, 7, 34, 32, [3, 0]⟩, ⟨9, 36, 10, 37, 35, [1, 3, 4]⟩, ⟨12, 39, 13, 40, 38, [0, 5]⟩] ⟨1, 28, .slice a1 S.nl c1⟩ #[true, false, true, false, false, true, false, false, true, false, false, true, false, false, false, false, false, false, false] [false, false, false, false] false 0) (by kernel_rfl) (by kernel_rfl) ?_
   refine wpAnyH_picks (H := fun x => Blk3 x bx (.slice a0 S.nc c0) (.slice a1 S.nl c1) (.slice a2 S.nw c2)) [⟨3, 30, 4, 31, 29, [189, 5, 0]⟩, ⟨6, 33, 7, 34, 32, [3, 0]⟩, ⟨9, 36, 10, 37, 35, [1, 3, 4]⟩, ⟨12, 39, 13, 40, 38, [0, 5]⟩] ⟨1, 28, .slice a1 S.nl c1⟩ #[true, false, true, false, false, true, false, false, true, false, false, true, false, false, false, false, false, false, false] _ y0 b o len cap (c + 1) 5 (by kernel_rfl) (by kernel_rfl) (by kernel_rfl) ?ok ?ld ?sr (fun x x' h hT => h.butS hT (by have := HD.out.lo; have := HD.out.bl; omega)) (fun _ _ => trivial) (by show c + 1 + 4 ≤ 1000000; omega) hl ?cont 9 _ _ 0 _ _ (by kernel_rfl) (Stand.start HD.out.src HD.out.box)
   case ok =>
    intro p hp
    simp only [List.mem_cons, List.not_mem_nil, or_false] at hp
    rcases hp with rfl | rfl | rfl | rfl
    ·exact pkOk3 3 30 4 31 29 (189) (5) (0) _ _ rfl rfl rfl rfl rfl rfl rfl _ rfl
    ·exact pkOk2 6 33 7 34 32 (3) (0) _ _ rfl rfl rfl rfl rfl rfl rfl _ rfl
    ·exact pkOk3 9 36 10 37 35 (1) (3) (4) _ _ rfl rfl rfl rfl rfl rfl rfl _ rfl
    ·exact pkOk2 12 39 13 40 38 (0) (5) _ _ rfl rfl rfl rfl rfl rfl rfl _ rfl
   case ld =>
    exact ⟨_, rfl, rfl, rfl, fun a' w' K hag hH hk => wp_loadS 25 (fun _ => by kernel_rfl) 27 rfl rfl bx 1 (by rw [hag 27 (by simp) (by simp)]; rfl) _ hH.1.2.1 hk⟩
   case sr =>
    intro p hp
    simp only [List.mem_cons, List.not_mem_nil, or_false] at hp
    rcases hp with rfl | rfl | rfl | rfl <;> rfl
   case cont =>
    intro e x r y1 hr hsrc hbut hH
    obtain ⟨k0, hk0⟩ : ∃ k, r ⟨3, 30, 4, 31, 29, [189, 5, 0]⟩ = k := ⟨_, rfl⟩
    obtain ⟨x0, hx0⟩ : ∃ k, x ⟨3, 30, 4, 31, 29, [189, 5, 0]⟩ = k := ⟨_, rfl⟩
    obtain ⟨k1, hk1⟩ : ∃ k, r ⟨6, 33, 7, 34, 32, [3, 0]⟩ = k := ⟨_, rfl⟩
    obtain ⟨x1, hx1⟩ : ∃ k, x ⟨6, 33, 7, 34, 32, [3, 0]⟩ = k := ⟨_, rfl⟩
    obtain ⟨k2, hk2⟩ : ∃ k, r ⟨9, 36, 10, 37, 35, [1, 3, 4]⟩ = k := ⟨_, rfl⟩
    obtain ⟨x2, hx2⟩ : ∃ k, x ⟨9, 36, 10, 37, 35, [1, 3, 4]⟩ = k := ⟨_, rfl⟩
    obtain ⟨k3, hk3⟩ : ∃ k, r ⟨12, 39, 13, 40, 38, [0, 5]⟩ = k := ⟨_, rfl⟩
    obtain ⟨x3, hx3⟩ : ∃ k, x ⟨12, 39, 13, 40, 38, [0, 5]⟩ = k := ⟨_, rfl⟩
    simp only [putAll, hk0, hx0, hk1, hx1, hk2, hx2, hk3, hx3]
    have HD : Hid (DrB w b o len cap bx S (.slice a0 S.nc c0) (.slice a1 S.nl c1) (.slice a2 S.nw c2) (c + 1 + 4) y1) := HD.out.step hbut hsrc
    clear hr hsrc hbut hH hk0 hx0 hk1 hx1 hk2 hx2 hk3 hx3
    cases e with
    | true =>
     refine wpAnyH_at (n' := 5) (L' := #[true, true, true, true, true, true, true, true, true, true, true, true, true, true, false, false, false, false, false]) rfl (by kernel_rfl) ?_
     simp only [putE, if_true]
     simp only [Act.put, List.setIfInBounds_toArray, List.set_cons_succ, List.set_cons_zero]
     refine tkH 14 ?_ hS (fun wx hx => ?_) ?_; rotate_left
     ·go_simp; try with_reducible rfl
     refine rdH 15 (fun K hK => ?_)
     go_simp
     have HI : Hid (Row (y1.alloc (.cells #[.int .i64 k0, .int .i64 k1, .int .i64 k2, .int .i64 k3, .int .i64 0] 40)) 0 5 1 (fun p => [k0, k1, k2, k3, 0].getD p 0) (.slice (some ⟨y1.heap.size, 0, none⟩) 1 1)) := row_lit5 y1 k0 k1 k2 k3 0 _
     have HD : Hid (DrB w b o len cap bx S (.slice a0 S.nc c0) (.slice a1 S.nl c1) (.slice a2 S.nw c2) (c + 1 + 4) (y1.alloc (.cells #[.int .i64 k0, .int .i64 k1, .int .i64 k2, .int .i64 k3, .int .i64 0] 40))) := HD.out.later (below_alloc _ _)
     refine hK.out _ _ trivial (fun hS => ?_)
     clear hK K
     generalize y1.alloc (.cells #[.int .i64 k0, .int .i64 k1, .int .i64 k2, .int .i64 k3, .int .i64 0] 40) = y2 at HD HI ⊢
     obtain ⟨i0, hi, hz0, hz1, hz2⟩ := info_parts info_Lock
     refine rdH 16 (fun K hK => ?_)
     refine step_appL 40 i0 (.agg #[.int .i64 0, .int .i64 0, .int .i64 0, .int .i64 0, .int .i64 0]) 5 40 (by rfl) _ _ 25 (by rfl) Tryz.underlying25 hi hz0 hz1 hz2 rfl (by omega) (by omega) _ (w.heap.size + 1) S.nl (nums S.l (S.nl * 5)) (.slice a1 S.nl c1) (by rfl) (own_m HD.out.own.1.2.1) 0 1 (fun p => [k0, k1, k2, k3, 0].getD p 0) (.slice (some ⟨y1.heap.size, 0, none⟩) 1 1) (by rfl) HI.out (by have := HZ.out; unfold Sz at this; omega) (by have := HD.out.but.size; have := HD.out.box.lt; have := HD.out.bl; omega) ?_
     intro ao5 cp5 y3 O5 G5 W5
     have HW : Hid (DrW w b o len cap bx ⟨S.nc, S.c, S.nl + 1, fun p => (nums S.l (S.nl * 5) ++ nums (fun p => [k0, k1, k2, k3, 0].getD p 0) (1 * 5)).getD p 0, S.nw, S.k⟩ (.slice a0 S.nc c0) (.slice ao5 (S.nl + 1) cp5) (.slice a2 S.nw c2) (.slice a0 S.nc c0) (.slice a1 S.nl c1) (.slice a2 S.nw c2) (c + 1 + 4) y3) := HD.out.app1 HZ.out O5 (by rw [List.length_append, nums_length, nums_length]; omega) G5 W5
     refine hK.out _ _ trivial (fun hS => ?_)
     clear hK K O5 G5 W5 HI HD hi hz0 hz1 hz2
     refine tkH 17 ?_ hS (fun wx hx => ?_) ?_; rotate_left
     ·go_simp; try with_reducible rfl
     obtain ⟨⟨t0, t1, t2⟩, f0, f1, f2⟩ := HW.out.box
     refine rdH 18 (fun K hK => ?_)
     go_simp
     have HF := hid_mk HW.out.store1
     refine hK.out _ _ trivial (fun hS => ?_)
     clear hK K t0 t1 t2 f0 f1 f2
     refine wpAnyH_done (by kernel_rfl) ?_ _
     go_simp
     go_wp2_with fail
     go_meet
     case rel => exact ⟨rfl, ⟨S.nc, S.c, S.nl + 1, fun p => (nums S.l (S.nl * 5) ++ nums (fun p => [k0, k1, k2, k3, 0].getD p 0) (1 * 5)).getD p 0, S.nw, S.k⟩, a0, c0, ao5, cp5, a2, c2, c + 1 + 4, ⟨by omega, by omega⟩, HF⟩
    | false =>
     refine wpAnyH_at (n' := 6) (L' := #[true, false, true, true, true, true, true, true, true, true, true, true, true, true, false, false, false, false, false]) rfl (by kernel_rfl) ?_
     simp only [putE, Bool.false_eq_true, if_false]
     simp only [Act.put, List.setIfInBounds_toArray, List.set_cons_succ, List.set_cons_zero]
     refine tkH 14 ?_ hS (fun wx hx => ?_) ?_; rotate_left
     ·go_simp; try with_reducible rfl
     simp only [Act.put, List.getElem_toArray, List.getElem_cons_zero, List.getElem_cons_succ, List.setIfInBounds_toArray, List.set_cons_succ, List.set_cons_zero]
     refine wpAnyH_ready (rs := [1, 15]) (by kernel_rfl) (by simp) ?_
     refine AllReadyH.cons rfl ?_ (AllReadyH.cons rfl ?_ AllReadyH.nil)
     ·intro K hK
      obtain ⟨⟨t0, t1, t2⟩, _⟩ := HD.out.box
      go_simp
      refine hK.out _ _ trivial (fun hS => ?_)
      clear hK K t0 t1 t2
      refine rdH 15 (fun K hK => ?_)
      go_simp
      have HI : Hid (Row (y1.alloc (.cells #[.int .i64 k0, .int .i64 k1, .int .i64 k2, .int .i64 k3, .int .i64 0] 40)) 0 5 1 (fun p => [k0, k1, k2, k3, 0].getD p 0) (.slice (some ⟨y1.heap.size, 0, none⟩) 1 1)) := row_lit5 y1 k0 k1 k2 k3 0 _
      have HD : Hid (DrB w b o len cap bx S (.slice a0 S.nc c0) (.slice a1 S.nl c1) (.slice a2 S.nw c2) (c + 1 + 4) (y1.alloc (.cells #[.int .i64 k0, .int .i64 k1, .int .i64 k2, .int .i64 k3, .int .i64 0] 40))) := HD.out.later (below_alloc _ _)
      refine hK.out _ _ trivial (fun hS => ?_)
      clear hK K
      generalize y1.alloc (.cells #[.int .i64 k0, .int .i64 k1, .int .i64 k2, .int .i64 k3, .int .i64 0] 40) = y2 at HD HI ⊢
      obtain ⟨i0, hi, hz0, hz1, hz2⟩ := info_parts info_Lock
      refine rdH 16 (fun K hK => ?_)
      refine step_appL 40 i0 (.agg #[.int .i64 0, .int .i64 0, .int .i64 0, .int .i64 0, .int .i64 0]) 5 40 (by rfl) _ _ 25 (by rfl) Tryz.underlying25 hi hz0 hz1 hz2 rfl (by omega) (by omega) _ (w.heap.size + 1) S.nl (nums S.l (S.nl * 5)) (.slice a1 S.nl c1) (by rfl) (own_m HD.out.own.1.2.1) 0 1 (fun p => [k0, k1, k2, k3, 0].getD p 0) (.slice (some ⟨y1.heap.size, 0, none⟩) 1 1) (by rfl) HI.out (by have := HZ.out; unfold Sz at this; omega) (by have := HD.out.but.size; have := HD.out.box.lt; have := HD.out.bl; omega) ?_
      intro ao5 cp5 y3 O5 G5 W5
      have HW : Hid (DrW w b o len cap bx ⟨S.nc, S.c, S.nl + 1, fun p => (nums S.l (S.nl * 5) ++ nums (fun p => [k0, k1, k2, k3, 0].getD p 0) (1 * 5)).getD p 0, S.nw, S.k⟩ (.slice a0 S.nc c0) (.slice ao5 (S.nl + 1) cp5) (.slice a2 S.nw c2) (.slice a0 S.nc c0) (.slice a1 S.nl c1) (.slice a2 S.nw c2) (c + 1 + 4) y3) := HD.out.app1 HZ.out O5 (by rw [List.length_append, nums_length, nums_length]; omega) G5 W5
      refine hK.out _ _ trivial (fun hS => ?_)
      clear hK K O5 G5 W5 HI HD hi hz0 hz1 hz2
      refine tkH 17 ?_ hS (fun wx hx => ?_) ?_; rotate_left
      ·go_simp; try with_reducible rfl
      obtain ⟨⟨t0, t1, t2⟩, f0, f1, f2⟩ := HW.out.box
      refine rdH 18 (fun K hK => ?_)
      go_simp
      have HF := hid_mk HW.out.store1
      refine hK.out _ _ trivial (fun hS => ?_)
      clear hK K t0 t1 t2 f0 f1 f2
      refine wpAnyH_done (by kernel_rfl) ?_ _
      go_simp
      go_wp2_with fail
      go_meet
      case rel => exact ⟨rfl, ⟨S.nc, S.c, S.nl + 1, fun p => (nums S.l (S.nl * 5) ++ nums (fun p => [k0, k1, k2, k3, 0].getD p 0) (1 * 5)).getD p 0, S.nw, S.k⟩, a0, c0, ao5, cp5, a2, c2, c + 1 + 4, ⟨by omega, by omega⟩, HF⟩
     ·intro K hK
      go_simp
      have HI : Hid (Row (y1.alloc (.cells #[.int .i64 k0, .int .i64 k1, .int .i64 k2, .int .i64 k3, .int .i64 0] 40)) 0 5 1 (fun p => [k0, k1, k2, k3, 0].getD p 0) (.slice (some ⟨y1.heap.size, 0, none⟩) 1 1)) := row_lit5 y1 k0 k1 k2 k3 0 _
      have HD : Hid (DrB w b o len cap bx S (.slice a0 S.nc c0) (.slice a1 S.nl c1) (.slice a2 S.nw c2) (c + 1 + 4) (y1.alloc (.cells #[.int .i64 k0, .int .i64 k1, .int .i64 k2, .int .i64 k3, .int .i64 0] 40))) := HD.out.later (below_alloc _ _)
      refine hK.out _ _ trivial (fun hS => ?_)
      clear hK K
      generalize y1.alloc (.cells #[.int .i64 k0, .int .i64 k1, .int .i64 k2, .int .i64 k3, .int .i64 0] 40) = y2 at HD HI ⊢
      refine rdH 1 (fun K hK => ?_)
      obtain ⟨⟨t0, t1, t2⟩, _⟩ := HD.out.box
      go_simp
      refine hK.out _ _ trivial (fun hS => ?_)
      clear hK K t0 t1 t2
      obtain ⟨i0, hi, hz0, hz1, hz2⟩ := info_parts info_Lock
      refine rdH 16 (fun K hK => ?_)
      refine step_appL 40 i0 (.agg #[.int .i64 0, .int .i64 0, .int .i64 0, .int .i64 0, .int .i64 0]) 5 40 (by rfl) _ _ 25 (by rfl) Tryz.underlying25 hi hz0 hz1 hz2 rfl (by omega) (by omega) _ (w.heap.size + 1) S.nl (nums S.l (S.nl * 5)) (.slice a1 S.nl c1) (by rfl) (own_m HD.out.own.1.2.1) 0 1 (fun p => [k0, k1, k2, k3, 0].getD p 0) (.slice (some ⟨y1.heap.size, 0, none⟩) 1 1) (by rfl) HI.out (by have := HZ.out; unfold Sz at this; omega) (by have := HD.out.but.size; have := HD.out.box.lt; have := HD.out.bl; omega) ?_
      intro ao5 cp5 y3 O5 G5 W5
      have HW : Hid (DrW w b o len cap bx ⟨S.nc, S.c, S.nl + 1, fun p => (nums S.l (S.nl * 5) ++ nums (fun p => [k0, k1, k2, k3, 0].getD p 0) (1 * 5)).getD p 0, S.nw, S.k⟩ (.slice a0 S.nc c0) (.slice ao5 (S.nl + 1) cp5) (.slice a2 S.nw c2) (.slice a0 S.nc c0) (.slice a1 S.nl c1) (.slice a2 S.nw c2) (c + 1 + 4) y3) := HD.out.app1 HZ.out O5 (by rw [List.length_append, nums_length, nums_length]; omega) G5 W5
      refine hK.out _ _ trivial (fun hS => ?_)
      clear hK K O5 G5 W5 HI HD hi hz0 hz1 hz2
      refine tkH 17 ?_ hS (fun wx hx => ?_) ?_; rotate_left
      ·go_simp; try with_reducible rfl
      obtain ⟨⟨t0, t1, t2⟩, f0, f1, f2⟩ := HW.out.box
      refine rdH 18 (fun K hK => ?_)
      go_simp
      have HF := hid_mk HW.out.store1
      refine hK.out _ _ trivial (fun hS => ?_)
      clear hK K t0 t1 t2 f0 f1 f2
      refine wpAnyH_done (by kernel_rfl) ?_ _
      go_simp
      go_wp2_with fail
      go_meet
      case rel => exact ⟨rfl, ⟨S.nc, S.c, S.nl + 1, fun p => (nums S.l (S.nl * 5) ++ nums (fun p => [k0, k1, k2, k3, 0].getD p 0) (1 * 5)).getD p 0, S.nw, S.k⟩, a0, c0, ao5, cp5, a2, c2, c + 1 + 4, ⟨by omega, by omega⟩, HF⟩
  ·go_wp2_with fail
   refine wp_region_held_drew (S := fun _ => True) (by kernel_rfl) trivial (fun hS => ?_)
   have HD : Hid (DrB w b o len cap bx S (.slice a0 S.nc c0) (.slice a1 S.nl c1) (.slice a2 S.nw c2) (c + 1) w3.drew) := HD.out.later (below_dr (Below.refl _ _) 1)
   generalize w3.drew = y0 at HD ⊢
   refine tkH 0 ?_ hS (fun wx hx => ?_) ?_; rotate_left
   ·go_simp; try with_reducible rfl
   refine tkH 2 ?_ hS (fun wx hx => ?_) ?_; rotate_left
   ·go_simp; try with_reducible rfl
   refine tkH 5 ?_ hS (fun wx hx => ?_) ?_; rotate_left
   ·go_simp; try with_reducible rfl
   refine tkH 8 ?_ hS (fun wx hx => ?_) ?_; rotate_left
   ·go_simp; try with_reducible rfl
   simp only [Act.put, List.getElem_toArray, List.getElem_cons_zero, List.getElem_cons_succ, List.setIfInBounds_toArray, List.set_cons_succ, List.set_cons_zero]
   refine wpAnyH_at (n' := 7 + 5) (L' := mkL [⟨3, 50, 4, 51, 49, [189, 5, 0]⟩, ⟨6, 53, 7, 54, 52, [5, 3]⟩, ⟨9, 56, 10, 57, 55, [1, 2, 4, 5]⟩] ⟨1, 48, .slice a2 S.nw c2⟩ #[true, false, true, false, false, true, false, false, true, false, false, false, false, false, false, false] [false, false, false] false 0) (by kernel_rfl) (by kernel_rfl) ?_
   refine wpAnyH_picks (H := fun x => Blk3 x bx (.slice a0 S.nc c0) (.slice a1 S.nl c1) (.slice a2 S.nw c2)) [⟨3, 50, 4, 51, 49, [189, 5, 0]⟩, ⟨6, 53, 7, 54, 52, [5, 3]⟩, ⟨9, 56, 10, 57, 55, [1, 2, 4, 5]⟩] ⟨1, 48, .slice a2 S.nw c2⟩ #[true, false, true, false, false, true, false, false, true, false, false, false, false, false, false, false] _ y0 b o len cap (c + 1) 5 (by kernel_rfl) (by kernel_rfl) (by kernel_rfl) ?ok ?ld ?sr (fun x x' h hT => h.butS hT (by have := HD.out.lo; have := HD.out.bl; omega)) (fun _ _ => trivial) (by show c + 1 + 3 ≤ 1000000; omega) hl ?cont 7 _ _ 0 _ _ (by kernel_rfl) (Stand.start HD.out.src HD.out.box)
   case ok =>
    intro p hp
    simp only [List.mem_cons, List.not_mem_nil, or_false] at hp
    rcases hp with rfl | rfl | rfl
    ·exact pkOk3 3 50 4 51 49 (189) (5) (0) _ _ rfl rfl rfl rfl rfl rfl rfl _ rfl
    ·exact pkOk2 6 53 7 54 52 (5) (3) _ _ rfl rfl rfl rfl rfl rfl rfl _ rfl
    ·exact pkOk4 9 56 10 57 55 (1) (2) (4) (5) _ _ rfl rfl rfl rfl rfl rfl rfl _ rfl
   case ld =>
    exact ⟨_, rfl, rfl, rfl, fun a' w' K hag hH hk => wp_loadS 26 (fun _ => by kernel_rfl) 47 rfl rfl bx 2 (by rw [hag 47 (by simp) (by simp)]; rfl) _ hH.1.2.2 hk⟩
   case sr =>
    intro p hp
    simp only [List.mem_cons, List.not_mem_nil, or_false] at hp
    rcases hp with rfl | rfl | rfl <;> rfl
   case cont =>
    intro e x r y1 hr hsrc hbut hH
    obtain ⟨k0, hk0⟩ : ∃ k, r ⟨3, 50, 4, 51, 49, [189, 5, 0]⟩ = k := ⟨_, rfl⟩
    obtain ⟨x0, hx0⟩ : ∃ k, x ⟨3, 50, 4, 51, 49, [189, 5, 0]⟩ = k := ⟨_, rfl⟩
    obtain ⟨k1, hk1⟩ : ∃ k, r ⟨6, 53, 7, 54, 52, [5, 3]⟩ = k := ⟨_, rfl⟩
    obtain ⟨x1, hx1⟩ : ∃ k, x ⟨6, 53, 7, 54, 52, [5, 3]⟩ = k := ⟨_, rfl⟩
    obtain ⟨k2, hk2⟩ : ∃ k, r ⟨9, 56, 10, 57, 55, [1, 2, 4, 5]⟩ = k := ⟨_, rfl⟩
    obtain ⟨x2, hx2⟩ : ∃ k, x ⟨9, 56, 10, 57, 55, [1, 2, 4, 5]⟩ = k := ⟨_, rfl⟩
    simp only [putAll, hk0, hx0, hk1, hx1, hk2, hx2]
    have HD : Hid (DrB w b o len cap bx S (.slice a0 S.nc c0) (.slice a1 S.nl c1) (.slice a2 S.nw c2) (c + 1 + 3) y1) := HD.out.step hbut hsrc
    clear hr hsrc hbut hH hk0 hx0 hk1 hx1 hk2 hx2
    cases e with
    | true =>
     refine wpAnyH_at (n' := 5) (L' := #[true, true, true, true, true, true, true, true, true, true, true, false, false, false, false, false]) rfl (by kernel_rfl) ?_
     simp only [putE, if_true]
     simp only [Act.put, List.setIfInBounds_toArray, List.set_cons_succ, List.set_cons_zero]
     refine tkH 11 ?_ hS (fun wx hx => ?_) ?_; rotate_left
     ·go_simp; try with_reducible rfl
     refine rdH 12 (fun K hK => ?_)
     go_simp
     have HI : Hid (Row (y1.alloc (.cells #[.int .i64 k0, .int .i64 k1, .int .i64 3, .int .i64 k2] 55)) 0 4 1 (fun p => [k0, k1, 3, k2].getD p 0) (.slice (some ⟨y1.heap.size, 0, none⟩) 1 1)) := row_lit4 y1 k0 k1 3 k2 _
     have HD : Hid (DrB w b o len cap bx S (.slice a0 S.nc c0) (.slice a1 S.nl c1) (.slice a2 S.nw c2) (c + 1 + 3) (y1.alloc (.cells #[.int .i64 k0, .int .i64 k1, .int .i64 3, .int .i64 k2] 55))) := HD.out.later (below_alloc _ _)
     refine hK.out _ _ trivial (fun hS => ?_)
     clear hK K
     generalize y1.alloc (.cells #[.int .i64 k0, .int .i64 k1, .int .i64 3, .int .i64 k2] 55) = y2 at HD HI ⊢
     obtain ⟨i0, hi, hz0, hz1, hz2⟩ := info_parts info_Write
     refine rdH 13 (fun K hK => ?_)
     refine step_appL 55 i0 (.agg #[.int .i64 0, .int .i64 0, .int .i64 0, .int .i64 0]) 4 32 (by rfl) _ _ 26 (by rfl) Tryz.underlying26 hi hz0 hz1 hz2 rfl (by omega) (by omega) _ (w.heap.size + 1) S.nw (nums S.k (S.nw * 4)) (.slice a2 S.nw c2) (by rfl) (own_m HD.out.own.1.2.2) 0 1 (fun p => [k0, k1, 3, k2].getD p 0) (.slice (some ⟨y1.heap.size, 0, none⟩) 1 1) (by rfl) HI.out (by have := HZ.out; unfold Sz at this; omega) (by have := HD.out.but.size; have := HD.out.box.lt; have := HD.out.bl; omega) ?_
     intro ao5 cp5 y3 O5 G5 W5
     have HW : Hid (DrW w b o len cap bx ⟨S.nc, S.c, S.nl, S.l, S.nw + 1, fun p => (nums S.k (S.nw * 4) ++ nums (fun p => [k0, k1, 3, k2].getD p 0) (1 * 4)).getD p 0⟩ (.slice a0 S.nc c0) (.slice a1 S.nl c1) (.slice ao5 (S.nw + 1) cp5) (.slice a0 S.nc c0) (.slice a1 S.nl c1) (.slice a2 S.nw c2) (c + 1 + 3) y3) := HD.out.app2 HZ.out O5 (by rw [List.length_append, nums_length, nums_length]; omega) G5 W5
     refine hK.out _ _ trivial (fun hS => ?_)
     clear hK K O5 G5 W5 HI HD hi hz0 hz1 hz2
     refine tkH 14 ?_ hS (fun wx hx => ?_) ?_; rotate_left
     ·go_simp; try with_reducible rfl
     obtain ⟨⟨t0, t1, t2⟩, f0, f1, f2⟩ := HW.out.box
     refine rdH 15 (fun K hK => ?_)
     go_simp
     have HF := hid_mk HW.out.store2
     refine hK.out _ _ trivial (fun hS => ?_)
     clear hK K t0 t1 t2 f0 f1 f2
     refine wpAnyH_done (by kernel_rfl) ?_ _
     go_simp
     go_wp2_with fail
     go_meet
     case rel => exact ⟨rfl, ⟨S.nc, S.c, S.nl, S.l, S.nw + 1, fun p => (nums S.k (S.nw * 4) ++ nums (fun p => [k0, k1, 3, k2].getD p 0) (1 * 4)).getD p 0⟩, a0, c0, a1, c1, ao5, cp5, c + 1 + 3, ⟨by omega, by omega⟩, HF⟩
    | false =>
     refine wpAnyH_at (n' := 6) (L' := #[true, false, true, true, true, true, true, true, true, true, true, false, false, false, false, false]) rfl (by kernel_rfl) ?_
     simp only [putE, Bool.false_eq_true, if_false]
     simp only [Act.put, List.setIfInBounds_toArray, List.set_cons_succ, List.set_cons_zero]
     refine tkH 11 ?_ hS (fun wx hx => ?_) ?_; rotate_left
     ·go_simp; try with_reducible rfl
     simp only [Act.put, List.getElem_toArray, List.getElem_cons_zero, List.getElem_cons_succ, List.setIfInBounds_toArray, List.set_cons_succ, List.set_cons_zero]
     refine wpAnyH_ready (rs := [1, 12]) (by kernel_rfl) (by simp) ?_
     refine AllReadyH.cons rfl ?_ (AllReadyH.cons rfl ?_ AllReadyH.nil)
     ·intro K hK
      obtain ⟨⟨t0, t1, t2⟩, _⟩ := HD.out.box
      go_simp
      refine hK.out _ _ trivial (fun hS => ?_)
      clear hK K t0 t1 t2
      refine rdH 12 (fun K hK => ?_)
      go_simp
      have HI : Hid (Row (y1.alloc (.cells #[.int .i64 k0, .int .i64 k1, .int .i64 3, .int .i64 k2] 55)) 0 4 1 (fun p => [k0, k1, 3, k2].getD p 0) (.slice (some ⟨y1.heap.size, 0, none⟩) 1 1)) := row_lit4 y1 k0 k1 3 k2 _
      have HD : Hid (DrB w b o len cap bx S (.slice a0 S.nc c0) (.slice a1 S.nl c1) (.slice a2 S.nw c2) (c + 1 + 3) (y1.alloc (.cells #[.int .i64 k0, .int .i64 k1, .int .i64 3, .int .i64 k2] 55))) := HD.out.later (below_alloc _ _)
      refine hK.out _ _ trivial (fun hS => ?_)
      clear hK K
      generalize y1.alloc (.cells #[.int .i64 k0, .int .i64 k1, .int .i64 3, .int .i64 k2] 55) = y2 at HD HI ⊢
      obtain ⟨i0, hi, hz0, hz1, hz2⟩ := info_parts info_Write
      refine rdH 13 (fun K hK => ?_)
      refine step_appL 55 i0 (.agg #[.int .i64 0, .int .i64 0, .int .i64 0, .int .i64 0]) 4 32 (by rfl) _ _ 26 (by rfl) Tryz.underlying26 hi hz0 hz1 hz2 rfl (by omega) (by omega) _ (w.heap.size + 1) S.nw (nums S.k (S.nw * 4)) (.slice a2 S.nw c2) (by rfl) (own_m HD.out.own.1.2.2) 0 1 (fun p => [k0, k1, 3, k2].getD p 0) (.slice (some ⟨y1.heap.size, 0, none⟩) 1 1) (by rfl) HI.out (by have := HZ.out; unfold Sz at this; omega) (by have := HD.out.but.size; have := HD.out.box.lt; have := HD.out.bl; omega) ?_
      intro ao5 cp5 y3 O5 G5 W5
      have HW : Hid (DrW w b o len cap bx ⟨S.nc, S.c, S.nl, S.l, S.nw + 1, fun p => (nums S.k (S.nw * 4) ++ nums (fun p => [k0, k1, 3, k2].getD p 0) (1 * 4)).getD p 0⟩ (.slice a0 S.nc c0) (.slice a1 S.nl c1) (.slice ao5 (S.nw + 1) cp5) (.slice a0 S.nc c0) (.slice a1 S.nl c1) (.slice a2 S.nw c2) (c + 1 + 3) y3) := HD.out.app2 HZ.out O5 (by rw [List.length_append, nums_length, nums_length]; omega) G5 W5
      refine hK.out _ _ trivial (fun hS => ?_)
      clear hK K O5 G5 W5 HI HD hi hz0 hz1 hz2
      refine tkH 14 ?_ hS (fun wx hx => ?_) ?_; rotate_left
      ·go_simp; try with_reducible rfl
      obtain ⟨⟨t0, t1, t2⟩, f0, f1, f2⟩ := HW.out.box
      refine rdH 15 (fun K hK => ?_)
      go_simp
      have HF := hid_mk HW.out.store2
      refine hK.out _ _ trivial (fun hS => ?_)
      clear hK K t0 t1 t2 f0 f1 f2
      refine wpAnyH_done (by kernel_rfl) ?_ _
      go_simp
      go_wp2_with fail
      go_meet
      case rel => exact ⟨rfl, ⟨S.nc, S.c, S.nl, S.l, S.nw + 1, fun p => (nums S.k (S.nw * 4) ++ nums (fun p => [k0, k1, 3, k2].getD p 0) (1 * 4)).getD p 0⟩, a0, c0, a1, c1, ao5, cp5, c + 1 + 3, ⟨by omega, by omega⟩, HF⟩
     ·intro K hK
      go_simp
      have HI : Hid (Row (y1.alloc (.cells #[.int .i64 k0, .int .i64 k1, .int .i64 3, .int .i64 k2] 55)) 0 4 1 (fun p => [k0, k1, 3, k2].getD p 0) (.slice (some ⟨y1.heap.size, 0, none⟩) 1 1)) := row_lit4 y1 k0 k1 3 k2 _
      have HD : Hid (DrB w b o len cap bx S (.slice a0 S.nc c0) (.slice a1 S.nl c1) (.slice a2 S.nw c2) (c + 1 + 3) (y1.alloc (.cells #[.int .i64 k0, .int .i64 k1, .int .i64 3, .int .i64 k2] 55))) := HD.out.later (below_alloc _ _)
      refine hK.out _ _ trivial (fun hS => ?_)
      clear hK K
      generalize y1.alloc (.cells #[.int .i64 k0, .int .i64 k1, .int .i64 3, .int .i64 k2] 55) = y2 at HD HI ⊢
      refine rdH 1 (fun K hK => ?_)
      obtain ⟨⟨t0, t1, t2⟩, _⟩ := HD.out.box
      go_simp
      refine hK.out _ _ trivial (fun hS => ?_)
      clear hK K t0 t1 t2
      obtain ⟨i0, hi, hz0, hz1, hz2⟩ := info_parts info_Write
      refine rdH 13 (fun K hK => ?_)
      refine step_appL 55 i0 (.agg #[.int .i64 0, .int .i64 0, .int .i64 0, .int .i64 0]) 4 32 (by rfl) _ _ 26 (by rfl) Tryz.underlying26 hi hz0 hz1 hz2 rfl (by omega) (by omega) _ (w.heap.size + 1) S.nw (nums S.k (S.nw * 4)) (.slice a2 S.nw c2) (by rfl) (own_m HD.out.own.1.2.2) 0 1 (fun p => [k0, k1, 3, k2].getD p 0) (.slice (some ⟨y1.heap.size, 0, none⟩) 1 1) (by rfl) HI.out (by have := HZ.out; unfold Sz at this; omega) (by have := HD.out.but.size; have := HD.out.box.lt; have := HD.out.bl; omega) ?_
      intro ao5 cp5 y3 O5 G5 W5
      have HW : Hid (DrW w b o len cap bx ⟨S.nc, S.c, S.nl, S.l, S.nw + 1, fun p => (nums S.k (S.nw * 4) ++ nums (fun p => [k0, k1, 3, k2].getD p 0) (1 * 4)).getD p 0⟩ (.slice a0 S.nc c0) (.slice a1 S.nl c1) (.slice ao5 (S.nw + 1) cp5) (.slice a0 S.nc c0) (.slice a1 S.nl c1) (.slice a2 S.nw c2) (c + 1 + 3) y3) := HD.out.app2 HZ.out O5 (by rw [List.length_append, nums_length, nums_length]; omega) G5 W5
      refine hK.out _ _ trivial (fun hS => ?_)
      clear hK K O5 G5 W5 HI HD hi hz0 hz1 hz2
      refine tkH 14 ?_ hS (fun wx hx => ?_) ?_; rotate_left
      ·go_simp; try with_reducible rfl
      obtain ⟨⟨t0, t1, t2⟩, f0, f1, f2⟩ := HW.out.box
      refine rdH 15 (fun K hK => ?_)
      go_simp
      have HF := hid_mk HW.out.store2
      refine hK.out _ _ trivial (fun hS => ?_)
      clear hK K t0 t1 t2 f0 f1 f2
      refine wpAnyH_done (by kernel_rfl) ?_ _
      go_simp
      go_wp2_with fail
      go_meet
      case rel => exact ⟨rfl, ⟨S.nc, S.c, S.nl, S.l, S.nw + 1, fun p => (nums S.k (S.nw * 4) ++ nums (fun p => [k0, k1, 3, k2].getD p 0) (1 * 4)).getD p 0⟩, a0, c0, a1, c1, ao5, cp5, c + 1 + 3, ⟨by omega, by omega⟩, HF⟩
  ·obtain ⟨⟨t0, t1, t2⟩, f0, f1, f2⟩ := HD.out.box
   by_cases hnc : 0 < S.nc
   ·have dn : decide (0 < S.nc) = true := decide_eq_true hnc
    have hcap : S.nc ≤ c0 := own_cap HD.out.own.1.1
    obtain ⟨g, oo, rfl, _⟩ := HD.out.own.st.1.at hnc
    have HT := HD.out.own.st.1.tailR 1 hcap
    have HF : Hid (DrF w b o len cap bx ⟨S.nc - 1, fun p => S.c (1 * 3 + p), S.nl, S.l, S.nw, S.k⟩ (.slice (if c0 = 1 then some ⟨g, oo, none⟩ else some ⟨g, oo + 1 * 3, none⟩) (S.nc - 1) (c0 - 1)) (.slice a1 S.nl c1) (.slice a2 S.nw c2) (c + 1) (w3.setCell ⟨bx, 0, none⟩ (.slice (if c0 = 1 then some ⟨g, oo, none⟩ else some ⟨g, oo + 1 * 3, none⟩) (S.nc - 1) (c0 - 1)))) := DrW.store0 (v := .slice (some ⟨g, oo, none⟩) S.nc c0) {
     src := HD.out.src
     but := HD.out.but
     res := HD.out.res
     box := HD.out.box
     st := ⟨HT, HD.out.own.st.2.1, HD.out.own.st.2.2⟩
     ne := fun u hu => by
      simp only [List.mem_cons, List.not_mem_nil, or_false] at hu
      rcases hu with rfl | rfl | rfl
      ·have := HD.out.ne (.slice (some ⟨g, oo, none⟩) S.nc c0) (by simp)
       split
       ·exact this
       ·simpa [Value.ownBlock] using this
      ·exact HD.out.ne _ (by simp)
      ·exact HD.out.ne _ (by simp)
     sz := ⟨by have := HZ.out.1; show S.nc - 1 ≤ 202; omega, by have := HZ.out.2.1; show S.nl ≤ 202; omega, by have := HZ.out.2.2; show S.nw ≤ 202; omega⟩
     bl := HD.out.bl
     base := HD.out.base }
    clear HT
    by_cases hc1 : c0 = 1
    ·rw [if_pos hc1] at HF
     rw [show S.nc - 1 = 0 by omega] at HF
     subst hc1
     go_wp2_with fail
     go_meet
     case rel => exact ⟨rfl, ⟨0, fun p => S.c (1 * 3 + p), S.nl, S.l, S.nw, S.k⟩, some ⟨g, oo, none⟩, 0, a1, c1, a2, c2, c + 1, ⟨by omega, by omega⟩, HF⟩
    ·rw [if_neg hc1] at HF
     have dc1 : (c0 == 1) = false := beq_eq_false_iff_ne.2 hc1
     go_wp2_with fail
     go_meet
     case rel => exact ⟨rfl, ⟨S.nc - 1, fun p => S.c (1 * 3 + p), S.nl, S.l, S.nw, S.k⟩, some ⟨g, oo + 3, none⟩, c0 - 1, a1, c1, a2, c2, c + 1, ⟨by omega, by omega⟩, HF⟩
   ·have dn : decide (0 < S.nc) = false := decide_eq_false hnc
    go_wp2_with fail
    go_meet
    case rel => exact ⟨rfl, S, a0, c0, a1, c1, a2, c2, _, ⟨by omega, by omega⟩, HD.out.f HZ.out⟩
  ·obtain ⟨⟨t0, t1, t2⟩, f0, f1, f2⟩ := HD.out.box
   have hmk : ∀ w : World, (Instr.makeSlice 26 (.int .i64 201) (.int .i64 201)).run Tryz.prog w = .ok (.slice (some ⟨w.heap.size, 0, none⟩) 201 201) (w.alloc (.cells (madeCells #[.int .i64 0, .int .i64 0, .int .i64 0, .int .i64 0] 804) 55)) := make_row Tryz.underlying26 info_Write 201 (by omega) (by omega)
   have hlb : bx < w3.heap.size := HD.out.box.lt
   have HB := HD.out.later (below_alloc w3 (.cells (madeCells #[.int .i64 0, .int .i64 0, .int .i64 0, .int .i64 0] 804) 55))
   have HF : Hid (DrF w b o len cap bx ⟨S.nc, S.c, S.nl, S.l, 201, fun _ => 0⟩ (.slice a0 S.nc c0) (.slice a1 S.nl c1) (.slice (some ⟨w3.heap.size, 0, none⟩) 201 201) (c + 1) ((w3.alloc (.cells (madeCells #[.int .i64 0, .int .i64 0, .int .i64 0, .int .i64 0] 804) 55)).setCell ⟨bx, 2, none⟩ (.slice (some ⟨w3.heap.size, 0, none⟩) 201 201))) := DrW.store2 (v := .slice a2 S.nw c2) {
     src := HB.src
     but := HB.but
     res := HB.res
     box := HB.box
     st := ⟨HB.own.st.1, HB.own.st.2.1, row_zeros w3 _ (by have := HD.out.bl; omega)⟩
     ne := fun u hu => by
      simp only [List.mem_cons, List.not_mem_nil, or_false] at hu
      rcases hu with rfl | rfl | rfl
      ·exact HD.out.ne _ (by simp)
      ·exact HD.out.ne _ (by simp)
      ·simp [Value.ownBlock]; omega
     sz := ⟨by have := HZ.out.1; show S.nc ≤ 202; omega, by have := HZ.out.2.1; show S.nl ≤ 202; omega, by show 201 ≤ 202; omega⟩
     bl := HD.out.bl
     base := HD.out.base }
   clear HB
   rw [World.setCell_alloc_past _ _ _ _ hlb] at HF
   go_wp2_with fail
   go_meet
   case rel => exact ⟨rfl, ⟨S.nc, S.c, S.nl, S.l, 201, fun _ => 0⟩, a0, c0, a1, c1, some ⟨w3.heap.size, 0, none⟩, 201, c + 1, ⟨by omega, by omega⟩, HF⟩
  ·have d0 : (sw == 0) = false := beq_eq_false_iff_ne.2 (by omega)
   have d1 : (sw == 1) = false := beq_eq_false_iff_ne.2 (by omega)
   have d2 : (sw == 2) = false := beq_eq_false_iff_ne.2 (by omega)
   have d3 : (sw == 3) = false := beq_eq_false_iff_ne.2 (by omega)
   have d4 : (sw == 4) = false := beq_eq_false_iff_ne.2 (by omega)
   go_wp2_with fail
   go_meet
   case rel => exact ⟨rfl, S, a0, c0, a1, c1, a2, c2, _, ⟨by omega, by omega⟩, HD.out.f HZ.out⟩
 case rest =>
  clear HD HZ
  obtain ⟨rfl, T, a0, c0, a1, c1, a2, c2, e, he, HF⟩ := hcut
  obtain ⟨⟨r0, r1, r2⟩, f0, f1, f2⟩ := HF.out.res
  obtain ⟨⟨t0, t1, t2⟩, _⟩ := HF.out.box
  go_wp2
  have hlo : (w.heap.size : Nat) < w.heap.size + 1 := by omega
  refine bodyPost_ret (v := .agg #[.slice a0 T.nc c0, .slice a1 T.nl c1, .slice a2 T.nw c2]) (by simp [results, Tryz.results68, go_sem, r0, r1, r2]) rfl ⟨T, a0, c0, a1, c1, a2, c2, e, rfl, ⟨HF.out.sz, by omega⟩, (((HF.out.st.far hlo _).far hlo _).far hlo _).mono (by omega), ?_, ?_⟩
  ·exact ((HF.out.src.setS H0.out HF.out.but (Nat.le_refl _) _ _).setS H0.out (HF.out.but.setS (Nat.le_refl _) _ _) (Nat.le_refl _) _ _).setS H0.out ((HF.out.but.setS (Nat.le_refl _) _ _).setS (Nat.le_refl _) _ _) (Nat.le_refl _) _ _
  ·exact ((HF.out.but.setS (Nat.le_refl _) _ _).setS (Nat.le_refl _) _ _).setS (Nat.le_refl _) _ _
end Go.Proofs.YtiadbiiiikhfaaaGreatDoor

namespace Go.Proofs.YtiadbiiiikhfaaaGreatDoor
open Go.RowKit

theorem wf_drawn {ts pt : Int} (h : 1 ≤ ts ∧ ts ≤ 40) (hp : pt ∈ [ts, ts, ts, 0]) : Wf pt := by
 have : pt = ts ∨ pt = 0 := by simpa using hp
 exact wf_small (by omega) (by omega)
theorem wf_lockS {S : Sto} (hz : storeF S = 0) {k : Nat} (hk : k < S.nl) : Wf (S.l (k * 5 + 1)) := by
 have := lockF_zero (scan_zero (storeF_zero hz).2.2.1 k hk)
 exact wf_small (by omega) (by omega)
theorem wf_writeS {S : Sto} (hz : storeF S = 0) {k : Nat} (hk : k < S.nw) {cm pt : Int} (hc : Wf cm) (hp : pt ∈ [S.k (k * 4 + 2), S.k (k * 4 + 1), cm]) : Wf pt := by
 have z := writeF_zero (scan_zero (storeF_zero hz).2.2.2.1 k hk)
 have : pt = S.k (k * 4 + 2) ∨ pt = S.k (k * 4 + 1) ∨ pt = cm := by simpa using hp
 rcases this with rfl | rfl | rfl
 ·exact wf_small (by omega) (by omega)
 ·exact wf_small (by omega) (by omega)
 ·exact hc
theorem Row.butX {w w' : World} {b B m n : Nat} {F : Nat → Int} {v : Value} (h : Row w B m n F v) (hT : But b w w') (hb : b < B) : Row w' B m n F v :=
 h.turned hT (fun hn k hk e => by have := (h.lt hn k hk).1; have := Option.some.inj e; omega)
/-- A drawn store in its box, the answer's block still empty. -/
structure DrX (w : World) (b : Nat) (o : Option Addr) (len cap bx : Nat) (S : Sto) (v0 v1 v2 : Value) (a : Int) (x : World) : Prop where
 src : Src x b o len cap a
 bel : Below w.heap.size w x
 res : Blk3 x w.heap.size (.slice none 0 0) (.slice none 0 0) (.slice none 0 0)
 box : Blk3 x bx v0 v1 v2
 st : St x (b + 1) S v0 v1 v2
 sz : Sz2 S
 lo : w.heap.size < b
 bl : b < bx
 base : ∃ (w0 : World) (z : Int), Src w0 b o len cap z ∧ But b w0 x ∧ w0.heap.size ≤ bx
theorem DrX.step {w : World} {b : Nat} {o : Option Addr} {len cap bx : Nat} {S : Sto} {v0 v1 v2 : Value} {a a' : Int} {x x' : World} (h : DrX w b o len cap bx S v0 v1 v2 a x) (hT : But b x x') (hS : Src x' b o len cap a') : DrX w b o len cap bx S v0 v1 v2 a' x' where
 src := hS
 bel := Below.but h.bel hT h.bel.size (Nat.le_of_lt h.lo)
 res := h.res.butS hT (by have := h.lo; omega)
 box := h.box.butS hT (by have := h.bl; omega)
 st := ⟨h.st.1.butX hT (Nat.lt_succ_self _), h.st.2.1.butX hT (Nat.lt_succ_self _), h.st.2.2.butX hT (Nat.lt_succ_self _)⟩
 sz := h.sz
 lo := h.lo
 bl := h.bl
 base := by
  obtain ⟨w0, z0, s0, t0, l0⟩ := h.base
  exact ⟨w0, z0, s0, t0.trans hT, l0⟩
theorem DrX.later {w : World} {b : Nat} {o : Option Addr} {len cap bx : Nat} {S : Sto} {v0 v1 v2 : Value} {a : Int} {x x' : World} (h : DrX w b o len cap bx S v0 v1 v2 a x) (hb : Below x.heap.size x x') : DrX w b o len cap bx S v0 v1 v2 a x' :=
 h.step ((But.refl _ _).below hb) (h.src.later hb)
/-- A block of five cells, none frozen. -/
def Blk5 (x : World) (b : Nat) (a0 a1 a2 a3 a4 : Value) : Prop := (x.cell? ⟨b, 0, none⟩ = some a0 ∧ x.cell? ⟨b, 1, none⟩ = some a1 ∧ x.cell? ⟨b, 2, none⟩ = some a2 ∧ x.cell? ⟨b, 3, none⟩ = some a3 ∧ x.cell? ⟨b, 4, none⟩ = some a4) ∧ x.frozen? ⟨b, 0, none⟩ = false ∧ x.frozen? ⟨b, 1, none⟩ = false ∧ x.frozen? ⟨b, 2, none⟩ = false ∧ x.frozen? ⟨b, 3, none⟩ = false ∧ x.frozen? ⟨b, 4, none⟩ = false
theorem Blk5.lt {x : World} {b : Nat} {a0 a1 a2 a3 a4 : Value} (h : Blk5 x b a0 a1 a2 a3 a4) : b < x.heap.size := World.block_lt_of_cell? x _ h.1.1
theorem Blk5.kept {x x' : World} {b : Nat} {a0 a1 a2 a3 a4 : Value} (h : Blk5 x b a0 a1 a2 a3 a4) (hb : x'.heap[b]? = x.heap[b]?) : Blk5 x' b a0 a1 a2 a3 a4 := by
 obtain ⟨⟨h0, h1, h2, h3, h4⟩, f0, f1, f2, f3, f4⟩ := h
 exact ⟨⟨(World.cell?_of_block (w := x) (a := ⟨b, 0, none⟩) hb).trans h0, (World.cell?_of_block (w := x) (a := ⟨b, 1, none⟩) hb).trans h1, (World.cell?_of_block (w := x) (a := ⟨b, 2, none⟩) hb).trans h2, (World.cell?_of_block (w := x) (a := ⟨b, 3, none⟩) hb).trans h3, (World.cell?_of_block (w := x) (a := ⟨b, 4, none⟩) hb).trans h4⟩,
  (World.frozen?_of_block (w := x) (a := ⟨b, 0, none⟩) hb).trans f0, (World.frozen?_of_block (w := x) (a := ⟨b, 1, none⟩) hb).trans f1, (World.frozen?_of_block (w := x) (a := ⟨b, 2, none⟩) hb).trans f2, (World.frozen?_of_block (w := x) (a := ⟨b, 3, none⟩) hb).trans f3, (World.frozen?_of_block (w := x) (a := ⟨b, 4, none⟩) hb).trans f4⟩
theorem Blk5.new (w : World) (a0 a1 a2 a3 a4 : Value) (t : TypeId) : Blk5 (w.alloc (.cells #[a0, a1, a2, a3, a4] t)) w.heap.size a0 a1 a2 a3 a4 := by
 refine ⟨⟨World.cell?_alloc_mark w _ _ _ 0, World.cell?_alloc_mark w _ _ _ 1, World.cell?_alloc_mark w _ _ _ 2, World.cell?_alloc_mark w _ _ _ 3, World.cell?_alloc_mark w _ _ _ 4⟩, ?_, ?_, ?_, ?_, ?_⟩ <;> simp
theorem Blk5.put {x : World} {b : Nat} {a0 a1 a2 a3 a4 : Value} (h : Blk5 x b a0 a1 a2 a3 a4) (c0 c1 c2 c3 c4 : Value) : Blk5 (((((x.setCell ⟨b, 0, none⟩ c0).setCell ⟨b, 1, none⟩ c1).setCell ⟨b, 2, none⟩ c2).setCell ⟨b, 3, none⟩ c3).setCell ⟨b, 4, none⟩ c4) b c0 c1 c2 c3 c4 := by
 obtain ⟨⟨h0, h1, h2, h3, h4⟩, f0, f1, f2, f3, f4⟩ := h
 have o : ∀ {y : World} {i j : Nat} {u v : Value}, i ≠ j → y.cell? ⟨b, i, none⟩ = some u → (y.setCell ⟨b, j, none⟩ v).cell? ⟨b, i, none⟩ = some u := fun hn hu => (World.cell?_setCell_other _ _ _ _ (fun e => hn (congrArg Addr.off e).symm)).trans hu
 refine ⟨⟨?_, ?_, ?_, ?_, ?_⟩, by simpa using f0, by simpa using f1, by simpa using f2, by simpa using f3, by simpa using f4⟩
 ·exact o (by decide) (o (by decide) (o (by decide) (o (by decide) (World.cell?_setCell_same _ _ _ h0))))
 ·exact o (by decide) (o (by decide) (o (by decide) (World.cell?_setCell_same _ _ _ (o (by decide) h1))))
 ·exact o (by decide) (o (by decide) (World.cell?_setCell_same _ _ _ (o (by decide) (o (by decide) h2))))
 ·exact o (by decide) (World.cell?_setCell_same _ _ _ (o (by decide) (o (by decide) (o (by decide) h3))))
 ·exact World.cell?_setCell_same _ _ _ (o (by decide) (o (by decide) (o (by decide) (o (by decide) h4))))
theorem within_setX (x : World) (b j : Nat) (u : Value) : Within b (b + 1) x (x.setCell ⟨b, j, none⟩ u) := ⟨rfl, rfl, rfl, by simp [World.setCell], fun q _ ho => Below.heap_setCell x ⟨b, j, none⟩ u q (by show q ≠ b; omega)⟩
/-- A cell is set in a block behind the store's box and rows. -/
theorem DrX.setK {w : World} {b : Nat} {o : Option Addr} {len cap bx : Nat} {S : Sto} {v0 v1 v2 : Value} {a : Int} {x : World} (h : DrX w b o len cap bx S v0 v1 v2 a x) {c : Nat} (hn : OwnIn S v0 v1 v2 (fun k => k < c)) (hc : bx < c) (j : Nat) (u : Value) : DrX w b o len cap bx S v0 v1 v2 a (x.setCell ⟨c, j, none⟩ u) := by
 have lo := h.lo
 have bl := h.bl
 obtain ⟨w0, z0, s0, t0, l0⟩ := h.base
 exact {
  src := h.src.setS s0 t0 (by omega) j u
  bel := h.bel.setCell (by show w.heap.size ≤ c; omega) _
  res := h.res.kept (Below.heap_setCell _ _ _ _ (by show w.heap.size ≠ c; omega))
  box := h.box.kept (Below.heap_setCell _ _ _ _ (by show bx ≠ c; omega))
  st := h.st.within (within_setX x c j u) (hn.mono (fun k hk => Or.inl hk))
  sz := h.sz
  lo := lo
  bl := bl
  base := ⟨w0, z0, s0, t0.setS (by omega) j u, l0⟩ }
/-- The answer's block is laid: the store stands. -/
theorem DrX.out {w : World} {b : Nat} {o : Option Addr} {len cap bx : Nat} {S : Sto} {v0 v1 v2 : Value} {a : Int} {x : World} (h : DrX w b o len cap bx S v0 v1 v2 a x) (u0 u1 u2 : Value) :
  BoxS bx v0 v1 v2 (((x.setCell ⟨w.heap.size, 0, none⟩ u0).setCell ⟨w.heap.size, 1, none⟩ u1).setCell ⟨w.heap.size, 2, none⟩ u2) ∧ Blk3 (((x.setCell ⟨w.heap.size, 0, none⟩ u0).setCell ⟨w.heap.size, 1, none⟩ u1).setCell ⟨w.heap.size, 2, none⟩ u2) w.heap.size u0 u1 u2 ∧ St (((x.setCell ⟨w.heap.size, 0, none⟩ u0).setCell ⟨w.heap.size, 1, none⟩ u1).setCell ⟨w.heap.size, 2, none⟩ u2) w.heap.size S v0 v1 v2 ∧ Below w.heap.size w (((x.setCell ⟨w.heap.size, 0, none⟩ u0).setCell ⟨w.heap.size, 1, none⟩ u1).setCell ⟨w.heap.size, 2, none⟩ u2) := by
 have lo := h.lo
 have bl := h.bl
 have hf : ∀ j, (⟨w.heap.size, j, none⟩ : Addr).block < b + 1 := fun j => by show w.heap.size < b + 1; omega
 refine ⟨((h.box.setFar (by show bx ≠ w.heap.size; omega) _).setFar (by show bx ≠ w.heap.size; omega) _).setFar (by show bx ≠ w.heap.size; omega) _, ((h.res.set0 u0).set1 u1).set2 u2, (((h.st.far (hf 0) _).far (hf 1) _).far (hf 2) _).mono (by omega), ?_⟩
 exact ((h.bel.setCell (Nat.le_refl _) _).setCell (Nat.le_refl _) _).setCell (Nat.le_refl _) _
end Go.Proofs.YtiadbiiiikhfaaaGreatDoor

