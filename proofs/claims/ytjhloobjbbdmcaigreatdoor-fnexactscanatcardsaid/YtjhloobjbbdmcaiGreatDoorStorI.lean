/-
  Own text. What GetAt answers, the program's and the model's: a code, whether there is something, and what.
-/
import Derived.Test.YtjhloobjbbdmcaiGreatDoorStorH
namespace Go.Proofs.YtjhloobjbbdmcaiGreatDoor
open Go.RowKit

def isTs (ts : Int) : Prop := 1 ≤ ts ∧ ts ≤ 100000
/-- The last put or delete of key up to ts is a put; its cell is cell j. -/
def reads (S : Sto) (key ts : Int) (i j : Nat) : Prop := lastW S.k S.nw key ts i ∧ S.k (i * 4 + 3) = 1 ∧ j < S.nc ∧ cellIs S.c key (S.k (i * 4 + 2)) j
/-- What GetAt answers. -/
def GetAns (S : Sto) (key ts c : Int) (has : Bool) (v : Int) : Prop :=
  (askF S key ≠ 0 ∧ c = askF S key ∧ has = false ∧ v = 0) ∨ (askF S key = 0 ∧ ¬ isTs ts ∧ c = 3 ∧ has = false ∧ v = 0) ∨
  (askF S key = 0 ∧ isTs ts ∧ blocks S.l S.nl key ts ∧ c = 7 ∧ has = false ∧ v = 0) ∨
  (askF S key = 0 ∧ isTs ts ∧ ¬ blocks S.l S.nl key ts ∧ (∀ i, lastW S.k S.nw key ts i → S.k (i * 4 + 3) ≠ 1) ∧ c = 0 ∧ has = false ∧ v = 0) ∨
  (askF S key = 0 ∧ isTs ts ∧ ¬ blocks S.l S.nl key ts ∧ ∃ i j, reads S key ts i j ∧ c = 0 ∧ has = true ∧ v = S.c (j * 3 + 2))
theorem GetAns.get (S : Sto) (key ts : Int) : ∃ c has v, GetAns S key ts c has v := by
  by_cases hz : askF S key = 0
  case neg => exact ⟨_, _, _, Or.inl ⟨hz, rfl, rfl, rfl⟩⟩
  by_cases ht : isTs ts
  case neg => exact ⟨_, _, _, Or.inr (Or.inl ⟨hz, ht, rfl, rfl, rfl⟩)⟩
  by_cases hb : blocks S.l S.nl key ts
  · exact ⟨_, _, _, Or.inr (Or.inr (Or.inl ⟨hz, ht, hb, rfl, rfl, rfl⟩))⟩
  by_cases hl : ∀ i, lastW S.k S.nw key ts i → S.k (i * 4 + 3) ≠ 1
  · exact ⟨_, _, _, Or.inr (Or.inr (Or.inr (Or.inl ⟨hz, ht, hb, hl, rfl, rfl, rfl⟩)))⟩
  have he : ∃ i, lastW S.k S.nw key ts i ∧ S.k (i * 4 + 3) = 1 := Classical.byContradiction fun q => hl (fun i hi e => q ⟨i, hi, e⟩)
  obtain ⟨i, hi, h1⟩ := he
  obtain ⟨j, hj, hc⟩ := (storeF_zero (askF_zero hz).1).2.2.2.2.1.1 i hi.1 h1
  rw [hi.2.1.1] at hc
  exact ⟨_, _, _, Or.inr (Or.inr (Or.inr (Or.inr ⟨hz, ht, hb, i, j, ⟨hi, h1, hj, hc⟩, rfl, rfl, rfl⟩)))⟩
def GetCall (w : World) (B : Nat) (S : Sto) (v0 v1 v2 r0 r1 r2 : Value) (x : World) : Prop := Blk3 x w.heap.size v0 v1 v2 ∧ Blk3 x (w.heap.size + 1) r0 r1 r2 ∧ St x B S v0 v1 v2 ∧ Below w.heap.size w x
theorem GetCall.later {w x x' : World} {B : Nat} {S : Sto} {v0 v1 v2 r0 r1 r2 : Value} (h : GetCall w B S v0 v1 v2 r0 r1 r2 x) (hb : Below x.heap.size x x') : GetCall w B S v0 v1 v2 r0 r1 r2 x' :=
  ⟨h.1.later hb, h.2.1.later hb, h.2.2.1.later hb, h.2.2.2.trans (hb.mono h.2.2.2.size)⟩
theorem GetCall.new {w : World} {B : Nat} {S : Sto} {v0 v1 v2 : Value} (h : St w B S v0 v1 v2) (r0 r1 r2 : Value) (t t' : TypeId) : GetCall w B S v0 v1 v2 r0 r1 r2 ((w.alloc (.cells #[v0, v1, v2] t)).alloc (.cells #[r0, r1, r2] t')) := by
  refine ⟨(Blk3.new w _ _ _ _).alloc _, ?_, (h.alloc _).alloc _, (below_alloc _ _).alloc (by simp) _⟩
  have := Blk3.new (w.alloc (.cells #[v0, v1, v2] t)) r0 r1 r2 t'
  rwa [World.size_alloc] at this
def ValEnv (w : World) (b : Nat) (S : Sto) (v0 v1 v2 : Value) (g o g' o' i j : Nat) (st v : Int) (x : World) : Prop := x.cell? ⟨b, 0, none⟩ = some v0 ∧ x.cell? ⟨b, 2, none⟩ = some v2 ∧ x.cell? ⟨g, o + i * 4 + 2, none⟩ = some (.int .i64 st) ∧ x.cell? ⟨g', o' + j * 3 + 2, none⟩ = some (.int .i64 v) ∧ Lies x b S v0 v1 v2 ∧ Below w.heap.size w x
set_option maxRecDepth 100000 in
set_option maxHeartbeats 4000000 in
theorem l3Value_some (S : Sto) (b : Nat) (v0 v1 v2 : Value) (key ts : Int) (i j : Nat) (w : World) (h : Lies w b S v0 v1 v2) (hc : S.nc ≤ 200) (hn : S.nw ≤ 200) (z0 : scan (cellF S.c) S.nc = 0) (hr : reads S key ts i j) :
    Calls Tryz.prog 59 #[.pointer (some ⟨b, 0, none⟩), .int .i64 key, .int .i64 ts] w fun e w' => e = .returned (.tuple #[.int .i64 (S.c (j * 3 + 2)), .bool true]) ∧ Below w.heap.size w w' := by
  obtain ⟨a0, c0, a1, c1, a2, c2, rfl, rfl, rfl⟩ := h.2.form
  have H : Hid (Lies w b S (.slice a0 S.nc c0) (.slice a1 S.nl c1) (.slice a2 S.nw c2)) := h
  have hfirst : FirstAt (cellIs S.c key (S.k (i * 4 + 2))) S.nc j := Or.inr ⟨j, hr.2.2.1, rfl, hr.2.2.2, fun q hq e => (cells_rise z0 j hr.2.2.1 q hq).ne ⟨e.1.trans hr.2.2.2.1.symm, e.2.trans hr.2.2.2.2.symm⟩⟩
  have HR : Hid (lastW S.k S.nw key ts i) := hr.1
  have h3 := hr.2.1
  have hi := hr.1.1
  have hj := hr.2.2.1
  obtain ⟨st, hst⟩ : ∃ x, S.k (i * 4 + 2) = x := ⟨_, rfl⟩
  obtain ⟨v, hv⟩ : ∃ x, S.c (j * 3 + 2) = x := ⟨_, rfl⟩
  rw [hst] at hfirst
  rw [hv]
  have HF : Hid (FirstAt (cellIs S.c key st) S.nc j) := hfirst
  have HV : Hid (S.k (i * 4 + 2) = st ∧ S.c (j * 3 + 2) = v ∧ S.k (i * 4 + 3) = 1) := ⟨hst, hv, h3⟩
  clear h hr hfirst hst hv h3 z0
  go_enter Tryz.func59, Tryz.ntmps59
  go_wp2_with fail
  refine (l2Last_yes S b _ _ _ key ts i _ H.out hn HR.out).mono ?_
  rintro e w1 ⟨rfl, q1⟩
  have H1 : Hid (Lies w1 b S (.slice a0 S.nc c0) (.slice a1 S.nl c1) (.slice a2 S.nw c2)) := H.out.later q1
  have Q1 : Hid (Below w.heap.size w w1) := q1
  obtain ⟨g, o, rfl, _, hg, x0, x1, x2, x3⟩ := H1.out.2.2.2.at4 hi
  obtain ⟨g', o', rfl, _, hg', y0, y1, y2⟩ := H1.out.2.1.at3 hj
  rw [HV.out.1] at x2
  rw [HV.out.2.2] at x3
  rw [HV.out.2.1] at y2
  have e0 := H1.out.1.1
  have e2 := H1.out.1.2.2
  have hbl := H1.out.lt
  have hin : (i : Int) < (S.nw : Int) := by omega
  have hjn : (j : Int) < (S.nc : Int) := by omega
  have h0 : ValEnv w b S (.slice (some ⟨g', o', none⟩) S.nc c0) (.slice a1 S.nl c1) (.slice (some ⟨g, o, none⟩) S.nw c2) g o g' o' i j st v w1.drew := ⟨e0, e2, x2, y2, H1.out, Q1.out.drew⟩
  clear q1 H Q1 H1
  go_wp2_with fail
  refine wp_region_held_drew (S := ValEnv w b S (.slice (some ⟨g', o', none⟩) S.nc c0) (.slice a1 S.nl c1) (.slice (some ⟨g, o, none⟩) S.nw c2) g o g' o' i j st v) (by kernel_rfl) h0 (fun hS => ?_)
  clear h0 x0 x1 x2 x3 y0 y1 y2 e0 e2
  refine wpAnyH_take (i := 0) (v := ?_) rfl (by kernel_rfl) (by kernel_rfl) (by kernel_rfl) (fun _ _ _ h => h) (Or.inl ⟨by kernel_rfl, ?_⟩) hS ?_
  rotate_left
  · intro wx hx
    obtain ⟨hx0, hx1, hx2, hx3, _⟩ := hx
    go_simp
    try with_reducible rfl
  refine wpAnyH_take (i := 1) (v := ?_) rfl (by kernel_rfl) (by kernel_rfl) (by kernel_rfl) (fun _ _ _ h => h) (Or.inl ⟨by kernel_rfl, ?_⟩) hS ?_
  rotate_left
  · intro wx hx
    obtain ⟨hx0, hx1, hx2, hx3, _⟩ := hx
    go_simp
    try with_reducible rfl
  refine wpAnyH_take (i := 2) (v := ?_) rfl (by kernel_rfl) (by kernel_rfl) (by kernel_rfl) (fun _ _ _ h => h) (Or.inl ⟨by kernel_rfl, ?_⟩) hS ?_
  rotate_left
  · intro wx hx
    obtain ⟨hx0, hx1, hx2, hx3, _⟩ := hx
    go_simp
    try with_reducible rfl
  refine wpAnyH_take (i := 3) (v := ?_) rfl (by kernel_rfl) (by kernel_rfl) (by kernel_rfl) (fun _ _ _ h => h) (Or.inl ⟨by kernel_rfl, ?_⟩) hS ?_
  rotate_left
  · intro wx hx
    obtain ⟨hx0, hx1, hx2, hx3, _⟩ := hx
    go_simp
    try with_reducible rfl
  refine wpAnyH_take (i := 4) (v := ?_) rfl (by kernel_rfl) (by kernel_rfl) (by kernel_rfl) (fun _ _ _ h => h) (Or.inl ⟨by kernel_rfl, ?_⟩) hS ?_
  rotate_left
  · intro wx hx
    obtain ⟨hx0, hx1, hx2, hx3, _⟩ := hx
    go_simp
    try with_reducible rfl
  refine wpAnyH_take (i := 5) (v := ?_) rfl (by kernel_rfl) (by kernel_rfl) (by kernel_rfl) (fun _ _ _ h => h) (Or.inl ⟨by kernel_rfl, ?_⟩) hS ?_
  rotate_left
  · intro wx hx
    obtain ⟨hx0, hx1, hx2, hx3, _⟩ := hx
    go_simp
    try with_reducible rfl
  refine wpAnyH_take (i := 6) (v := ?_) rfl (by kernel_rfl) (by kernel_rfl) (by kernel_rfl) (fun _ _ _ h => h) (Or.inl ⟨by kernel_rfl, ?_⟩) hS ?_
  rotate_left
  · intro wx hx
    obtain ⟨hx0, hx1, hx2, hx3, _⟩ := hx
    go_simp
    try with_reducible rfl
  refine wpAnyH_take (i := 7) (v := ?_) rfl (by kernel_rfl) (by kernel_rfl) (by kernel_rfl) (fun _ _ _ h => h) (Or.inl ⟨by kernel_rfl, ?_⟩) hS ?_
  rotate_left
  · intro wx hx
    obtain ⟨hx0, hx1, hx2, hx3, _⟩ := hx
    go_simp
    try with_reducible rfl
  refine wpAnyH_take (i := 8) (v := ?_) rfl (by kernel_rfl) (by kernel_rfl) (by kernel_rfl) (fun _ _ _ h => h) (Or.inl ⟨by kernel_rfl, ?_⟩) hS ?_
  rotate_left
  · intro wx hx
    obtain ⟨hx0, hx1, hx2, hx3, _⟩ := hx
    go_simp
    try with_reducible rfl
  refine wpAnyH_take (i := 9) (v := ?_) rfl (by kernel_rfl) (by kernel_rfl) (by kernel_rfl) (fun _ _ _ h => h) (Or.inl ⟨by kernel_rfl, ?_⟩) hS ?_
  rotate_left
  · intro wx hx
    obtain ⟨hx0, hx1, hx2, hx3, _⟩ := hx
    go_simp
    try with_reducible rfl
  refine wpAnyH_take (i := 10) (v := ?_) rfl (by kernel_rfl) (by kernel_rfl) (by kernel_rfl) (fun _ _ _ h => h) (Or.inl ⟨by kernel_rfl, ?_⟩) hS ?_
  rotate_left
  · intro wx hx
    obtain ⟨hx0, hx1, hx2, hx3, _⟩ := hx
    go_simp
    try with_reducible rfl
  refine wpAnyH_take (i := 11) (v := ?_) rfl (by kernel_rfl) (by kernel_rfl) (by kernel_rfl) (fun _ _ _ h => h) (Or.inl ⟨by kernel_rfl, ?_⟩) hS ?_
  rotate_left
  · intro wx hx
    obtain ⟨hx0, hx1, hx2, hx3, _⟩ := hx
    go_simp
    try with_reducible rfl
  refine wpAnyH_take (i := 12) (v := ?_) rfl (by kernel_rfl) (by kernel_rfl) (by kernel_rfl) (fun _ _ _ h => h) (Or.inl ⟨by kernel_rfl, ?_⟩) hS ?_
  rotate_left
  · intro wx hx
    obtain ⟨hx0, hx1, hx2, hx3, _⟩ := hx
    go_simp
    try with_reducible rfl
  refine wpAnyH_take (i := 13) (v := ?_) rfl (by kernel_rfl) (by kernel_rfl) (by kernel_rfl) (fun _ _ _ h => h) (Or.inl ⟨by kernel_rfl, ?_⟩) hS ?_
  rotate_left
  · intro wx hx
    obtain ⟨hx0, hx1, hx2, hx3, _⟩ := hx
    go_simp
    try with_reducible rfl
  refine wpAnyH_ready (rs := [14]) (by kernel_rfl) (by simp) ?_
  refine AllReadyH.cons rfl (fun K hK => ?_) AllReadyH.nil
  go_simp
  go_wp2_with fail
  refine (l2Cell_is S b _ _ _ key st j _ hS.2.2.2.2.1 hc HF.out).mono ?_
  rintro e w2 ⟨rfl, rfl⟩
  have hS' := hS
  go_wp2_with fail
  refine hK.out _ _ hS' (fun hS => ?_)
  clear hK K hS'
  refine wpAnyH_take (i := 15) (v := ?_) rfl (by kernel_rfl) (by kernel_rfl) (by kernel_rfl) (fun _ _ _ h => h) (Or.inl ⟨by kernel_rfl, ?_⟩) hS ?_
  rotate_left
  · intro wx hx
    obtain ⟨hx0, hx1, hx2, hx3, _⟩ := hx
    go_simp
    try with_reducible rfl
  refine wpAnyH_take (i := 16) (v := ?_) rfl (by kernel_rfl) (by kernel_rfl) (by kernel_rfl) (fun _ _ _ h => h) (Or.inl ⟨by kernel_rfl, ?_⟩) hS ?_
  rotate_left
  · intro wx hx
    obtain ⟨hx0, hx1, hx2, hx3, _⟩ := hx
    go_simp
    try with_reducible rfl
  refine wpAnyH_take (i := 17) (v := ?_) rfl (by kernel_rfl) (by kernel_rfl) (by kernel_rfl) (fun _ _ _ h => h) (Or.inl ⟨by kernel_rfl, ?_⟩) hS ?_
  rotate_left
  · intro wx hx
    obtain ⟨hx0, hx1, hx2, hx3, _⟩ := hx
    go_simp
    try with_reducible rfl
  refine wpAnyH_take (i := 18) (v := ?_) rfl (by kernel_rfl) (by kernel_rfl) (by kernel_rfl) (fun _ _ _ h => h) (Or.inl ⟨by kernel_rfl, ?_⟩) hS ?_
  rotate_left
  · intro wx hx
    obtain ⟨hx0, hx1, hx2, hx3, _⟩ := hx
    go_simp
    try with_reducible rfl
  refine wpAnyH_take (i := 19) (v := ?_) rfl (by kernel_rfl) (by kernel_rfl) (by kernel_rfl) (fun _ _ _ h => h) (Or.inl ⟨by kernel_rfl, ?_⟩) hS ?_
  rotate_left
  · intro wx hx
    obtain ⟨hx0, hx1, hx2, hx3, _⟩ := hx
    go_simp
    try with_reducible rfl
  refine wpAnyH_done (by kernel_rfl) ?_ _
  go_simp
  go_wp2
  go_ret2
  exact ⟨rfl, hS.2.2.2.2.2⟩
set_option maxRecDepth 100000 in
set_option maxHeartbeats 4000000 in
theorem l3Value_none (S : Sto) (b : Nat) (v0 v1 v2 : Value) (key ts : Int) (w : World) (h : Lies w b S v0 v1 v2) (hn : S.nw ≤ 200) (hl : ∀ i, lastW S.k S.nw key ts i → S.k (i * 4 + 3) ≠ 1) :
    Calls Tryz.prog 59 #[.pointer (some ⟨b, 0, none⟩), .int .i64 key, .int .i64 ts] w fun e w' => e = .returned (.tuple #[.int .i64 0, .bool false]) ∧ Below w.heap.size w w' := by
  obtain ⟨a0, c0, a1, c1, a2, c2, rfl, rfl, rfl⟩ := h.2.form
  have H : Hid (Lies w b S (.slice a0 S.nc c0) (.slice a1 S.nl c1) (.slice a2 S.nw c2)) := h
  clear h
  by_cases he : ∃ i, lastW S.k S.nw key ts i
  · obtain ⟨i, hi⟩ := he
    have h3 := hl i hi
    have HR : Hid (lastW S.k S.nw key ts i) := hi
    have hi' := hi.1
    clear hl hi
    go_enter Tryz.func59, Tryz.ntmps59
    go_wp2_with fail
    refine (l2Last_yes S b _ _ _ key ts i _ H.out hn HR.out).mono ?_
    rintro e w1 ⟨rfl, q1⟩
    have H1 : Hid (Lies w1 b S (.slice a0 S.nc c0) (.slice a1 S.nl c1) (.slice a2 S.nw c2)) := H.out.later q1
    have Q1 : Hid (Below w.heap.size w w1) := q1
    obtain ⟨g, o, rfl, _, hg, x0, x1, x2, x3⟩ := H1.out.2.2.2.at4 hi'
    obtain ⟨n3, N3⟩ : ∃ x, S.k (i * 4 + 3) = x := ⟨_, rfl⟩
    rw [N3] at x3 h3
    have d3 : (n3 != 1) = true := bne_iff_ne.2 h3
    have di : decide ((i : Int) < 0) = false := decide_eq_false (by omega)
    have e2 := H1.out.1.2.2
    have hbl := H1.out.lt
    have hin : (i : Int) < (S.nw : Int) := by omega
    clear q1 H N3 h3 H1
    go_wp2
    go_ret2
    exact ⟨rfl, Q1.out⟩
  · have HN : Hid (∀ i, ¬ lastW S.k S.nw key ts i) := fun i hi => he ⟨i, hi⟩
    clear hl he
    go_enter Tryz.func59, Tryz.ntmps59
    go_wp2_with fail
    refine (l2Last_no S b _ _ _ key ts _ H.out hn HN.out).mono ?_
    rintro e w1 ⟨rfl, q1⟩
    have Q1 : Hid (Below w.heap.size w w1) := q1
    clear q1 H
    go_wp2
    go_ret2
    exact ⟨rfl, Q1.out⟩
end Go.Proofs.YtjhloobjbbdmcaiGreatDoor
