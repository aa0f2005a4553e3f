/-
  Own text. Chapter 5: spec.DrawGrantMany draws an oracle and a number, and turns nothing that was there.
-/
import Derived.Test.YtbljhkhpfhphgaaOrcI
import Derived.Deep.RegionHeld
import Derived.Deep.DeepCutAuto
namespace Go.Proofs.Ytbljhkhpfhphgaa
open Go.RowKit

theorem Blok.drew {W : World} {g : Nat} {t : TypeId} {cs : Array Value} (h : Blok W g t cs) : Blok W.drew g t cs := h
theorem Src.drew {w : World} {b : Nat} {o : Option Addr} {len cap : Nat} {a : Int} (h : Src w b o len cap a) : Src w.drew b o len cap a := ⟨h.code, h.count, h.live, h.pos, h.bytes⟩
/-- What the draw's last region holds. -/
def DG (w : World) (g : Nat) (x y : Int) (X : World) : Prop :=
  (X.cell? ⟨g, 0, none⟩ = some (.int .i64 x) ∧ X.cell? ⟨g, 1, none⟩ = some (.int .i64 y)) ∧ (∃ p q : Value, Blok X w.heap.size 25 #[p, q]) ∧ Blok X g 25 #[.int .i64 x, .int .i64 y] ∧ Below w.heap.size w X ∧ w.heap.size + 1 < g
theorem DG.but {w X X' : World} {g : Nat} {x y : Int} (h : DG w g x y X) (hT : But (w.heap.size + 1) X X') : DG w g x y X' := by
  obtain ⟨_, ⟨p, q, h2⟩, h3, h4, h5⟩ := h
  have k3 : Blok X' g 25 #[.int .i64 x, .int .i64 y] := h3.kept hT (fun e => by cases e; omega)
  exact ⟨⟨k3.cell rfl, k3.cell rfl⟩, ⟨p, q, h2.kept hT (fun e => by have := Option.some.inj e; omega)⟩, k3, Below.but h4 hT h4.size (by omega), h5⟩
theorem DG.drew {w X : World} {g : Nat} {x y : Int} (h : DG w g x y X) : DG w g x y X.drew := ⟨h.1, h.2.1, h.2.2.1, h.2.2.2.1.drew, h.2.2.2.2⟩
theorem DG.alloc {w X : World} {g : Nat} {x y : Int} (h : DG w g x y X) (o : Obj) : DG w g x y (X.alloc o) := by
  obtain ⟨_, ⟨p, q, h2⟩, h3, h4, h5⟩ := h
  have k3 := h3.alloc o
  exact ⟨⟨k3.cell rfl, k3.cell rfl⟩, ⟨p, q, h2.alloc o⟩, k3, h4.alloc h4.size _, h5⟩
theorem DG.set {w X : World} {g : Nat} {x y : Int} (h : DG w g x y X) (u v : Value) : DG w g x y ((X.setCell ⟨w.heap.size, 0, none⟩ u).setCell ⟨w.heap.size, 1, none⟩ v) := by
  obtain ⟨_, ⟨p, q, h2⟩, h3, h4, h5⟩ := h
  have k3 := (h3.other (g' := w.heap.size) (by omega) 0 u).other (g' := w.heap.size) (by omega) 1 v
  exact ⟨⟨k3.cell rfl, k3.cell rfl⟩, ⟨_, _, (h2.set 0 u).set 1 v⟩, k3, (h4.setCell (Nat.le_refl _) _).setCell (Nat.le_refl _) _, h5⟩

set_option maxRecDepth 100000 in
set_option maxHeartbeats 4000000 in
theorem drawMany_any (w : World) (o : Option Addr) (len cap : Nat) (h : Code w o len) (hl : len ≤ 1048576) :
    Calls Try.prog 10 #[.slice o len cap] w fun e w' => ∃ x y n : Int, e = .returned (.tuple #[.agg #[.int .i64 x, .int .i64 y], .int .i64 n]) ∧ Below w.heap.size w w' := by
  have H : Hid (Code w o len) := h
  clear h
  go_enter Try.func10, Try.ntmps10
  go_wp2_with fail
  refine (l1Source_any _ o len cap (H.out.later ((Below.refl _ _).alloc (Nat.le_refl _) _))).mono ?_
  rintro e w1 ⟨rfl, hS, hb, hz⟩
  simp only [World.size_alloc] at hS hb hz
  have R : Hid (Blok w1 w.heap.size 25 #[.int .i64 0, .int .i64 0]) := (Blok.new w _ _).later hb (by omega)
  have B : Hid (Below w.heap.size w w1) := ((Below.refl _ _).alloc (Nat.le_refl _) _).trans (hb.mono (by omega))
  have H1 : Hid (Src w1 (w.heap.size + 1) o len cap 0) := hS
  clear hS hb
  go_wp2_with fail
  refine (l5Draw_any _ (w.heap.size + 1) o len cap 0 (by simpa using H1.out) (by omega) hl).mono ?_
  rintro e w2 ⟨x, y, a', rfl, ha', hS, hT⟩
  have R2 : Hid (Blok w2 w.heap.size 25 #[.int .i64 0, .int .i64 0]) := R.out.kept hT (fun e => by have := Option.some.inj e; omega)
  have B2 : Hid (Below w.heap.size w w2) := Below.but B.out hT B.out.size (by omega)
  have hz2 : w.heap.size + 1 < w2.heap.size := by have := hT.size; omega
  have H2 : Hid (Src w2 (w.heap.size + 1) o len cap a') := hS
  clear hS hT H1 R B
  go_upto_region 3 with fail
  have hp := H2.out.pos
  have D0 : DG w w2.heap.size x y (w2.alloc (.cells #[.int .i64 x, .int .i64 y] 25)) := by
    have k := Blok.new w2 25 #[.int .i64 x, .int .i64 y]
    exact ⟨⟨k.cell rfl, k.cell rfl⟩, ⟨_, _, R2.out.alloc _⟩, k, B2.out.alloc B2.out.size _, hz2⟩
  refine wp_region_held_drew (S := DG w w2.heap.size x y) (by kernel_rfl) D0.drew (fun hS => ?_)
  refine wpAnyH_take (i := 0) (v := ?_) rfl (by kernel_rfl) (by kernel_rfl) (by kernel_rfl) (fun _ _ _ h => h) (Or.inl ⟨by kernel_rfl, ?_⟩) hS ?_
  rotate_left
  · intro wx hx
    obtain ⟨⟨hx0, hx1⟩, _⟩ := hx
    go_simp
    try with_reducible rfl
  refine wpAnyH_take (i := 1) (v := ?_) rfl (by kernel_rfl) (by kernel_rfl) (by kernel_rfl) (fun _ _ _ h => h) (Or.inl ⟨by kernel_rfl, ?_⟩) hS ?_
  rotate_left
  · intro wx hx
    obtain ⟨⟨hx0, hx1⟩, _⟩ := hx
    go_simp
    try with_reducible rfl
  refine wpAnyH_take (i := 2) (v := ?_) rfl (by kernel_rfl) (by kernel_rfl) (by kernel_rfl) (fun _ _ _ h => h) (Or.inl ⟨by kernel_rfl, ?_⟩) hS ?_
  rotate_left
  · intro wx hx
    obtain ⟨⟨hx0, hx1⟩, _⟩ := hx
    go_simp
    try with_reducible rfl
  refine wpAnyH_take (i := 4) (v := ?_) rfl (by kernel_rfl) (by kernel_rfl) (by kernel_rfl) (fun _ _ _ h => h) (Or.inl ⟨by kernel_rfl, ?_⟩) hS ?_
  rotate_left
  · intro wx hx
    obtain ⟨⟨hx0, hx1⟩, _⟩ := hx
    go_simp
    try with_reducible rfl
  refine wpAnyH_ready (rs := [3]) (by kernel_rfl) (by simp) ?_
  refine AllReadyH.cons rfl (fun K hK => ?_) AllReadyH.nil
  go_simp
  go_wp2_with fail
  refine (l1Next_any _ (w.heap.size + 1) o len cap a' 30 (H2.out.alloc _).drew (by omega) hl).mono ?_
  rintro e w3 ⟨r1, rfl, r0, _, hS3, hT⟩
  have H3 : Hid (Src w3 (w.heap.size + 1) o len cap (a' + 1)) := hS3
  have D3 := hS.but hT
  clear hS3 hT hS
  go_wp2_with fail
  refine hK.out _ _ D3 (fun hS => ?_)
  clear hK K D3
  refine wpAnyH_ready (rs := [5]) (by kernel_rfl) (by simp) ?_
  refine AllReadyH.cons rfl (fun K hK => ?_) AllReadyH.nil
  go_simp
  go_wp2_with fail
  refine (l1Next_any _ (w.heap.size + 1) o len cap (a' + 1) 9 H3.out (by omega) hl).mono ?_
  rintro e w4 ⟨r2, rfl, s0, _, hS3, hT⟩
  have H4 : Hid (Src w4 (w.heap.size + 1) o len cap (a' + 1 + 1)) := hS3
  have D3 := hS.but hT
  clear hS3 hT hS
  go_wp2_with fail
  refine hK.out _ _ D3 (fun hS => ?_)
  clear hK K D3
  refine wpAnyH_ready (rs := [6]) (by kernel_rfl) (by simp) ?_
  refine AllReadyH.cons rfl (fun K hK => ?_) AllReadyH.nil
  go_simp
  go_wp2_with fail
  refine hK.out _ _ (hS.alloc _) (fun hS => ?_)
  clear hK K
  refine wpAnyH_ready (rs := [7]) (by kernel_rfl) (by simp) ?_
  refine AllReadyH.cons rfl (fun K hK => ?_) AllReadyH.nil
  go_simp
  go_wp2_with fail
  have hI : Ints (w4.alloc (.cells #[.int .i64 r1, .int .i64 r2, .int .i64 100, .int .i64 101, .int .i64 (-1)] 2)) w4.heap.size (.slice (some ⟨w4.heap.size, 0, none⟩) 5 5) [r1, r2, 100, 101, -1] := World.ownsRow_lit w4 #[.int .i64 r1, .int .i64 r2, .int .i64 100, .int .i64 101, .int .i64 (-1)] 5 (Nat.le_refl _) (by decide) rfl
  refine (l1Pick_any _ (w.heap.size + 1) o len cap (a' + 1 + 1) _ w4.heap.size [r1, r2, 100, 101, -1] (H4.out.alloc _) (by omega) hl hI H4.out.lt (by simp) (by simp)).mono ?_
  rintro e w5 ⟨k, rfl, _, hS3, hT⟩
  have D3 := hS.but hT
  clear hS3 hT hS hI
  go_wp2_with fail
  refine hK.out _ _ D3 (fun hS => ?_)
  clear hK K D3
  obtain ⟨p, q, bR⟩ := hS.2.1
  have c0 : w5.cell? ⟨w.heap.size, 0, none⟩ = some p := bR.cell rfl
  have c1 : w5.cell? ⟨w.heap.size, 1, none⟩ = some q := bR.cell rfl
  have g0 := bR.frozen 0
  have g1 := bR.frozen 1
  refine wpAnyH_ready (rs := [8]) (by kernel_rfl) (by simp) ?_
  refine AllReadyH.cons rfl (fun K hK => ?_) AllReadyH.nil
  go_simp
  go_wp2_with fail
  refine hK.out _ _ (hS.set _ _) (fun hS => ?_)
  clear hK K
  refine wpAnyH_take (i := 9) (v := ?_) rfl (by kernel_rfl) (by kernel_rfl) (by kernel_rfl) (fun _ _ _ h => h) (Or.inl ⟨by kernel_rfl, ?_⟩) hS ?_
  rotate_left
  · intro wx hx
    obtain ⟨⟨hx0, hx1⟩, _⟩ := hx
    go_simp
    try with_reducible rfl
  refine wpAnyH_done (by kernel_rfl) ?_ _
  go_simp
  go_wp2
  refine bodyPost_ret (v := .tuple #[.agg #[.int .i64 x, .int .i64 y], .int .i64 k]) ?_ rfl ⟨x, y, k, rfl, hS.2.2.2.1⟩
  simp [results, Try.results10, go_sem, c0, c1]
end Go.Proofs.Ytbljhkhpfhphgaa
