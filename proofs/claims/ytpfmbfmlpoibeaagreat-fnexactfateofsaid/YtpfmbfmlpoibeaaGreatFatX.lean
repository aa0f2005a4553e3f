/-
  Own text, merged of FatP, FatW, FatX.
-/
import Derived.Test.YtpfmbfmlpoibeaaGreatGrpW
import Derived.Test.YtpfmbfmlpoibeaaGreatRslB
import Derived.Test.YtpfmbfmlpoibeaaGreatGrpL
import Derived.Test.YtpfmbfmlpoibeaaGreatLawI
namespace Go.Proofs.YtpfmbfmlpoibeaaGreat
section
open Go.RowKit Go.Maps
-- Own text. Chapter 9, the program's side: what is asked first (askGroups), the store of a key among those that are worked on (storeOf), what becomes of a lock (fate), FateOf.
theorem isNow_is (now : Int) (r : Bool) (hr : decide (0 ≤ now ∧ now ≤ 100000) = r) (w : World) :
    Calls Tryz.prog 20 #[.int .i64 now] w fun e w' => e = .returned (.bool r) ∧ w' = w := by
  go_enter Tryz.func20, Tryz.ntmps20
  go_wp2_with fail
  refine (isUntil_is now r hr _).mono ?_
  rintro e w1 ⟨rfl, hw1⟩
  obtain rfl := hw1.symm
  go_wp2
  go_ret
  exact ⟨rfl, rfl⟩
set_option maxRecDepth 100000 in
set_option maxHeartbeats 4000000 in
theorem askGroups_is (nr : Nat) (F : Nat → Int) (n : Nat) (S : Nat → Sto) (V : Nat → Nat → Value) (vr vs : Value) (key now : Int) (B : Nat) (w : World) (h : Grs w B nr F n S V vr vs) (hr : nr ≤ 9223372036854775807) (hn : n ≤ 9223372036854775807) :
    Calls Tryz.prog 47 #[.agg #[vr, vs], .int .i64 key, .int .i64 now] w fun e w' => e = .returned (.int .i64 (askG nr F n S key now)) ∧ Below w.heap.size w w' := by
  obtain ⟨a0, c0, a1, c1, rfl, rfl⟩ := h.form
  have H : Hid (CallG w nr F n S V B (.slice a0 nr c0) (.slice a1 n c1) (w.alloc (.cells #[.slice a0 nr c0, .slice a1 n c1] 27))) := CallG.new h _
  clear h
  obtain ⟨⟨p0, p1⟩, _⟩ := H.out.1
  unfold askG
  obtain ⟨f, hf⟩ : ∃ f, groupsF nr F n S = f := ⟨_, rfl⟩
  obtain ⟨k, hk⟩ : ∃ k, faultOf key = k := ⟨_, rfl⟩
  have HF : Hid (groupsF nr F n S = f) := hf
  have HK : Hid (faultOf key = k) := hk
  rw [hf, hk]
  clear hf hk
  by_cases hz : f = 0
  · subst hz
    by_cases hz : k = 0
    · subst hz
      obtain ⟨r, hd⟩ : ∃ r, decide (0 ≤ now ∧ now ≤ 100000) = r := ⟨_, rfl⟩
      have HD : Hid (decide (0 ≤ now ∧ now ≤ 100000) = r) := hd
      have e9 : (if (0 : Int) ≠ 0 then (0 : Int) else if (0 : Int) ≠ 0 then 0 else if 0 ≤ now ∧ now ≤ 100000 then 0 else 3) = if r = true then 0 else 3 := by
        rw [if_neg (fun h => h rfl), if_neg (fun h => h rfl)]
        rw [← hd]
        by_cases h : 0 ≤ now ∧ now ≤ 100000
        · rw [if_pos h, if_pos (decide_eq_true h)]
        · rw [if_neg h, if_neg (by rw [decide_eq_false h]; exact Bool.false_ne_true)]
      rw [e9]
      clear hd e9
      cases r with
      | true =>
        rw [if_pos rfl]
        go_enter Tryz.func47, Tryz.ntmps47
        go_wp2_with fail
        refine (implGroupsFault_any nr F n S V _ _ B _ H.out.2.1 hr hn).mono ?_
        rw [HF.out]
        rintro e w1 ⟨rfl, q1⟩
        have H : Hid (CallG w nr F n S V B (.slice a0 nr c0) (.slice a1 n c1) w1) := H.out.later q1
        clear q1 p0 p1
        go_wp2_with fail
        refine (keyFault_any key _).mono ?_
        rw [HK.out]
        rintro e w2 ⟨rfl, hw2⟩
        obtain rfl := hw2.symm
        go_wp2_with fail
        refine (isNow_is now true HD.out _).mono ?_
        rintro e w3 ⟨rfl, hw3⟩
        obtain rfl := hw3.symm
        go_wp2
        go_ret
        exact ⟨rfl, H.out.2.2⟩
      | false =>
        rw [if_neg Bool.false_ne_true]
        go_enter Tryz.func47, Tryz.ntmps47
        go_wp2_with fail
        refine (implGroupsFault_any nr F n S V _ _ B _ H.out.2.1 hr hn).mono ?_
        rw [HF.out]
        rintro e w1 ⟨rfl, q1⟩
        have H : Hid (CallG w nr F n S V B (.slice a0 nr c0) (.slice a1 n c1) w1) := H.out.later q1
        clear q1 p0 p1
        go_wp2_with fail
        refine (keyFault_any key _).mono ?_
        rw [HK.out]
        rintro e w2 ⟨rfl, hw2⟩
        obtain rfl := hw2.symm
        go_wp2_with fail
        refine (isNow_is now false HD.out _).mono ?_
        rintro e w3 ⟨rfl, hw3⟩
        obtain rfl := hw3.symm
        go_wp2
        go_ret
        exact ⟨rfl, H.out.2.2⟩
    · rw [if_neg (fun h => h rfl), if_pos hz]
      have d : (k == 0) = false := beq_eq_false_iff_ne.2 hz
      have d' : (k != 0) = true := bne_iff_ne.2 hz
      clear hz
      go_enter Tryz.func47, Tryz.ntmps47
      go_wp2_with fail
      refine (implGroupsFault_any nr F n S V _ _ B _ H.out.2.1 hr hn).mono ?_
      rw [HF.out]
      rintro e w1 ⟨rfl, q1⟩
      have H : Hid (CallG w nr F n S V B (.slice a0 nr c0) (.slice a1 n c1) w1) := H.out.later q1
      clear q1 p0 p1
      go_wp2_with fail
      refine (keyFault_any key _).mono ?_
      rw [HK.out]
      rintro e w2 ⟨rfl, hw2⟩
      obtain rfl := hw2.symm
      go_wp2
      go_ret
      exact ⟨rfl, H.out.2.2⟩
  · rw [if_pos hz]
    have d : (f == 0) = false := beq_eq_false_iff_ne.2 hz
    have d' : (f != 0) = true := bne_iff_ne.2 hz
    clear hz
    go_enter Tryz.func47, Tryz.ntmps47
    go_wp2_with fail
    refine (implGroupsFault_any nr F n S V _ _ B _ H.out.2.1 hr hn).mono ?_
    rw [HF.out]
    rintro e w1 ⟨rfl, q1⟩
    have H : Hid (CallG w nr F n S V B (.slice a0 nr c0) (.slice a1 n c1) w1) := H.out.later q1
    clear q1 p0 p1
    go_wp2
    go_ret
    exact ⟨rfl, H.out.2.2⟩
/-- The rows of pointers that are worked on, and what they point at. -/
def Work (x : World) (B n : Nat) (F : Nat → Int) (S : Nat → Sto) (pa : Option Addr) (P : Nat → Nat) : Prop := PtrRow x n pa P ∧ ToldG x B n F S P
theorem PtrRow.later {x x' : World} {n : Nat} {pa : Option Addr} {P : Nat → Nat} (h : PtrRow x n pa P) (hb : Below x.heap.size x x') : PtrRow x' n pa P := fun hn => by
  obtain ⟨gp, op, e, hg, hc⟩ := h hn
  exact ⟨gp, op, e, Nat.lt_of_lt_of_le hg hb.size, fun i hi => (hb.cell (p := ⟨gp, op + i, none⟩) hg).trans (hc i hi)⟩
theorem Work.later {x x' : World} {B n : Nat} {F : Nat → Int} {S : Nat → Sto} {pa : Option Addr} {P : Nat → Nat} (h : Work x B n F S pa P) (hb : Below x.heap.size x x') : Work x' B n F S pa P := ⟨h.1.later hb, h.2.later hb⟩
def StE (bc p : Nat) (key to : Int) (x : World) : Prop := x.cell? ⟨bc, 0, none⟩ = some (.int .i64 key) ∧ x.cell? ⟨p, 1, none⟩ = some (.int .i64 to)
theorem storeOf1_is (p bc : Nat) (key to : Int) (r : Bool) (hr : decide (key < to) = r) (w : World) (hc : w.cell? ⟨bc, 0, none⟩ = some (.int .i64 key)) (hp : w.cell? ⟨p, 1, none⟩ = some (.int .i64 to)) :
    Calls Tryz.prog 98 #[.pointer (some ⟨p, 0, none⟩), .pointer (some ⟨bc, 0, none⟩)] w fun e w' => e = .returned (.bool r) ∧ Below w.heap.size w w' := by
  go_enter Tryz.func98, Tryz.ntmps98
  go_wp2_with fail
  refine wp_region_held_drew (S := StE bc p key to) (by kernel_rfl) ⟨hc, hp⟩ (fun hS => ?_)
  clear hc hp
  refine wpAnyH_take (i := 0) (v := ?_) rfl (by kernel_rfl) (by kernel_rfl) (by kernel_rfl) (fun _ _ _ h => h) (Or.inl ⟨by kernel_rfl, ?_⟩) hS ?_
  rotate_left
  · intro wx hx
    obtain ⟨hx0, hx1⟩ := hx
    go_simp
    try with_reducible rfl
  refine wpAnyH_take (i := 1) (v := ?_) rfl (by kernel_rfl) (by kernel_rfl) (by kernel_rfl) (fun _ _ _ h => h) (Or.inl ⟨by kernel_rfl, ?_⟩) hS ?_
  rotate_left
  · intro wx hx
    obtain ⟨hx0, hx1⟩ := hx
    go_simp
    try with_reducible rfl
  refine wpAnyH_take (i := 2) (v := ?_) rfl (by kernel_rfl) (by kernel_rfl) (by kernel_rfl) (fun _ _ _ h => h) (Or.inl ⟨by kernel_rfl, ?_⟩) hS ?_
  rotate_left
  · intro wx hx
    obtain ⟨hx0, hx1⟩ := hx
    go_simp
    try with_reducible rfl
  refine wpAnyH_take (i := 3) (v := ?_) rfl (by kernel_rfl) (by kernel_rfl) (by kernel_rfl) (fun _ _ _ h => h) (Or.inl ⟨by kernel_rfl, ?_⟩) hS ?_
  rotate_left
  · intro wx hx
    obtain ⟨hx0, hx1⟩ := hx
    go_simp
    try with_reducible rfl
  refine wpAnyH_take (i := 4) (v := ?_) rfl (by kernel_rfl) (by kernel_rfl) (by kernel_rfl) (fun _ _ _ h => h) (Or.inl ⟨by kernel_rfl, ?_⟩) hS ?_
  rotate_left
  · intro wx hx
    obtain ⟨hx0, hx1⟩ := hx
    go_simp
    try with_reducible rfl
  refine wpAnyH_take (i := 5) (v := ?_) rfl (by kernel_rfl) (by kernel_rfl) (by kernel_rfl) (fun _ _ _ h => h) (Or.inl ⟨by kernel_rfl, ?_⟩) hS ?_
  rotate_left
  · intro wx hx
    obtain ⟨hx0, hx1⟩ := hx
    go_simp
    try with_reducible rfl
  refine wpAnyH_take (i := 6) (v := ?_) rfl (by kernel_rfl) (by kernel_rfl) (by kernel_rfl) (fun _ _ _ h => h) (Or.inl ⟨by kernel_rfl, ?_⟩) hS ?_
  rotate_left
  · intro wx hx
    obtain ⟨hx0, hx1⟩ := hx
    go_simp
    try with_reducible rfl
  refine wpAnyH_take (i := 7) (v := ?_) rfl (by kernel_rfl) (by kernel_rfl) (by kernel_rfl) (fun _ _ _ h => h) (Or.inl ⟨by kernel_rfl, ?_⟩) hS ?_
  rotate_left
  · intro wx hx
    obtain ⟨hx0, hx1⟩ := hx
    go_simp
    try with_reducible rfl
  refine wpAnyH_done (by kernel_rfl) ?_ _
  clear hS
  go_simp
  go_wp2
  go_ret
  exact ⟨by first | rfl | (rw [← hr]; rfl) | rw [hr], below_dr (Below.refl _ _) 1⟩
set_option maxRecDepth 100000 in
set_option maxHeartbeats 4000000 in
theorem indexWork_is (bc : Nat) (key : Int) (B n : Nat) (F : Nat → Int) (S : Nat → Sto) (pa : Option Addr) (cp : Nat) (P : Nat → Nat) (j : Nat) (w : World) (h : Work w B n F S pa P) (hj : AtR n F key j) (hn : n ≤ 12) (hw : w.cell? ⟨bc, 0, none⟩ = some (.int .i64 key)) :
    Calls Tryz.prog 97 #[.slice pa n cp, .func (.func 98) #[] #[.pointer (some ⟨bc, 0, none⟩)]] w fun e w' => e = .returned (.int .i64 j) ∧ Below w.heap.size w w' := by
  have hbc := World.block_lt_of_cell? w _ hw
  have hjn := hj.1
  obtain ⟨gp, op, rfl, hg, hc⟩ := h.1 (by omega)
  have H : Hid (Work w B n F S (some ⟨gp, op, none⟩) P) := h
  have HJ : Hid (AtR n F key j) := hj
  have HC0 : Hid (∀ i, i < n → w.cell? ⟨gp, op + i, none⟩ = some (.pointer (some ⟨P i, 0, none⟩))) := hc
  have HW : Hid (w.cell? ⟨bc, 0, none⟩ = some (.int .i64 key)) := hw
  clear h hj hw hc
  go_enter Tryz.func97, Tryz.ntmps97
  go_wp2
  go_loopw [8] (fun i wr => ∃ k : Nat, k ≤ j ∧ i = .int .i64 k ∧ Hid (Below w.heap.size w wr)) (fun i _ => n - (intOf i).toNat)
  case atStart => exact ⟨0, Nat.zero_le _, rfl, Below.refl _ _⟩
  case round =>
    obtain ⟨k, hk, rfl, HB⟩ := hrel
    have hlt : k < n := by omega
    have x0 : wr.cell? ⟨gp, op + k, none⟩ = some (.pointer (some ⟨P k, 0, none⟩)) := (HB.out.cell (p := ⟨gp, op + k, none⟩) hg).trans (HC0.out k hlt)
    obtain ⟨N, m, gm, u1, u2, _, _, hR⟩ := (H.out.later HB.out).2 k hlt
    have t1 := hR.1.2.1
    obtain ⟨to, hto⟩ : ∃ x, F (k * 3 + 1) = x := ⟨_, rfl⟩
    rw [hto] at t1
    have T1 : Hid (wr.cell? ⟨P k, 1, none⟩ = some (.int .i64 to)) := t1
    have HC : Hid (wr.cell? ⟨bc, 0, none⟩ = some (.int .i64 key)) := (HB.out.cell (p := ⟨bc, 0, none⟩) hbc).trans HW.out
    clear hR t1
    by_cases hkj : k = j
    · subst hkj
      have D : Hid (decide (key < to) = true) := decide_eq_true (by rw [← hto]; exact HJ.out.2.1)
      clear hto
      go_wp2_with fail
      refine (storeOf1_is (P k) bc key to true D.out _ HC.out T1.out).mono ?_
      rintro e w1 ⟨rfl, q1⟩
      have HB1 : Hid (Below w.heap.size w w1) := HB.out.trans (q1.mono HB.out.size)
      clear q1
      go_wp2
      go_ret
      exact ⟨rfl, HB1.out⟩
    · have D : Hid (decide (key < to) = false) := decide_eq_false (by rw [← hto]; have := HJ.out.2.2 k (by omega); omega)
      clear hto
      go_wp2_with fail
      refine (storeOf1_is (P k) bc key to false D.out _ HC.out T1.out).mono ?_
      rintro e w1 ⟨rfl, q1⟩
      have HB1 : Hid (Below w.heap.size w w1) := HB.out.trans (q1.mono HB.out.size)
      clear q1
      go_wp2
      go_roundw
      case rel => exact ⟨k + 1, by omega, by go_num, HB1⟩
      case measure => simp [intOf]; omega
set_option maxRecDepth 100000 in
set_option maxHeartbeats 2000000 in
theorem storeOf_is (key : Int) (B n : Nat) (F : Nat → Int) (S : Nat → Sto) (pa : Option Addr) (cp : Nat) (P : Nat → Nat) (j : Nat) (w : World) (h : Work w B n F S pa P) (hj : AtR n F key j) (hn : n ≤ 12) :
    Calls Tryz.prog 48 #[.slice pa n cp, .int .i64 key] w fun e w' => e = .returned (.pointer (some ⟨P j, 0, none⟩)) ∧ Below w.heap.size w w' := by
  have hjn := hj.1
  obtain ⟨gp, op, rfl, hg, hc⟩ := h.1 (by omega)
  have H : Hid (Work w B n F S (some ⟨gp, op, none⟩) P) := h
  have HJ : Hid (AtR n F key j) := hj
  have HC0 : Hid (w.cell? ⟨gp, op + j, none⟩ = some (.pointer (some ⟨P j, 0, none⟩))) := hc j hjn
  clear h hj hc
  have hjj : (j : Int) < (n : Int) := by omega
  go_enter Tryz.func48, Tryz.ntmps48
  go_wp2_with fail
  refine (indexWork_is w.heap.size key B n F S _ _ P j _ (H.out.later (below_alloc _ _)) HJ.out hn (World.cell?_alloc_mark w _ _ _ 0)).mono ?_
  rintro e w1 ⟨rfl, q1⟩
  have HB1 : Hid (Below w.heap.size w w1) := (below_alloc _ _).trans (q1.mono (by simp))
  have x0 : w1.cell? ⟨gp, op + j, none⟩ = some (.pointer (some ⟨P j, 0, none⟩)) := (HB1.out.cell (p := ⟨gp, op + j, none⟩) hg).trans HC0.out
  clear q1
  go_wp2
  go_ret
  exact ⟨rfl, HB1.out⟩
/-- What the regions that look the primary up read: the lock's box. -/
def FtE (b : Nat) (n1 n3 : Int) (x : World) : Prop := x.cell? ⟨b, 1, none⟩ = some (.int .i64 n1) ∧ x.cell? ⟨b, 3, none⟩ = some (.int .i64 n3)
/-- The blocks of fate: the lock's box, and the one who tells (block b2). -/
def FtT (w : World) (n1 n3 n4 : Int) (b2 : Nat) (x : World) : Prop := Below w.heap.size w x ∧ FtE w.heap.size n1 n3 x ∧ x.cell? ⟨b2, 4, none⟩ = some (.int .i64 n4) ∧ (w.heap.size < b2 ∧ b2 < x.heap.size ∧ ∀ i, i < 5 → (∃ u, x.cell? ⟨b2, i, none⟩ = some u) ∧ x.frozen? ⟨b2, i, none⟩ = false)
theorem FtT.later {w x x' : World} {n1 n3 n4 : Int} {b2 : Nat} (h : FtT w n1 n3 n4 b2 x) (hb : Below x.heap.size x x') : FtT w n1 n3 n4 b2 x' := by
  obtain ⟨h1, ⟨h2, h3⟩, h4, h5, h6, h7⟩ := h
  have l : w.heap.size < x.heap.size := World.block_lt_of_cell? x _ h2
  refine ⟨h1.trans (hb.mono h1.size), ⟨(hb.cell (p := ⟨w.heap.size, 1, none⟩) l).trans h2, (hb.cell (p := ⟨w.heap.size, 3, none⟩) l).trans h3⟩, (hb.cell (p := ⟨b2, 4, none⟩) h6).trans h4, h5, Nat.lt_of_lt_of_le h6 hb.size, fun i hi => ⟨?_, (hb.frozen (p := ⟨b2, i, none⟩) h6).trans (h7 i hi).2⟩⟩
  obtain ⟨u, hu⟩ := (h7 i hi).1
  exact ⟨u, (hb.cell (p := ⟨b2, i, none⟩) h6).trans hu⟩
set_option maxRecDepth 100000 in
set_option maxHeartbeats 8000000 in
theorem fate_is (n0 n1 n2 n3 n4 now r : Int) (B n : Nat) (F : Nat → Int) (S : Nat → Sto) (pa : Option Addr) (cp : Nat) (P : Nat → Nat) (w : World) (h : Work w B n F S pa P) (hn : n ≤ 12) (hA : FateOn n F S n3 n1 n4 now r) :
    Calls Tryz.prog 50 #[.slice pa n cp, .agg #[.int .i64 n0, .int .i64 n1, .int .i64 n2, .int .i64 n3, .int .i64 n4], .int .i64 now] w fun e w' => e = .returned (.int .i64 r) ∧ Below w.heap.size w w' := by
  obtain ⟨p, st, hp, hst, hA⟩ := hA
  have hpn := hp.1
  have H : Hid (Work w B n F S pa P) := h
  have HP : Hid (AtR n F n3 p) := hp
  have HST : Hid (StatIs (S p).nl (S p).l (S p).nw (S p).k n3 n1 st) := hst
  clear h hp hst
  go_enter Tryz.func50, Tryz.ntmps50
  go_wp2_with fail
  refine (storeOf_is n3 B n F S _ _ P p _ (H.out.later (below_alloc _ _)) HP.out hn).mono ?_
  rintro e w1 ⟨rfl, q1⟩
  have Q1 : Hid (Below w.heap.size w w1) := (below_alloc _ _).trans (q1.mono (by simp))
  have hlt1 : w.heap.size < w1.heap.size := by have := q1.size; simp at this; omega
  have c0 : w1.cell? ⟨w.heap.size, 0, none⟩ = some (.int .i64 n0) := (q1.cell (p := ⟨w.heap.size, 0, none⟩) (by simp)).trans (World.cell?_alloc_mark w _ _ _ 0)
  have c1 : w1.cell? ⟨w.heap.size, 1, none⟩ = some (.int .i64 n1) := (q1.cell (p := ⟨w.heap.size, 1, none⟩) (by simp)).trans (World.cell?_alloc_mark w _ _ _ 1)
  have c2 : w1.cell? ⟨w.heap.size, 2, none⟩ = some (.int .i64 n2) := (q1.cell (p := ⟨w.heap.size, 2, none⟩) (by simp)).trans (World.cell?_alloc_mark w _ _ _ 2)
  have c3 : w1.cell? ⟨w.heap.size, 3, none⟩ = some (.int .i64 n3) := (q1.cell (p := ⟨w.heap.size, 3, none⟩) (by simp)).trans (World.cell?_alloc_mark w _ _ _ 3)
  have c4 : w1.cell? ⟨w.heap.size, 4, none⟩ = some (.int .i64 n4) := (q1.cell (p := ⟨w.heap.size, 4, none⟩) (by simp)).trans (World.cell?_alloc_mark w _ _ _ 4)
  have HE : Hid (FtT w n1 n3 n4 w1.heap.size (w1.alloc (.cells #[.int .i64 n0, .int .i64 n1, .int .i64 n2, .int .i64 n3, .int .i64 n4] 96))) := by
    refine ⟨Q1.out.alloc Q1.out.size _, ⟨((below_alloc w1 _).cell (p := ⟨w.heap.size, 1, none⟩) hlt1).trans c1, ((below_alloc w1 _).cell (p := ⟨w.heap.size, 3, none⟩) hlt1).trans c3⟩, World.cell?_alloc_mark w1 _ _ _ 4, hlt1, by simp, fun i hi => ⟨?_, by simp⟩⟩
    match i, hi with
    | 0, _ => exact ⟨_, World.cell?_alloc_mark w1 _ _ _ 0⟩
    | 1, _ => exact ⟨_, World.cell?_alloc_mark w1 _ _ _ 1⟩
    | 2, _ => exact ⟨_, World.cell?_alloc_mark w1 _ _ _ 2⟩
    | 3, _ => exact ⟨_, World.cell?_alloc_mark w1 _ _ _ 3⟩
    | 4, _ => exact ⟨_, World.cell?_alloc_mark w1 _ _ _ 4⟩
  obtain ⟨N, m, gm, u1, u2, hNl, _, hR⟩ := ((H.out.later Q1.out).later (below_alloc w1 (.cells #[.int .i64 n0, .int .i64 n1, .int .i64 n2, .int .i64 n3, .int .i64 n4] 96))).2 p hpn
  have LP : Hid (((S p).nl ≤ 200 ∧ (S p).nw ≤ 200) ∧ ColsO (w1.alloc (.cells #[.int .i64 n0, .int .i64 n1, .int .i64 n2, .int .i64 n3, .int .i64 n4] 96)) B (P p) 3 N m (S p).nl (S p).l (S p).nw (S p).k gm u1 u2) := ⟨hNl.2, hR.2.1⟩
  clear q1 hNl hR
  go_upto_region 3 with fail
  generalize w1.alloc (.cells #[.int .i64 n0, .int .i64 n1, .int .i64 n2, .int .i64 n3, .int .i64 n4] 96) = w2 at HE LP ⊢
  clear c0 c1 c2 c3 c4
  obtain ⟨_, ⟨y1, y3⟩, z4, fz⟩ := HE.out
  rcases hA with ⟨rfl, rfl⟩ | ⟨rfl, rfl⟩ | ⟨rfl, q, hq, hu⟩ | ⟨rfl, hu⟩
  · obtain ⟨st, hst⟩ : ∃ st : Int, st = 2 := ⟨_, rfl⟩
    rw [← hst] at HST
    go_wp2_with fail
    refine wp_region_held_drew (S := FtE w.heap.size n1 n3) (by kernel_rfl) ⟨y1, y3⟩ (fun hS => ?_)
    clear y1 y3
    refine wpAnyH_take (i := 0) (v := ?_) rfl (by kernel_rfl) (by kernel_rfl) (by kernel_rfl) (fun _ _ _ h => h) (Or.inl ⟨by kernel_rfl, ?_⟩) hS ?_
    rotate_left
    · intro wx hx
      obtain ⟨hx0, hx1⟩ := hx
      go_simp
      try with_reducible rfl
    refine wpAnyH_take (i := 1) (v := ?_) rfl (by kernel_rfl) (by kernel_rfl) (by kernel_rfl) (fun _ _ _ h => h) (Or.inl ⟨by kernel_rfl, ?_⟩) hS ?_
    rotate_left
    · intro wx hx
      obtain ⟨hx0, hx1⟩ := hx
      go_simp
      try with_reducible rfl
    refine wpAnyH_take (i := 2) (v := ?_) rfl (by kernel_rfl) (by kernel_rfl) (by kernel_rfl) (fun _ _ _ h => h) (Or.inl ⟨by kernel_rfl, ?_⟩) hS ?_
    rotate_left
    · intro wx hx
      obtain ⟨hx0, hx1⟩ := hx
      go_simp
      try with_reducible rfl
    refine wpAnyH_take (i := 3) (v := ?_) rfl (by kernel_rfl) (by kernel_rfl) (by kernel_rfl) (fun _ _ _ h => h) (Or.inl ⟨by kernel_rfl, ?_⟩) hS ?_
    rotate_left
    · intro wx hx
      obtain ⟨hx0, hx1⟩ := hx
      go_simp
      try with_reducible rfl
    refine wpAnyH_take (i := 4) (v := ?_) rfl (by kernel_rfl) (by kernel_rfl) (by kernel_rfl) (fun _ _ _ h => h) (Or.inl ⟨by kernel_rfl, ?_⟩) hS ?_
    rotate_left
    · intro wx hx
      obtain ⟨hx0, hx1⟩ := hx
      go_simp
      try with_reducible rfl
    refine wpAnyH_take (i := 5) (v := ?_) rfl (by kernel_rfl) (by kernel_rfl) (by kernel_rfl) (fun _ _ _ h => h) (Or.inl ⟨by kernel_rfl, ?_⟩) hS ?_
    rotate_left
    · intro wx hx
      obtain ⟨hx0, hx1⟩ := hx
      go_simp
      try with_reducible rfl
    refine wpAnyH_take (i := 6) (v := ?_) rfl (by kernel_rfl) (by kernel_rfl) (by kernel_rfl) (fun _ _ _ h => h) (Or.inl ⟨by kernel_rfl, ?_⟩) hS ?_
    rotate_left
    · intro wx hx
      obtain ⟨hx0, hx1⟩ := hx
      go_simp
      try with_reducible rfl
    refine wpAnyH_ready (rs := [7]) (by kernel_rfl) (by simp) ?_
    refine AllReadyH.cons rfl (fun K hK => ?_) AllReadyH.nil
    go_simp
    go_wp2_with fail
    refine (status_isO _ (P p) 3 N m _ _ _ _ gm u1 u2 n3 n1 st _ (LP.out.2.later (below_dr (Below.refl _ _) 1)) LP.out.1.1 LP.out.1.2 HST.out).mono ?_
    rintro e w4 ⟨rfl, q4⟩
    have q4' : Below w2.heap.size w2 w4 := ⟨q4.os, q4.tape, q4.output, q4.size, q4.block⟩
    have HE : Hid (FtT w n1 n3 n4 w1.heap.size w4) := HE.out.later q4'
    have LP : Hid (((S p).nl ≤ 200 ∧ (S p).nw ≤ 200) ∧ ColsO w4 B (P p) 3 N m (S p).nl (S p).l (S p).nw (S p).k gm u1 u2) := ⟨LP.out.1, LP.out.2.later q4'⟩
    have hS' : FtE w.heap.size n1 n3 w4 := HE.out.2.1
    clear q4 q4'
    go_wp2_with fail
    refine hK.out _ _ hS' (fun hS => ?_)
    clear hK K hS'
    refine wpAnyH_take (i := 8) (v := ?_) rfl (by kernel_rfl) (by kernel_rfl) (by kernel_rfl) (fun _ _ _ h => h) (Or.inl ⟨by kernel_rfl, ?_⟩) hS ?_
    rotate_left
    · intro wx hx
      obtain ⟨hx0, hx1⟩ := hx
      go_simp
      try with_reducible rfl
    refine wpAnyH_done (by kernel_rfl) ?_ _
    clear hS
    go_simp
    obtain ⟨_, ⟨y1, y3⟩, z4, fz⟩ := HE.out
    subst hst
    go_wp2
    go_ret
    exact ⟨rfl, HE.out.1⟩
  · obtain ⟨st, hst⟩ : ∃ st : Int, st = 3 := ⟨_, rfl⟩
    rw [← hst] at HST
    go_wp2_with fail
    refine wp_region_held_drew (S := FtE w.heap.size n1 n3) (by kernel_rfl) ⟨y1, y3⟩ (fun hS => ?_)
    clear y1 y3
    refine wpAnyH_take (i := 0) (v := ?_) rfl (by kernel_rfl) (by kernel_rfl) (by kernel_rfl) (fun _ _ _ h => h) (Or.inl ⟨by kernel_rfl, ?_⟩) hS ?_
    rotate_left
    · intro wx hx
      obtain ⟨hx0, hx1⟩ := hx
      go_simp
      try with_reducible rfl
    refine wpAnyH_take (i := 1) (v := ?_) rfl (by kernel_rfl) (by kernel_rfl) (by kernel_rfl) (fun _ _ _ h => h) (Or.inl ⟨by kernel_rfl, ?_⟩) hS ?_
    rotate_left
    · intro wx hx
      obtain ⟨hx0, hx1⟩ := hx
      go_simp
      try with_reducible rfl
    refine wpAnyH_take (i := 2) (v := ?_) rfl (by kernel_rfl) (by kernel_rfl) (by kernel_rfl) (fun _ _ _ h => h) (Or.inl ⟨by kernel_rfl, ?_⟩) hS ?_
    rotate_left
    · intro wx hx
      obtain ⟨hx0, hx1⟩ := hx
      go_simp
      try with_reducible rfl
    refine wpAnyH_take (i := 3) (v := ?_) rfl (by kernel_rfl) (by kernel_rfl) (by kernel_rfl) (fun _ _ _ h => h) (Or.inl ⟨by kernel_rfl, ?_⟩) hS ?_
    rotate_left
    · intro wx hx
      obtain ⟨hx0, hx1⟩ := hx
      go_simp
      try with_reducible rfl
    refine wpAnyH_take (i := 4) (v := ?_) rfl (by kernel_rfl) (by kernel_rfl) (by kernel_rfl) (fun _ _ _ h => h) (Or.inl ⟨by kernel_rfl, ?_⟩) hS ?_
    rotate_left
    · intro wx hx
      obtain ⟨hx0, hx1⟩ := hx
      go_simp
      try with_reducible rfl
    refine wpAnyH_take (i := 5) (v := ?_) rfl (by kernel_rfl) (by kernel_rfl) (by kernel_rfl) (fun _ _ _ h => h) (Or.inl ⟨by kernel_rfl, ?_⟩) hS ?_
    rotate_left
    · intro wx hx
      obtain ⟨hx0, hx1⟩ := hx
      go_simp
      try with_reducible rfl
    refine wpAnyH_take (i := 6) (v := ?_) rfl (by kernel_rfl) (by kernel_rfl) (by kernel_rfl) (fun _ _ _ h => h) (Or.inl ⟨by kernel_rfl, ?_⟩) hS ?_
    rotate_left
    · intro wx hx
      obtain ⟨hx0, hx1⟩ := hx
      go_simp
      try with_reducible rfl
    refine wpAnyH_ready (rs := [7]) (by kernel_rfl) (by simp) ?_
    refine AllReadyH.cons rfl (fun K hK => ?_) AllReadyH.nil
    go_simp
    go_wp2_with fail
    refine (status_isO _ (P p) 3 N m _ _ _ _ gm u1 u2 n3 n1 st _ (LP.out.2.later (below_dr (Below.refl _ _) 1)) LP.out.1.1 LP.out.1.2 HST.out).mono ?_
    rintro e w4 ⟨rfl, q4⟩
    have q4' : Below w2.heap.size w2 w4 := ⟨q4.os, q4.tape, q4.output, q4.size, q4.block⟩
    have HE : Hid (FtT w n1 n3 n4 w1.heap.size w4) := HE.out.later q4'
    have LP : Hid (((S p).nl ≤ 200 ∧ (S p).nw ≤ 200) ∧ ColsO w4 B (P p) 3 N m (S p).nl (S p).l (S p).nw (S p).k gm u1 u2) := ⟨LP.out.1, LP.out.2.later q4'⟩
    have hS' : FtE w.heap.size n1 n3 w4 := HE.out.2.1
    clear q4 q4'
    go_wp2_with fail
    refine hK.out _ _ hS' (fun hS => ?_)
    clear hK K hS'
    refine wpAnyH_take (i := 8) (v := ?_) rfl (by kernel_rfl) (by kernel_rfl) (by kernel_rfl) (fun _ _ _ h => h) (Or.inl ⟨by kernel_rfl, ?_⟩) hS ?_
    rotate_left
    · intro wx hx
      obtain ⟨hx0, hx1⟩ := hx
      go_simp
      try with_reducible rfl
    refine wpAnyH_done (by kernel_rfl) ?_ _
    clear hS
    go_simp
    obtain ⟨_, ⟨y1, y3⟩, z4, fz⟩ := HE.out
    subst hst
    go_wp2
    go_ret
    exact ⟨rfl, HE.out.1⟩
  · obtain ⟨st, hst⟩ : ∃ st : Int, st = 1 := ⟨_, rfl⟩
    rw [← hst] at HST
    obtain ⟨k0, K0⟩ : ∃ x, (S p).l (q * 5) = x := ⟨_, rfl⟩
    obtain ⟨k1, K1⟩ : ∃ x, (S p).l (q * 5 + 1) = x := ⟨_, rfl⟩
    obtain ⟨k2, K2⟩ : ∃ x, (S p).l (q * 5 + 2) = x := ⟨_, rfl⟩
    obtain ⟨k3, K3⟩ : ∃ x, (S p).l (q * 5 + 3) = x := ⟨_, rfl⟩
    obtain ⟨k4, K4⟩ : ∃ x, (S p).l (q * 5 + 4) = x := ⟨_, rfl⟩
    rw [K4] at hu
    have HQ : Hid (∀ v, LockTold (S p).nl (S p).l n3 v → v = .tuple #[.agg #[.int .i64 k0, .int .i64 k1, .int .i64 k2, .int .i64 k3, .int .i64 k4], .bool true]) := fun v hT => by
      rcases hT with ⟨q', hq', hp', hr', e⟩ | ⟨h, _⟩
      · obtain rfl := firstL.one ⟨hq', hp', hr'⟩ hq
        rw [e, K0, K1, K2, K3, K4]
      · exact absurd hq.2.1 (h q hq.1)
    clear K0 K1 K2 K3 K4 hq
    go_wp2_with fail
    refine wp_region_held_drew (S := FtE w.heap.size n1 n3) (by kernel_rfl) ⟨y1, y3⟩ (fun hS => ?_)
    clear y1 y3
    refine wpAnyH_take (i := 0) (v := ?_) rfl (by kernel_rfl) (by kernel_rfl) (by kernel_rfl) (fun _ _ _ h => h) (Or.inl ⟨by kernel_rfl, ?_⟩) hS ?_
    rotate_left
    · intro wx hx
      obtain ⟨hx0, hx1⟩ := hx
      go_simp
      try with_reducible rfl
    refine wpAnyH_take (i := 1) (v := ?_) rfl (by kernel_rfl) (by kernel_rfl) (by kernel_rfl) (fun _ _ _ h => h) (Or.inl ⟨by kernel_rfl, ?_⟩) hS ?_
    rotate_left
    · intro wx hx
      obtain ⟨hx0, hx1⟩ := hx
      go_simp
      try with_reducible rfl
    refine wpAnyH_take (i := 2) (v := ?_) rfl (by kernel_rfl) (by kernel_rfl) (by kernel_rfl) (fun _ _ _ h => h) (Or.inl ⟨by kernel_rfl, ?_⟩) hS ?_
    rotate_left
    · intro wx hx
      obtain ⟨hx0, hx1⟩ := hx
      go_simp
      try with_reducible rfl
    refine wpAnyH_take (i := 3) (v := ?_) rfl (by kernel_rfl) (by kernel_rfl) (by kernel_rfl) (fun _ _ _ h => h) (Or.inl ⟨by kernel_rfl, ?_⟩) hS ?_
    rotate_left
    · intro wx hx
      obtain ⟨hx0, hx1⟩ := hx
      go_simp
      try with_reducible rfl
    refine wpAnyH_take (i := 4) (v := ?_) rfl (by kernel_rfl) (by kernel_rfl) (by kernel_rfl) (fun _ _ _ h => h) (Or.inl ⟨by kernel_rfl, ?_⟩) hS ?_
    rotate_left
    · intro wx hx
      obtain ⟨hx0, hx1⟩ := hx
      go_simp
      try with_reducible rfl
    refine wpAnyH_take (i := 5) (v := ?_) rfl (by kernel_rfl) (by kernel_rfl) (by kernel_rfl) (fun _ _ _ h => h) (Or.inl ⟨by kernel_rfl, ?_⟩) hS ?_
    rotate_left
    · intro wx hx
      obtain ⟨hx0, hx1⟩ := hx
      go_simp
      try with_reducible rfl
    refine wpAnyH_take (i := 6) (v := ?_) rfl (by kernel_rfl) (by kernel_rfl) (by kernel_rfl) (fun _ _ _ h => h) (Or.inl ⟨by kernel_rfl, ?_⟩) hS ?_
    rotate_left
    · intro wx hx
      obtain ⟨hx0, hx1⟩ := hx
      go_simp
      try with_reducible rfl
    refine wpAnyH_ready (rs := [7]) (by kernel_rfl) (by simp) ?_
    refine AllReadyH.cons rfl (fun K hK => ?_) AllReadyH.nil
    go_simp
    go_wp2_with fail
    refine (status_isO _ (P p) 3 N m _ _ _ _ gm u1 u2 n3 n1 st _ (LP.out.2.later (below_dr (Below.refl _ _) 1)) LP.out.1.1 LP.out.1.2 HST.out).mono ?_
    rintro e w4 ⟨rfl, q4⟩
    have q4' : Below w2.heap.size w2 w4 := ⟨q4.os, q4.tape, q4.output, q4.size, q4.block⟩
    have HE : Hid (FtT w n1 n3 n4 w1.heap.size w4) := HE.out.later q4'
    have LP : Hid (((S p).nl ≤ 200 ∧ (S p).nw ≤ 200) ∧ ColsO w4 B (P p) 3 N m (S p).nl (S p).l (S p).nw (S p).k gm u1 u2) := ⟨LP.out.1, LP.out.2.later q4'⟩
    have hS' : FtE w.heap.size n1 n3 w4 := HE.out.2.1
    clear q4 q4'
    go_wp2_with fail
    refine hK.out _ _ hS' (fun hS => ?_)
    clear hK K hS'
    refine wpAnyH_take (i := 8) (v := ?_) rfl (by kernel_rfl) (by kernel_rfl) (by kernel_rfl) (fun _ _ _ h => h) (Or.inl ⟨by kernel_rfl, ?_⟩) hS ?_
    rotate_left
    · intro wx hx
      obtain ⟨hx0, hx1⟩ := hx
      go_simp
      try with_reducible rfl
    refine wpAnyH_done (by kernel_rfl) ?_ _
    clear hS
    go_simp
    obtain ⟨_, ⟨y1, y3⟩, z4, fz⟩ := HE.out
    subst hst
    obtain ⟨hlo2, hlt2, fz⟩ := fz
    obtain ⟨⟨v0, b0⟩, f0⟩ := fz 0 (by omega)
    obtain ⟨⟨v1, b1⟩, f1⟩ := fz 1 (by omega)
    obtain ⟨⟨v2, b2⟩, f2⟩ := fz 2 (by omega)
    obtain ⟨⟨v3, b3⟩, f3⟩ := fz 3 (by omega)
    obtain ⟨⟨v4, b4⟩, f4⟩ := fz 4 (by omega)
    clear fz z4
    go_wp2_with fail
    refine wp_region_held_drew (S := FtE w.heap.size n1 n3) (by kernel_rfl) ⟨y1, y3⟩ (fun hS => ?_)
    clear y1 y3
    refine wpAnyH_take (i := 0) (v := ?_) rfl (by kernel_rfl) (by kernel_rfl) (by kernel_rfl) (fun _ _ _ h => h) (Or.inl ⟨by kernel_rfl, ?_⟩) hS ?_
    rotate_left
    · intro wx hx
      obtain ⟨hx0, hx1⟩ := hx
      go_simp
      try with_reducible rfl
    refine wpAnyH_take (i := 1) (v := ?_) rfl (by kernel_rfl) (by kernel_rfl) (by kernel_rfl) (fun _ _ _ h => h) (Or.inl ⟨by kernel_rfl, ?_⟩) hS ?_
    rotate_left
    · intro wx hx
      obtain ⟨hx0, hx1⟩ := hx
      go_simp
      try with_reducible rfl
    refine wpAnyH_take (i := 2) (v := ?_) rfl (by kernel_rfl) (by kernel_rfl) (by kernel_rfl) (fun _ _ _ h => h) (Or.inl ⟨by kernel_rfl, ?_⟩) hS ?_
    rotate_left
    · intro wx hx
      obtain ⟨hx0, hx1⟩ := hx
      go_simp
      try with_reducible rfl
    refine wpAnyH_take (i := 3) (v := ?_) rfl (by kernel_rfl) (by kernel_rfl) (by kernel_rfl) (fun _ _ _ h => h) (Or.inl ⟨by kernel_rfl, ?_⟩) hS ?_
    rotate_left
    · intro wx hx
      obtain ⟨hx0, hx1⟩ := hx
      go_simp
      try with_reducible rfl
    refine wpAnyH_take (i := 4) (v := ?_) rfl (by kernel_rfl) (by kernel_rfl) (by kernel_rfl) (fun _ _ _ h => h) (Or.inl ⟨by kernel_rfl, ?_⟩) hS ?_
    rotate_left
    · intro wx hx
      obtain ⟨hx0, hx1⟩ := hx
      go_simp
      try with_reducible rfl
    refine wpAnyH_ready (rs := [5]) (by kernel_rfl) (by simp) ?_
    refine AllReadyH.cons rfl (fun K hK => ?_) AllReadyH.nil
    go_simp
    go_wp2_with fail
    refine (lockOf_anyO _ (P p) 3 N m _ _ _ _ gm u1 u2 n3 _ (LP.out.2.later (below_dr (Below.refl _ _) 1)) LP.out.1.1).mono ?_
    rintro e w5 ⟨v, rfl, hT, q5⟩
    obtain rfl := HQ.out v hT
    have q5' : Below w4.heap.size w4 w5 := ⟨q5.os, q5.tape, q5.output, q5.size, q5.block⟩
    have HB5 : Hid (Below w.heap.size w w5) := HE.out.1.trans (q5'.mono HE.out.1.size)
    have hS' : FtE w.heap.size n1 n3 w5 := (HE.out.later q5').2.1
    replace b0 := (q5'.cell (p := ⟨w1.heap.size, 0, none⟩) hlt2).trans b0
    replace b1 := (q5'.cell (p := ⟨w1.heap.size, 1, none⟩) hlt2).trans b1
    replace b2 := (q5'.cell (p := ⟨w1.heap.size, 2, none⟩) hlt2).trans b2
    replace b3 := (q5'.cell (p := ⟨w1.heap.size, 3, none⟩) hlt2).trans b3
    replace b4 := (q5'.cell (p := ⟨w1.heap.size, 4, none⟩) hlt2).trans b4
    replace f0 := (q5'.frozen (p := ⟨w1.heap.size, 0, none⟩) hlt2).trans f0
    replace f1 := (q5'.frozen (p := ⟨w1.heap.size, 1, none⟩) hlt2).trans f1
    replace f2 := (q5'.frozen (p := ⟨w1.heap.size, 2, none⟩) hlt2).trans f2
    replace f3 := (q5'.frozen (p := ⟨w1.heap.size, 3, none⟩) hlt2).trans f3
    replace f4 := (q5'.frozen (p := ⟨w1.heap.size, 4, none⟩) hlt2).trans f4
    clear q5 q5' hT HE LP HQ H HP HST Q1
    go_wp2_with fail
    refine hK.out _ _ hS' (fun hS => ?_)
    clear hK K hS'
    refine wpAnyH_take (i := 6) (v := ?_) rfl (by kernel_rfl) (by kernel_rfl) (by kernel_rfl) (fun _ _ _ h => h) (Or.inl ⟨by kernel_rfl, ?_⟩) hS ?_
    rotate_left
    · intro wx hx
      obtain ⟨hx0, hx1⟩ := hx
      go_simp
      try with_reducible rfl
    refine wpAnyH_take (i := 7) (v := ?_) rfl (by kernel_rfl) (by kernel_rfl) (by kernel_rfl) (fun _ _ _ h => h) (Or.inl ⟨by kernel_rfl, ?_⟩) hS ?_
    rotate_left
    · intro wx hx
      obtain ⟨hx0, hx1⟩ := hx
      go_simp
      try with_reducible rfl
    refine wpAnyH_take (i := 8) (v := ?_) rfl (by kernel_rfl) (by kernel_rfl) (by kernel_rfl) (fun _ _ _ h => h) (Or.inl ⟨by kernel_rfl, ?_⟩) hS ?_
    rotate_left
    · intro wx hx
      obtain ⟨hx0, hx1⟩ := hx
      go_simp
      try with_reducible rfl
    refine wpAnyH_ready (rs := [9]) (by kernel_rfl) (by simp) ?_
    refine AllReadyH.cons rfl (fun K hK => ?_) AllReadyH.nil
    go_simp
    have kp : ∀ (X : World) (j : Nat) (u : Value) (t : Nat), (X.setCell ⟨w1.heap.size, j, none⟩ u).cell? ⟨w.heap.size, t, none⟩ = X.cell? ⟨w.heap.size, t, none⟩ := fun X j u t => World.cell?_setCell_other _ _ _ _ (by intro e; simp at e; first | done | omega)
    refine hK.out _ _ (show FtE w.heap.size n1 n3 _ from ⟨by first | (simp only [kp]; done) | (simp only [kp]; exact hS.1), by first | (simp only [kp]; done) | (simp only [kp]; exact hS.2)⟩) (fun hS => ?_)
    clear hK K kp
    refine wpAnyH_done (by kernel_rfl) ?_ _
    clear hS
    go_simp
    rcases hu with ⟨hu, rfl⟩ | ⟨hu, rfl⟩
    · have dd : decide (k4 < now) = true := decide_eq_true hu
      clear hu
      go_wp2
      go_ret
      exact ⟨rfl, ((((HB5.out.setCell (Nat.le_of_lt hlo2) _).setCell (Nat.le_of_lt hlo2) _).setCell (Nat.le_of_lt hlo2) _).setCell (Nat.le_of_lt hlo2) _).setCell (Nat.le_of_lt hlo2) _⟩
    · have dd : decide (k4 < now) = false := decide_eq_false hu
      clear hu
      go_wp2
      go_ret
      exact ⟨rfl, ((((HB5.out.setCell (Nat.le_of_lt hlo2) _).setCell (Nat.le_of_lt hlo2) _).setCell (Nat.le_of_lt hlo2) _).setCell (Nat.le_of_lt hlo2) _).setCell (Nat.le_of_lt hlo2) _⟩
  · obtain ⟨st, hst⟩ : ∃ st : Int, st = 0 := ⟨_, rfl⟩
    rw [← hst] at HST
    go_wp2_with fail
    refine wp_region_held_drew (S := FtE w.heap.size n1 n3) (by kernel_rfl) ⟨y1, y3⟩ (fun hS => ?_)
    clear y1 y3
    refine wpAnyH_take (i := 0) (v := ?_) rfl (by kernel_rfl) (by kernel_rfl) (by kernel_rfl) (fun _ _ _ h => h) (Or.inl ⟨by kernel_rfl, ?_⟩) hS ?_
    rotate_left
    · intro wx hx
      obtain ⟨hx0, hx1⟩ := hx
      go_simp
      try with_reducible rfl
    refine wpAnyH_take (i := 1) (v := ?_) rfl (by kernel_rfl) (by kernel_rfl) (by kernel_rfl) (fun _ _ _ h => h) (Or.inl ⟨by kernel_rfl, ?_⟩) hS ?_
    rotate_left
    · intro wx hx
      obtain ⟨hx0, hx1⟩ := hx
      go_simp
      try with_reducible rfl
    refine wpAnyH_take (i := 2) (v := ?_) rfl (by kernel_rfl) (by kernel_rfl) (by kernel_rfl) (fun _ _ _ h => h) (Or.inl ⟨by kernel_rfl, ?_⟩) hS ?_
    rotate_left
    · intro wx hx
      obtain ⟨hx0, hx1⟩ := hx
      go_simp
      try with_reducible rfl
    refine wpAnyH_take (i := 3) (v := ?_) rfl (by kernel_rfl) (by kernel_rfl) (by kernel_rfl) (fun _ _ _ h => h) (Or.inl ⟨by kernel_rfl, ?_⟩) hS ?_
    rotate_left
    · intro wx hx
      obtain ⟨hx0, hx1⟩ := hx
      go_simp
      try with_reducible rfl
    refine wpAnyH_take (i := 4) (v := ?_) rfl (by kernel_rfl) (by kernel_rfl) (by kernel_rfl) (fun _ _ _ h => h) (Or.inl ⟨by kernel_rfl, ?_⟩) hS ?_
    rotate_left
    · intro wx hx
      obtain ⟨hx0, hx1⟩ := hx
      go_simp
      try with_reducible rfl
    refine wpAnyH_take (i := 5) (v := ?_) rfl (by kernel_rfl) (by kernel_rfl) (by kernel_rfl) (fun _ _ _ h => h) (Or.inl ⟨by kernel_rfl, ?_⟩) hS ?_
    rotate_left
    · intro wx hx
      obtain ⟨hx0, hx1⟩ := hx
      go_simp
      try with_reducible rfl
    refine wpAnyH_take (i := 6) (v := ?_) rfl (by kernel_rfl) (by kernel_rfl) (by kernel_rfl) (fun _ _ _ h => h) (Or.inl ⟨by kernel_rfl, ?_⟩) hS ?_
    rotate_left
    · intro wx hx
      obtain ⟨hx0, hx1⟩ := hx
      go_simp
      try with_reducible rfl
    refine wpAnyH_ready (rs := [7]) (by kernel_rfl) (by simp) ?_
    refine AllReadyH.cons rfl (fun K hK => ?_) AllReadyH.nil
    go_simp
    go_wp2_with fail
    refine (status_isO _ (P p) 3 N m _ _ _ _ gm u1 u2 n3 n1 st _ (LP.out.2.later (below_dr (Below.refl _ _) 1)) LP.out.1.1 LP.out.1.2 HST.out).mono ?_
    rintro e w4 ⟨rfl, q4⟩
    have q4' : Below w2.heap.size w2 w4 := ⟨q4.os, q4.tape, q4.output, q4.size, q4.block⟩
    have HE : Hid (FtT w n1 n3 n4 w1.heap.size w4) := HE.out.later q4'
    have LP : Hid (((S p).nl ≤ 200 ∧ (S p).nw ≤ 200) ∧ ColsO w4 B (P p) 3 N m (S p).nl (S p).l (S p).nw (S p).k gm u1 u2) := ⟨LP.out.1, LP.out.2.later q4'⟩
    have hS' : FtE w.heap.size n1 n3 w4 := HE.out.2.1
    clear q4 q4'
    go_wp2_with fail
    refine hK.out _ _ hS' (fun hS => ?_)
    clear hK K hS'
    refine wpAnyH_take (i := 8) (v := ?_) rfl (by kernel_rfl) (by kernel_rfl) (by kernel_rfl) (fun _ _ _ h => h) (Or.inl ⟨by kernel_rfl, ?_⟩) hS ?_
    rotate_left
    · intro wx hx
      obtain ⟨hx0, hx1⟩ := hx
      go_simp
      try with_reducible rfl
    refine wpAnyH_done (by kernel_rfl) ?_ _
    clear hS
    go_simp
    obtain ⟨_, ⟨y1, y3⟩, z4, fz⟩ := HE.out
    subst hst
    rcases hu with ⟨hu, rfl⟩ | ⟨hu, rfl⟩
    · have dd : decide (n4 < now) = true := decide_eq_true hu
      clear hu
      go_wp2
      go_ret
      exact ⟨rfl, HE.out.1⟩
    · have dd : decide (n4 < now) = false := decide_eq_false hu
      clear hu
      go_wp2
      go_ret
      exact ⟨rfl, HE.out.1⟩
/-- FateOf's blocks: the groups, the answer. -/
def CallFi (w : World) (nr : Nat) (F : Nat → Int) (n : Nat) (S : Nat → Sto) (V : Nat → Nat → Value) (B : Nat) (vr vs : Value) (x : World) : Prop := Blk2 x w.heap.size vr vs ∧ Blk2 x (w.heap.size + 1) (.int .i64 0) (.int .i64 0) ∧ Grs x B nr F n S V vr vs ∧ Below w.heap.size w x
set_option maxRecDepth 100000 in
set_option maxHeartbeats 8000000 in
theorem implFateOf_is (nr : Nat) (F : Nat → Int) (n : Nat) (S : Nat → Sto) (V : Nat → Nat → Value) (vr vs : Value) (key now c v : Int) (B : Nat) (w : World) (h : Grs w B nr F n S V vr vs) (hr : nr ≤ 9223372036854775807) (hn : n ≤ 9223372036854775807) (hA : FateAns nr F n S key now c v) :
    Calls Tryz.prog 16 #[.agg #[vr, vs], .int .i64 key, .int .i64 now] w (ResInt w c v) := by
  obtain ⟨a0, c0, a1, c1, rfl, rfl⟩ := h.form
  have HE : Hid (CallGI w nr F n S V B (.slice a0 nr c0) (.slice a1 n c1) ((w.alloc (.cells #[.slice a0 nr c0, .slice a1 n c1] 27)).alloc (.cells #[.int .i64 0, .int .i64 0] 53))) := CallGI.new h _ _
  clear h
  unfold ResInt
  obtain ⟨⟨⟨p0, p1⟩, _⟩, _⟩ := HE.out
  rcases hA with ⟨hz, hc, rfl⟩ | ⟨hz, r, ⟨j, hj, hR⟩, hA⟩
  · have HF : Hid (askG nr F n S key now = c) := hc.symm
    have d : (c == 0) = false := beq_eq_false_iff_ne.2 (by rw [hc]; exact hz)
    have d' : (c != 0) = true := bne_iff_ne.2 (by rw [hc]; exact hz)
    clear hz hc
    go_enter Tryz.func16, Tryz.ntmps16
    go_wp2_with fail
    refine (askGroups_is nr F n S V _ _ key now B _ HE.out.2.2.1 hr hn).mono ?_
    rw [HF.out]
    rintro e w1 ⟨rfl, q1⟩
    have HE : Hid (CallGI w nr F n S V B (.slice a0 nr c0) (.slice a1 n c1) w1) := HE.out.later q1
    clear q1 p0 p1
    obtain ⟨⟨⟨p0, p1⟩, _⟩, ⟨⟨r0, r1⟩, f0, f1⟩, _⟩ := HE.out
    go_wp2
    exact bodyPost_ret (v := .agg #[.int .i64 c, .int .i64 0]) (by simp [results, Tryz.results16, go_sem, r0, r1]) rfl ⟨rfl, (HE.out.2.2.2.setCell (Nat.le_succ _) _).setCell (Nat.le_succ _) _⟩
  · have HF : Hid (askG nr F n S key now = 0) := hz
    have Z := groupsF_zero (askG_zero hz).1
    have HZ : Hid (nr ≤ 6 ∧ n = nr ∧ ∀ i, i < n → storeF (S i) = 0) := ⟨Z.1.n6, Z.2.1, fun i hi => (Z.2.2.1 i hi).1⟩
    have HNN : Hid (n = nr) := Z.2.1
    have HJ : Hid (AtR n F key j) := by unfold Hid; rw [Z.2.1]; exact hj
    have hjn : j < n := HJ.out.1
    clear hz Z hj
    rcases hR with ⟨hno, rfl⟩ | ⟨i, hi, hO⟩
    · rcases hA with ⟨_, rfl, rfl⟩ | ⟨h0, _, _⟩
      case inr => exact absurd rfl h0
      have HL : Hid (∀ v, LockTold (S j).nl (S j).l key v → v = .tuple #[.agg #[.int .i64 0, .int .i64 0, .int .i64 0, .int .i64 0, .int .i64 0], .bool false]) := fun v hT => by
        rcases hT with ⟨q, hq, hp, _⟩ | ⟨_, e⟩
        · exact absurd hp (hno q hq)
        · exact e
      clear hno
      go_enter Tryz.func16, Tryz.ntmps16
      go_wp2_with fail
      refine (askGroups_is nr F n S V _ _ key now B _ HE.out.2.2.1 hr hn).mono ?_
      rw [HF.out]
      rintro e w1 ⟨rfl, q1⟩
      have HE : Hid (CallGI w nr F n S V B (.slice a0 nr c0) (.slice a1 n c1) w1) := HE.out.later q1
      clear q1 p0 p1
      obtain ⟨⟨⟨p0, p1⟩, _⟩, ⟨⟨r0, r1⟩, f0, f1⟩, _⟩ := HE.out
      go_wp2_with fail
      refine (pointToAll_is nr F n S V _ _ B _ HE.out.2.2.1 HZ.out.2.2 HZ.out.2.1 (by have := HZ.out.1; have := HZ.out.2.1; omega)).mono ?_
      rintro e w2 ⟨gp, P, rfl, hP, hT, q2⟩
      have HE : Hid (CallGI w nr F n S V B (.slice a0 nr c0) (.slice a1 n c1) w2) := HE.out.later q2
      have HW : Hid (Work w2 w1.heap.size n F S (some ⟨gp, 0, none⟩) P) := ⟨hP, hT⟩
      clear hP hT q2 p0 p1 r0 r1 f0 f1
      go_wp2_with fail
      refine (storeOf_is key _ n F S _ _ P j _ HW.out HJ.out (by have := HZ.out.1; have := HZ.out.2.1; omega)).mono ?_
      rintro e w3 ⟨rfl, q3⟩
      have HE : Hid (CallGI w nr F n S V B (.slice a0 nr c0) (.slice a1 n c1) w3) := HE.out.later q3
      have HW : Hid (Work w3 w1.heap.size n F S (some ⟨gp, 0, none⟩) P) := HW.out.later q3
      clear q3
      obtain ⟨N, m, gm, u1, u2, hNl, _, hR⟩ := HW.out.2 j hjn
      have LJ : Hid ((S j).nl ≤ 200 ∧ ColsO w3 w1.heap.size (P j) 3 N m (S j).nl (S j).l (S j).nw (S j).k gm u1 u2) := ⟨hNl.2.1, hR.2.1⟩
      clear hNl hR
      go_wp2_with fail
      refine (lockOf_anyO _ (P j) 3 N m _ _ _ _ gm u1 u2 key _ LJ.out.2 LJ.out.1).mono ?_
      rintro e w4 ⟨v, rfl, hT, q4⟩
      obtain rfl := HL.out v hT
      have HE : Hid (CallGI w nr F n S V B (.slice a0 nr c0) (.slice a1 n c1) w4) := HE.out.later q4
      have HW : Hid (Work w4 w1.heap.size n F S (some ⟨gp, 0, none⟩) P) := HW.out.later q4
      clear q4 hT LJ
      obtain ⟨⟨r0, r1⟩, f0, f1⟩ := (HE.out.2.1.alloc (.cells #[.int .i64 0, .int .i64 0, .int .i64 0, .int .i64 0, .int .i64 0] 96))
      have HE : Hid (CallGI w nr F n S V B (.slice a0 nr c0) (.slice a1 n c1) (w4.alloc (.cells #[.int .i64 0, .int .i64 0, .int .i64 0, .int .i64 0, .int .i64 0] 96))) := HE.out.later (below_alloc _ _)
      go_wp2
      exact bodyPost_ret (v := .agg #[.int .i64 4, .int .i64 0]) (by simp [results, Tryz.results16, go_sem, r0, r1]) rfl ⟨rfl, (HE.out.2.2.2.setCell (Nat.le_succ _) _).setCell (Nat.le_succ _) _⟩
    · rcases hA with ⟨rfl, _, _⟩ | ⟨h0, rfl, rfl⟩
      · obtain ⟨p, st, _, hst, hO⟩ := hO
        exfalso
        rcases hO with ⟨_, e⟩ | ⟨_, e⟩ | ⟨_, q, _, e⟩ | ⟨_, e⟩
        · exact absurd e (by decide)
        · exact absurd e (by decide)
        · rcases e with ⟨_, e⟩ | ⟨_, e⟩ <;> exact absurd e (by decide)
        · rcases e with ⟨_, e⟩ | ⟨_, e⟩ <;> exact absurd e (by decide)
      · obtain ⟨k0, K0⟩ : ∃ x, (S j).l (i * 5) = x := ⟨_, rfl⟩
        obtain ⟨k1, K1⟩ : ∃ x, (S j).l (i * 5 + 1) = x := ⟨_, rfl⟩
        obtain ⟨k2, K2⟩ : ∃ x, (S j).l (i * 5 + 2) = x := ⟨_, rfl⟩
        obtain ⟨k3, K3⟩ : ∃ x, (S j).l (i * 5 + 3) = x := ⟨_, rfl⟩
        obtain ⟨k4, K4⟩ : ∃ x, (S j).l (i * 5 + 4) = x := ⟨_, rfl⟩
        have HO : Hid (FateOn n F S k3 k1 k4 now v) := by unfold Hid; rw [← K3, ← K1, ← K4, HNN.out]; exact hO
        have HL : Hid (∀ v, LockTold (S j).nl (S j).l key v → v = .tuple #[.agg #[.int .i64 k0, .int .i64 k1, .int .i64 k2, .int .i64 k3, .int .i64 k4], .bool true]) := fun v hT => by
          rcases hT with ⟨q, hq, hp, hr', e⟩ | ⟨hno, _⟩
          · obtain rfl := firstL.one ⟨hq, hp, hr'⟩ hi
            rw [e, K0, K1, K2, K3, K4]
          · exact absurd hi.2.1 (hno i hi.1)
        clear K0 K1 K2 K3 K4 hO hi h0
        go_enter Tryz.func16, Tryz.ntmps16
        go_wp2_with fail
        refine (askGroups_is nr F n S V _ _ key now B _ HE.out.2.2.1 hr hn).mono ?_
        rw [HF.out]
        rintro e w1 ⟨rfl, q1⟩
        have HE : Hid (CallGI w nr F n S V B (.slice a0 nr c0) (.slice a1 n c1) w1) := HE.out.later q1
        clear q1 p0 p1
        obtain ⟨⟨⟨p0, p1⟩, _⟩, ⟨⟨r0, r1⟩, f0, f1⟩, _⟩ := HE.out
        go_wp2_with fail
        refine (pointToAll_is nr F n S V _ _ B _ HE.out.2.2.1 HZ.out.2.2 HZ.out.2.1 (by have := HZ.out.1; have := HZ.out.2.1; omega)).mono ?_
        rintro e w2 ⟨gp, P, rfl, hP, hT, q2⟩
        have HE : Hid (CallGI w nr F n S V B (.slice a0 nr c0) (.slice a1 n c1) w2) := HE.out.later q2
        have HW : Hid (Work w2 w1.heap.size n F S (some ⟨gp, 0, none⟩) P) := ⟨hP, hT⟩
        clear hP hT q2 p0 p1 r0 r1 f0 f1
        go_wp2_with fail
        refine (storeOf_is key _ n F S _ _ P j _ HW.out HJ.out (by have := HZ.out.1; have := HZ.out.2.1; omega)).mono ?_
        rintro e w3 ⟨rfl, q3⟩
        have HE : Hid (CallGI w nr F n S V B (.slice a0 nr c0) (.slice a1 n c1) w3) := HE.out.later q3
        have HW : Hid (Work w3 w1.heap.size n F S (some ⟨gp, 0, none⟩) P) := HW.out.later q3
        clear q3
        obtain ⟨N, m, gm, u1, u2, hNl, _, hR⟩ := HW.out.2 j hjn
        have LJ : Hid ((S j).nl ≤ 200 ∧ ColsO w3 w1.heap.size (P j) 3 N m (S j).nl (S j).l (S j).nw (S j).k gm u1 u2) := ⟨hNl.2.1, hR.2.1⟩
        clear hNl hR
        go_wp2_with fail
        refine (lockOf_anyO _ (P j) 3 N m _ _ _ _ gm u1 u2 key _ LJ.out.2 LJ.out.1).mono ?_
        rintro e w4 ⟨v, rfl, hT, q4⟩
        obtain rfl := HL.out v hT
        have HE : Hid (CallGI w nr F n S V B (.slice a0 nr c0) (.slice a1 n c1) w4) := HE.out.later q4
        have HW : Hid (Work w4 w1.heap.size n F S (some ⟨gp, 0, none⟩) P) := HW.out.later q4
        clear q4 hT LJ
        obtain ⟨⟨r0, r1⟩, f0, f1⟩ := (HE.out.2.1.alloc (.cells #[.int .i64 k0, .int .i64 k1, .int .i64 k2, .int .i64 k3, .int .i64 k4] 96))
        have HE : Hid (CallGI w nr F n S V B (.slice a0 nr c0) (.slice a1 n c1) (w4.alloc (.cells #[.int .i64 k0, .int .i64 k1, .int .i64 k2, .int .i64 k3, .int .i64 k4] 96))) := HE.out.later (below_alloc _ _)
        have HW : Hid (Work (w4.alloc (.cells #[.int .i64 k0, .int .i64 k1, .int .i64 k2, .int .i64 k3, .int .i64 k4] 96)) w1.heap.size n F S (some ⟨gp, 0, none⟩) P) := HW.out.later (below_alloc _ _)
        go_wp2_with fail
        refine (fate_is k0 k1 k2 k3 k4 now v _ n F S _ _ P _ HW.out (by have := HZ.out.1; have := HZ.out.2.1; omega) HO.out).mono ?_
        rintro e w5 ⟨rfl, q5⟩
        have HE : Hid (CallGI w nr F n S V B (.slice a0 nr c0) (.slice a1 n c1) w5) := HE.out.later q5
        clear q5 r0 r1 f0 f1
        obtain ⟨_, ⟨⟨r0, r1⟩, f0, f1⟩, _⟩ := HE.out
        go_wp2
        exact bodyPost_ret (v := .agg #[.int .i64 0, .int .i64 v]) (by simp [results, Tryz.results16, go_sem, r0, r1]) rfl ⟨rfl, (HE.out.2.2.2.setCell (Nat.le_succ _) _).setCell (Nat.le_succ _) _⟩
end

section
open Go.RowKit
-- Own text. The walk of the law FnExactFateOf, over what the model and the program answer: a code and a value.
/-- The law's own blocks: its argument, the program's argument. -/
def LawGI (w : World) (vr vs : Value) (X : Nat) (xr xs : Value) (x : World) : Prop := Below w.heap.size w x ∧ Blk2 x w.heap.size vr vs ∧ Blk2 x X xr xs
theorem LawGI.later {w x x' : World} {vr vs : Value} {X : Nat} {xr xs : Value} (h : LawGI w vr vs X xr xs x) (hb : Below x.heap.size x x') : LawGI w vr vs X xr xs x' := ⟨h.1.trans (hb.mono h.1.size), h.2.1.later hb, h.2.2.later hb⟩
theorem LawGI.drew {w x : World} {vr vs : Value} {X : Nat} {xr xs : Value} (h : LawGI w vr vs X xr xs x) : LawGI w vr vs X xr xs x.drew := ⟨below_dr h.1 1, h.2.1.kept rfl, h.2.2.kept rfl⟩
set_option maxRecDepth 100000 in
set_option maxHeartbeats 8000000 in
theorem exactFateOf_walk (nr : Nat) (F : Nat → Int) (n : Nat) (S : Nat → Sto) (V : Nat → Nat → Value) (vr vs : Value) (key : Int) (now : Int) (w : World) (h : Grs w 0 nr F n S V vr vs) (hr : nr ≤ 9223372036854775807) (hn : n ≤ 9223372036854775807) (hs : ∀ i, i < n → BigS (S i))
    (ans : ∃ c v, (∀ U ur us x, Grs x 0 nr F n S U ur us → Calls Tryz.prog 14 #[.agg #[ur, us], .int .i64 key, .int .i64 now] x (ResInt x c v)) ∧
      (∀ U ur us x, Grs x 0 nr F n S U ur us → Calls Tryz.prog 16 #[.agg #[ur, us], .int .i64 key, .int .i64 now] x (ResInt x c v))) :
    Calls Tryz.prog 4 #[.agg #[vr, vs], .int .i64 key, .int .i64 now] w fun e w' => e = .returned (.bool true) ∧ Below w.heap.size w w' := by
  obtain ⟨a0, c0, a1, c1, rfl, rfl⟩ := h.form
  have H : Hid (CallG w nr F n S V 0 (.slice a0 nr c0) (.slice a1 n c1) (w.alloc (.cells #[.slice a0 nr c0, .slice a1 n c1] 50))) := CallG.new h _
  have HG0 : Hid (Grs w 0 nr F n S V (.slice a0 nr c0) (.slice a1 n c1)) := h
  have HN : Hid (∀ i, i < n → BigS (S i)) := hs
  obtain ⟨c, v, hspec, himpl⟩ := ans
  have HS : Hid (∀ U ur us x, Grs x 0 nr F n S U ur us → Calls Tryz.prog 14 #[.agg #[ur, us], .int .i64 key, .int .i64 now] x (ResInt x c v)) := hspec
  have HI : Hid (∀ U ur us x, Grs x 0 nr F n S U ur us → Calls Tryz.prog 16 #[.agg #[ur, us], .int .i64 key, .int .i64 now] x (ResInt x c v)) := himpl
  clear h hs hspec himpl
  obtain ⟨⟨f0, f1⟩, _⟩ := H.out.1
  go_enter Tryz.func4, Tryz.ntmps4
  go_wp2_with fail
  refine (szGroups_any nr F n S V _ _ 0 _ H.out.2.1 hr hn HN.out).mono ?_
  rintro e w1 ⟨rr, rfl, hA, q1⟩
  have H1 : Hid (CallG w nr F n S V 0 (.slice a0 nr c0) (.slice a1 n c1) w1) := H.out.later q1
  clear q1 H f0 f1
  rcases hA with rfl | ⟨h1, h2, h3, h4⟩
  · go_wp2
    go_ret
    exact ⟨rfl, H1.out.2.2⟩
  have HB : Hid (nr ≤ 1048576 ∧ n ≤ 1048576 ∧ ∀ i, i < n → SmallS (S i)) := ⟨h2, h3.1, h4⟩
  have dr0 : decide (rr < 0) = false := decide_eq_false (by omega)
  clear h1 h2 h3 h4 hr hn HN
  obtain ⟨⟨f0, f1⟩, _⟩ := H1.out.1
  go_wp2_with fail
  refine (toGroups_any nr F n S V _ _ 0 _ H1.out.2.1 HB.out.1 HB.out.2.1 HB.out.2.2).mono ?_
  rintro e w3 ⟨ya, yc, gy, UY, zy, rfl, hF, q3⟩
  have H3 : Hid (CallG w nr F n S V 0 (.slice a0 nr c0) (.slice a1 n c1) w3) := H1.out.later q3
  have G3 : Hid (Grs w3 0 nr F n S UY (.slice ya nr yc) (.slice (some ⟨gy, 0, none⟩) n n)) := hF.grs.mono (Nat.zero_le _)
  clear q3 hF H1 f0 f1
  go_wp2_with fail
  refine (HS.out UY _ _ _ G3.out).mono ?_
  rintro e w5 ⟨rfl, q5⟩
  have H5 : Hid (CallG w nr F n S V 0 (.slice a0 nr c0) (.slice a1 n c1) (w5.alloc (.cells #[.int .i64 c, .int .i64 v] 53))) := (H3.out.later q5).later (below_alloc _ _)
  have K5 : Hid (Blk2 (w5.alloc (.cells #[.int .i64 c, .int .i64 v] 53)) w5.heap.size (.int .i64 c) (.int .i64 v)) := Blk2.new w5 _ _ _
  clear q5 HS H3 G3
  obtain ⟨⟨f0, f1⟩, _⟩ := H5.out.1
  go_wp2_with fail
  refine (toGroups_any nr F n S V _ _ 0 _ H5.out.2.1 HB.out.1 HB.out.2.1 HB.out.2.2).mono ?_
  rintro e w6 ⟨xa, xc, gx, UX, zx, rfl, hF, q6⟩
  have S6 : Hid (Grs (w6.alloc (.cells #[.slice xa nr xc, .slice (some ⟨gx, 0, none⟩) n n] 27)) 0 nr F n S UX (.slice xa nr xc) (.slice (some ⟨gx, 0, none⟩) n n)) := (hF.grs.mono (Nat.zero_le _)).alloc _
  have H6 : Hid (CallG w nr F n S V 0 (.slice a0 nr c0) (.slice a1 n c1) (w6.alloc (.cells #[.slice xa nr xc, .slice (some ⟨gx, 0, none⟩) n n] 27))) := (H5.out.later q6).later (below_alloc _ _)
  have K6 : Hid (Blk2 (w6.alloc (.cells #[.slice xa nr xc, .slice (some ⟨gx, 0, none⟩) n n] 27)) w5.heap.size (.int .i64 c) (.int .i64 v) ∧ Blk2 (w6.alloc (.cells #[.slice xa nr xc, .slice (some ⟨gx, 0, none⟩) n n] 27)) w6.heap.size (.slice xa nr xc) (.slice (some ⟨gx, 0, none⟩) n n)) := ⟨(K5.out.later q6).later (below_alloc _ _), Blk2.new _ _ _ _⟩
  clear q6 hF H5 K5 f0 f1
  go_wp2_with fail
  refine (HI.out UX _ _ _ S6.out).mono ?_
  rintro e w8 ⟨rfl, q8⟩
  have Q9 : Hid (LawGI w (.slice a0 nr c0) (.slice a1 n c1) w6.heap.size (.slice xa nr xc) (.slice (some ⟨gx, 0, none⟩) n n) (w8.alloc (.cells #[.int .i64 c, .int .i64 v] 53))) := ⟨((H6.out.later q8).later (below_alloc _ _)).2.2, ((H6.out.later q8).later (below_alloc _ _)).1, (K6.out.2.later q8).later (below_alloc _ _)⟩
  have S9 : Hid (Grs (w8.alloc (.cells #[.int .i64 c, .int .i64 v] 53)) 0 nr F n S UX (.slice xa nr xc) (.slice (some ⟨gx, 0, none⟩) n n)) := (S6.out.later q8).alloc _
  obtain ⟨⟨t0, t1⟩, _⟩ := K6.out.1.later q8
  have z8 := World.block_lt_of_cell? w8 _ t0
  clear q8 H6 K6 S6 HI
  go_wp2_with fail
  refine (eqIntA_same c v _).mono ?_
  rintro e w9 ⟨rfl, q9⟩
  have Q : Hid (LawGI w (.slice a0 nr c0) (.slice a1 n c1) w6.heap.size (.slice xa nr xc) (.slice (some ⟨gx, 0, none⟩) n n) w9) := Q9.out.later q9
  have SS : Hid (Grs w9 0 nr F n S UX (.slice xa nr xc) (.slice (some ⟨gx, 0, none⟩) n n)) := S9.out.later q9
  clear q9 Q9 S9 t0 t1 z8
  go_wp2_with fail
  refine wp_region_held_drew (S := LawGI w (.slice a0 nr c0) (.slice a1 n c1) w6.heap.size (.slice xa nr xc) (.slice (some ⟨gx, 0, none⟩) n n)) (by kernel_rfl) Q.out.drew (fun hS => ?_)
  clear Q
  refine wpAnyH_take (i := 0) (v := ?_) rfl (by kernel_rfl) (by kernel_rfl) (by kernel_rfl) (fun _ _ _ h => h) (Or.inl ⟨by kernel_rfl, ?_⟩) hS ?_
  rotate_left
  · intro wx hx
    obtain ⟨_, ⟨⟨hx0, hx1⟩, _⟩, ⟨⟨hx2, hx3⟩, _⟩⟩ := hx
    go_simp
    try with_reducible rfl
  refine wpAnyH_take (i := 1) (v := ?_) rfl (by kernel_rfl) (by kernel_rfl) (by kernel_rfl) (fun _ _ _ h => h) (Or.inl ⟨by kernel_rfl, ?_⟩) hS ?_
  rotate_left
  · intro wx hx
    obtain ⟨_, ⟨⟨hx0, hx1⟩, _⟩, ⟨⟨hx2, hx3⟩, _⟩⟩ := hx
    go_simp
    try with_reducible rfl
  refine wpAnyH_ready (rs := [2]) (by kernel_rfl) (by simp) ?_
  refine AllReadyH.cons rfl (fun K hK => ?_) AllReadyH.nil
  go_simp
  go_wp2_with fail
  refine (toGroups_any nr F n S V _ _ 0 _ (HG0.out.later hS.1) HB.out.1 HB.out.2.1 HB.out.2.2).mono ?_
  rintro e w11 ⟨na, nb, gn, UN, zn, rfl, hF, q11⟩
  have q11' : Below w9.heap.size w9 w11 := ⟨q11.os, q11.tape, q11.output, q11.size, q11.block⟩
  have N11 : Hid (Grs w11 0 nr F n S UN (.slice na nr nb) (.slice (some ⟨gn, 0, none⟩) n n)) := hF.grs.mono (Nat.zero_le _)
  have SS : Hid (Grs w11 0 nr F n S UX (.slice xa nr xc) (.slice (some ⟨gx, 0, none⟩) n n)) := SS.out.later q11'
  have hS' := hS.later q11
  clear hF q11 q11'
  go_wp2_with fail
  refine hK.out _ _ hS' (fun hS => ?_)
  clear hK K hS'
  refine wpAnyH_ready (rs := [3]) (by kernel_rfl) (by simp) ?_
  refine AllReadyH.cons rfl (fun K hK => ?_) AllReadyH.nil
  go_simp
  go_wp2_with fail
  refine (eqGroups_same nr F n S UX UN _ _ _ _ 0 0 _ SS.out N11.out HB.out.1 HB.out.2.1 HB.out.2.2).mono ?_
  rintro e w12 ⟨rfl, q12⟩
  have hS' := hS.later q12
  clear q12 N11
  go_wp2_with fail
  refine hK.out _ _ hS' (fun hS => ?_)
  clear hK K hS'
  refine wpAnyH_take (i := 4) (v := ?_) rfl (by kernel_rfl) (by kernel_rfl) (by kernel_rfl) (fun _ _ _ h => h) (Or.inl ⟨by kernel_rfl, ?_⟩) hS ?_
  rotate_left
  · intro wx hx
    obtain ⟨_, ⟨⟨hx0, hx1⟩, _⟩, ⟨⟨hx2, hx3⟩, _⟩⟩ := hx
    go_simp
    try with_reducible rfl
  refine wpAnyH_done (by kernel_rfl) ?_ _
  have QQ : Hid (Below w.heap.size w w12) := hS.1
  clear hS
  go_simp
  go_wp2
  go_ret
  exact ⟨rfl, QQ.out⟩
end

section
open Go.RowKit
-- Own text. The law FnExactFateOf: the walk over both answers.
theorem fateOf_walk (nr : Nat) (F : Nat → Int) (n : Nat) (S : Nat → Sto) (V : Nat → Nat → Value) (vr vs : Value) (key now : Int) (w : World) (h : Grs w 0 nr F n S V vr vs) (hr : nr ≤ 9223372036854775807) (hn : n ≤ 9223372036854775807) (hs : ∀ i, i < n → BigS (S i)) :
    Calls Tryz.prog 4 #[.agg #[vr, vs], .int .i64 key, .int .i64 now] w fun e w' => e = .returned (.bool true) ∧ Below w.heap.size w w' := by
  obtain ⟨c, v, hA⟩ := FateAns.get nr F n S key now
  exact exactFateOf_walk nr F n S V vr vs key now w h hr hn hs ⟨c, v, fun U ur us x hx => specFateOf_is nr F n S U ur us key now c v 0 x hx hr hn hA, fun U ur us x hx => implFateOf_is nr F n S U ur us key now c v 0 x hx hr hn hA⟩
end
end Go.Proofs.YtpfmbfmlpoibeaaGreat
