/-
  Own text. What the program's GroupsFault answers.
-/
import Derived.Test.YtlojbhadodbohaaGreatGrpF
import Derived.Test.YtlojbhadodbohaaGreatGrpG
import Derived.Test.YtlojbhadodbohaaGreatColsY
namespace Go.Proofs.YtlojbhadodbohaaGreat
open Go.RowKit

/-- The call's blocks: the groups that it was given. -/
def CallG (w : World) (nr : Nat) (F : Nat → Int) (n : Nat) (S : Nat → Sto) (V : Nat → Nat → Value) (B : Nat) (vr vs : Value) (x : World) : Prop := Blk2 x w.heap.size vr vs ∧ Grs x B nr F n S V vr vs ∧ Below w.heap.size w x
theorem CallG.new {w : World} {nr : Nat} {F : Nat → Int} {n : Nat} {S : Nat → Sto} {V : Nat → Nat → Value} {B : Nat} {vr vs : Value} (h : Grs w B nr F n S V vr vs) (t : TypeId) : CallG w nr F n S V B vr vs (w.alloc (.cells #[vr, vs] t)) := ⟨Blk2.new _ _ _ _, h.alloc _, below_alloc _ _⟩
theorem CallG.later {w x x' : World} {nr : Nat} {F : Nat → Int} {n : Nat} {S : Nat → Sto} {V : Nat → Nat → Value} {B : Nat} {vr vs : Value} (h : CallG w nr F n S V B vr vs x) (hb : Below x.heap.size x x') : CallG w nr F n S V B vr vs x' := ⟨h.1.later hb, h.2.1.later hb, h.2.2.trans (hb.mono h.2.2.size)⟩
def RngE7 (w : World) (gr oR k : Nat) (fr to ep : Int) (a0 : Option Addr) (n c0 : Nat) (q : Nat) (s0 s1 s2 : Value) (x : World) : Prop :=
  Below w.heap.size w x ∧ x.cell? ⟨w.heap.size, 0, none⟩ = some (.slice a0 n c0) ∧ (x.cell? ⟨gr, oR + k * 3, none⟩ = some (.int .i64 fr) ∧ x.cell? ⟨gr, oR + k * 3 + 1, none⟩ = some (.int .i64 to) ∧ x.cell? ⟨gr, oR + k * 3 + 2, none⟩ = some (.int .i64 ep)) ∧ x.cell? ⟨q, 0, none⟩ = some s0 ∧ x.cell? ⟨q, 1, none⟩ = some s1 ∧ x.cell? ⟨q, 2, none⟩ = some s2
set_option maxRecDepth 100000 in
set_option maxHeartbeats 8000000 in
theorem implGroupsFault_any (nr : Nat) (F : Nat → Int) (n : Nat) (S : Nat → Sto) (V : Nat → Nat → Value) (vr vs : Value) (B : Nat) (w : World) (h : Grs w B nr F n S V vr vs) (hr : nr ≤ 9223372036854775807) (hn : n ≤ 9223372036854775807) :
    Calls Tryz.prog 44 #[.agg #[vr, vs]] w fun e w' => e = .returned (.int .i64 (groupsF nr F n S)) ∧ Below w.heap.size w w' := by
  obtain ⟨a0, c0, a1, c1, rfl, rfl⟩ := h.form
  have H : Hid (CallG w nr F n S V B (.slice a0 nr c0) (.slice a1 n c1) (w.alloc (.cells #[.slice a0 nr c0, .slice a1 n c1] 36))) := CallG.new h _
  clear h
  obtain ⟨⟨p0, p1⟩, _⟩ := H.out.1
  obtain ⟨f, hf⟩ : ∃ f, rangesF nr F = f := ⟨_, rfl⟩
  have HF : Hid (rangesF nr F = f) := hf
  go_enter Tryz.func44, Tryz.ntmps44
  go_wp2_with fail
  refine (implRanges_any _ B nr F _ H.out.2.1.1 hr).mono ?_
  rw [hf]
  rintro e w1 ⟨rfl, q1⟩
  have H1 : Hid (CallG w nr F n S V B (.slice a0 nr c0) (.slice a1 n c1) w1) := H.out.later q1
  clear q1 hf p0 p1 H
  by_cases hz : f = 0
  case neg =>
    have d : (f == 0) = false := beq_eq_false_iff_ne.2 hz
    have d' : (f != 0) = true := bne_iff_ne.2 hz
    have E : Hid (groupsF nr F n S = f) := by unfold Hid groupsF; rw [HF.out, if_pos hz]
    clear hz HF
    go_wp2
    go_ret
    exact ⟨by rw [E.out]; rfl, H1.out.2.2⟩
  subst hz
  have G : Hid (Good nr F) := good_of HF.out
  obtain ⟨⟨p0, p1⟩, _⟩ := H1.out.1
  by_cases hnn : n = nr
  case neg =>
    have d : ((n : Int) != (nr : Int)) = true := bne_iff_ne.2 (by omega)
    have E : Hid (groupsF nr F n S = 1) := by unfold Hid groupsF; rw [HF.out, if_neg (by decide), if_pos hnn]
    clear HF hnn
    go_wp2
    go_ret
    exact ⟨by rw [E.out]; rfl, H1.out.2.2⟩
  have HG : Hid (groupsF nr F n S = if scan (oneF F S) n ≠ 0 then scan (oneF F S) n else if fullG n S then 2 else 0) := by unfold Hid groupsF; rw [HF.out, if_neg (by decide), if_neg (fun q => q hnn)]
  have hn6 : n ≤ 6 := by have := G.out.n6; omega
  subst hnn
  clear HF
  go_wp2
  clear p0 p1
  go_loopw [24] (fun i wr => ∃ k : Nat, k ≤ n ∧ i = .int .i64 k ∧ Hid (scan (oneF F S) k = 0) ∧ Hid (CallG w n F n S V B (.slice a0 n c0) (.slice a1 n c1) wr)) (fun i _ => n - (intOf i).toNat)
  case atStart => exact ⟨0, Nat.zero_le _, rfl, rfl, H1⟩
  case round =>
    obtain ⟨k, hk, rfl, HS, HL⟩ := hrel
    obtain ⟨⟨p0, p1⟩, _⟩ := HL.out.1
    by_cases hlt : k < n
    · obtain ⟨g, o, rfl, _, hg, ⟨b0, b1, b2⟩, sk⟩ := HL.out.2.1.2.at hlt
      obtain ⟨gr, oR, rfl, _, hgr, t0, t1, t2⟩ := HL.out.2.1.1.at3 hlt
      obtain ⟨i0', d0, i1', d1, i2', d2, e0, e1, e2⟩ := sk.form
      obtain ⟨n0, hn0⟩ : ∃ x, (S k).nc = x := ⟨_, rfl⟩
      obtain ⟨n1, hn1⟩ : ∃ x, (S k).nl = x := ⟨_, rfl⟩
      obtain ⟨n2, hn2⟩ : ∃ x, (S k).nw = x := ⟨_, rfl⟩
      rw [e0, hn0] at b0
      rw [e1, hn1] at b1
      rw [e2, hn2] at b2
      rw [e0, e1, e2, hn0, hn1, hn2] at sk
      obtain ⟨fs, hfs⟩ : ∃ x, storeF (S k) = x := ⟨_, rfl⟩
      have HFS : Hid (storeF (S k) = fs) := hfs
      have LS : Hid (St (wr.alloc (.cells #[.slice i0' n0 d0, .slice i1' n1 d1, .slice i2' n2 d2] 45)) B (S k) (.slice i0' n0 d0) (.slice i1' n1 d1) (.slice i2' n2 d2)) := sk.alloc _
      have LQ : Hid (Blk3 (wr.alloc (.cells #[.slice i0' n0 d0, .slice i1' n1 d1, .slice i2' n2 d2] 45)) wr.heap.size (.slice i0' n0 d0) (.slice i1' n1 d1) (.slice i2' n2 d2)) := Blk3.new _ _ _ _ _
      have HL1 : Hid (CallG w n F n S V B (.slice (some ⟨gr, oR, none⟩) n c0) (.slice (some ⟨g, o, none⟩) n c1) (wr.alloc (.cells #[.slice i0' n0 d0, .slice i1' n1 d1, .slice i2' n2 d2] 45))) := HL.out.later (below_alloc _ _)
      clear sk e0 e1 e2 hn0 hn1 hn2 t0 t1 t2 HL
      go_wp2_with fail
      generalize wr.alloc (.cells #[.slice i0' n0 d0, .slice i1' n1 d1, .slice i2' n2 d2] 45) = w2 at LS LQ HL1 ⊢
      generalize wr.heap.size = q at LQ ⊢
      clear b0 b1 b2 p0 p1
      refine (implFault_any (S k) _ _ _ B _ LS.out).mono ?_
      rw [hfs]
      rintro e w3 ⟨rfl, q3⟩
      have HL3 : Hid (CallG w n F n S V B (.slice (some ⟨gr, oR, none⟩) n c0) (.slice (some ⟨g, o, none⟩) n c1) w3) := HL1.out.later q3
      have LQ3 : Hid (Blk3 w3 q (.slice i0' n0 d0) (.slice i1' n1 d1) (.slice i2' n2 d2)) := LQ.out.later q3
      have LS3 : Hid (St w3 B (S k) (.slice i0' n0 d0) (.slice i1' n1 d1) (.slice i2' n2 d2)) := LS.out.later q3
      clear q3 hfs HL1 LQ LS
      by_cases hz : fs = 0
      case neg =>
        have d : (fs == 0) = false := beq_eq_false_iff_ne.2 hz
        have d' : (fs != 0) = true := bne_iff_ne.2 hz
        have E : Hid (groupsF n F n S = fs) := by
          have h1 : oneF F S k = fs := by unfold oneF; rw [HFS.out, if_pos hz]
          have h2 : scan (oneF F S) n = fs := (scan_stop HS.out (by rw [h1]; exact hz) hlt).trans h1
          unfold Hid
          rw [HG.out, h2, if_pos hz]
        clear hz HFS HG HS
        go_wp2
        go_ret
        exact ⟨by rw [E.out]; rfl, HL3.out.2.2⟩
      subst hz
      obtain ⟨gr', oR', he, _, hgr3, t0, t1, t2⟩ := HL3.out.2.1.1.at3 hlt
      simp only [Option.some.injEq, Addr.mk.injEq, and_true] at he
      obtain ⟨rfl, rfl⟩ := he
      obtain ⟨fr, hfr⟩ : ∃ x, F (k * 3) = x := ⟨_, rfl⟩
      obtain ⟨to, hto⟩ : ∃ x, F (k * 3 + 1) = x := ⟨_, rfl⟩
      obtain ⟨ep, hep⟩ : ∃ x, F (k * 3 + 2) = x := ⟨_, rfl⟩
      rw [hfr] at t0
      rw [hto] at t1
      rw [hep] at t2
      have HFT : Hid (F (k * 3) = fr ∧ F (k * 3 + 1) = to) := ⟨hfr, hto⟩
      clear hfr hto hep
      have Z := storeF_zero HFS.out
      have HZ : Hid ((S k).nc ≤ 200 ∧ (S k).nl ≤ 200 ∧ (S k).nw ≤ 200) := Z.1
      have RE : Hid (RngE7 w gr oR k fr to ep (some ⟨gr, oR, none⟩) n c0 q (.slice i0' n0 d0) (.slice i1' n1 d1) (.slice i2' n2 d2) w3) := ⟨HL3.out.2.2, HL3.out.1.1.1, ⟨t0, t1, t2⟩, LQ3.out.1⟩
      clear Z t0 t1 t2
      go_wp2_with fail
      refine wp_region_held_drew (S := RngE7 w gr oR k fr to ep (some ⟨gr, oR, none⟩) n c0 q (.slice i0' n0 d0) (.slice i1' n1 d1) (.slice i2' n2 d2)) (by kernel_rfl) ⟨below_dr RE.out.1 1, RE.out.2⟩ (fun hS => ?_)
      refine wpAnyH_take (i := 0) (v := ?_) rfl (by kernel_rfl) (by kernel_rfl) (by kernel_rfl) (fun _ _ _ h => h) (Or.inl ⟨by kernel_rfl, ?_⟩) hS ?_
      rotate_left
      · intro wx hx
        obtain ⟨_, hx0, ⟨hx1, hx2, hx3⟩, hx4, hx5, hx6⟩ := hx
        go_simp
        try with_reducible rfl
      refine wpAnyH_take (i := 1) (v := ?_) rfl (by kernel_rfl) (by kernel_rfl) (by kernel_rfl) (fun _ _ _ h => h) (Or.inl ⟨by kernel_rfl, ?_⟩) hS ?_
      rotate_left
      · intro wx hx
        obtain ⟨_, hx0, ⟨hx1, hx2, hx3⟩, hx4, hx5, hx6⟩ := hx
        go_simp
        try with_reducible rfl
      refine wpAnyH_take (i := 2) (v := ?_) rfl (by kernel_rfl) (by kernel_rfl) (by kernel_rfl) (fun _ _ _ h => h) (Or.inl ⟨by kernel_rfl, ?_⟩) hS ?_
      rotate_left
      · intro wx hx
        obtain ⟨_, hx0, ⟨hx1, hx2, hx3⟩, hx4, hx5, hx6⟩ := hx
        go_simp
        try with_reducible rfl
      refine wpAnyH_take (i := 3) (v := ?_) rfl (by kernel_rfl) (by kernel_rfl) (by kernel_rfl) (fun _ _ _ h => h) (Or.inl ⟨by kernel_rfl, ?_⟩) hS ?_
      rotate_left
      · intro wx hx
        obtain ⟨_, hx0, ⟨hx1, hx2, hx3⟩, hx4, hx5, hx6⟩ := hx
        go_simp
        try with_reducible rfl
      refine wpAnyH_take (i := 4) (v := ?_) rfl (by kernel_rfl) (by kernel_rfl) (by kernel_rfl) (fun _ _ _ h => h) (Or.inl ⟨by kernel_rfl, ?_⟩) hS ?_
      rotate_left
      · intro wx hx
        obtain ⟨_, hx0, ⟨hx1, hx2, hx3⟩, hx4, hx5, hx6⟩ := hx
        go_simp
        try with_reducible rfl
      refine wpAnyH_take (i := 5) (v := ?_) rfl (by kernel_rfl) (by kernel_rfl) (by kernel_rfl) (fun _ _ _ h => h) (Or.inl ⟨by kernel_rfl, ?_⟩) hS ?_
      rotate_left
      · intro wx hx
        obtain ⟨_, hx0, ⟨hx1, hx2, hx3⟩, hx4, hx5, hx6⟩ := hx
        go_simp
        try with_reducible rfl
      refine wpAnyH_ready (rs := [6]) (by kernel_rfl) (by simp) ?_
      refine AllReadyH.cons rfl (fun K hK => ?_) AllReadyH.nil
      go_simp
      go_wp2_with fail
      refine (hasStray_any (S k) _ _ _ fr to ep B _ (LS3.out.later (below_dr (Below.refl _ _) 1)) HZ.out).mono ?_
      by_cases hst : strayS (S k) fr to
      · rw [decide_eq_true hst]
        rintro e w4 ⟨rfl, q4⟩
        have E : Hid (groupsF n F n S = 3) := by
          have h1 : oneF F S k = 3 := by unfold oneF; rw [HFS.out, if_neg (by decide), HFT.out.1, HFT.out.2, if_pos hst]
          have h2 : scan (oneF F S) n = 3 := (scan_stop HS.out (by rw [h1]; decide) hlt).trans h1
          unfold Hid
          rw [HG.out, h2, if_pos (by decide)]
        have q4' : Below w3.heap.size w3 w4 := ⟨q4.os, q4.tape, q4.output, q4.size, q4.block⟩
        have HL4 : Hid (CallG w n F n S V B (.slice (some ⟨gr, oR, none⟩) n c0) (.slice (some ⟨g, o, none⟩) n c1) w4) := HL3.out.later q4'
        have hS' : RngE7 w gr oR k fr to ep (some ⟨gr, oR, none⟩) n c0 q (.slice i0' n0 d0) (.slice i1' n1 d1) (.slice i2' n2 d2) w4 := ⟨HL4.out.2.2, HL4.out.1.1.1, ⟨(q4'.cell (p := ⟨gr, oR + k * 3, none⟩) hgr3).trans hS.2.2.1.1, (q4'.cell (p := ⟨gr, oR + k * 3 + 1, none⟩) hgr3).trans hS.2.2.1.2.1, (q4'.cell (p := ⟨gr, oR + k * 3 + 2, none⟩) hgr3).trans hS.2.2.1.2.2⟩, (LQ3.out.later q4').1⟩
        clear q4 q4' hst HFS HG HS
        go_wp2_with fail
        refine hK.out _ _ hS' (fun hS => ?_)
        clear hK K hS'
        refine wpAnyH_done (by kernel_rfl) ?_ _
        clear hS
        go_simp
        go_wp2
        go_ret
        exact ⟨by rw [E.out]; rfl, HL4.out.2.2⟩
      · rw [decide_eq_false hst]
        rintro e w4 ⟨rfl, q4⟩
        have HS1 : Hid (scan (oneF F S) (k + 1) = 0) := scan_go HS.out (by unfold oneF; rw [HFS.out, if_neg (by decide), HFT.out.1, HFT.out.2, if_neg hst])
        have q4' : Below w3.heap.size w3 w4 := ⟨q4.os, q4.tape, q4.output, q4.size, q4.block⟩
        have HL4 : Hid (CallG w n F n S V B (.slice (some ⟨gr, oR, none⟩) n c0) (.slice (some ⟨g, o, none⟩) n c1) w4) := HL3.out.later q4'
        have hS' : RngE7 w gr oR k fr to ep (some ⟨gr, oR, none⟩) n c0 q (.slice i0' n0 d0) (.slice i1' n1 d1) (.slice i2' n2 d2) w4 := ⟨HL4.out.2.2, HL4.out.1.1.1, ⟨(q4'.cell (p := ⟨gr, oR + k * 3, none⟩) hgr3).trans hS.2.2.1.1, (q4'.cell (p := ⟨gr, oR + k * 3 + 1, none⟩) hgr3).trans hS.2.2.1.2.1, (q4'.cell (p := ⟨gr, oR + k * 3 + 2, none⟩) hgr3).trans hS.2.2.1.2.2⟩, (LQ3.out.later q4').1⟩
        clear q4 q4' hst HFS HS
        go_wp2_with fail
        refine hK.out _ _ hS' (fun hS => ?_)
        clear hK K hS'
        refine wpAnyH_done (by kernel_rfl) ?_ _
        clear hS
        go_simp
        go_wp2
        go_roundw
        case rel => exact ⟨k + 1, by omega, by go_num, HS1, HL4⟩
        case measure => simp [intOf]; omega
    · obtain rfl : k = n := by omega
      have HSS : Hid (∀ i, i < k → (S i).nc ≤ 200 ∧ (S i).nl ≤ 200 ∧ (S i).nw ≤ 200) := fun i hi => by
        have h1 := scan_zero HS.out i hi
        unfold oneF at h1
        split at h1
        · rename_i q; exact absurd h1 q
        · rename_i q; exact (storeF_zero (Classical.not_not.1 q)).1
      have E : Hid (groupsF k F k S = if fullG k S then 2 else 0) := by unfold Hid; rw [HG.out, HS.out, if_neg (by decide)]
      clear HS HG hlt
      go_wp2_with fail
      refine (together_any k S V _ B _ HL.out.2.1.2 hn6 HSS.out).mono ?_
      rintro e w4 ⟨x0, y0, x1, y1, x2, y2, rfl, _, q4⟩
      obtain ⟨m0, hm0⟩ : ∃ x, (unionS k S).nc = x := ⟨_, rfl⟩
      obtain ⟨m1, hm1⟩ : ∃ x, (unionS k S).nl = x := ⟨_, rfl⟩
      obtain ⟨m2, hm2⟩ : ∃ x, (unionS k S).nw = x := ⟨_, rfl⟩
      rw [hm0, hm1, hm2]
      have HFU : Hid (fullG k S ↔ (200 < m0 ∨ 200 < m1 ∨ 200 < m2)) := by rw [← hm0, ← hm1, ← hm2]; exact Iff.rfl
      have B4 : Below w.heap.size w w4 := HL.out.2.2.trans (q4.mono HL.out.2.2.size)
      have B5 : Hid (Below w.heap.size w (w4.alloc (.cells #[.slice x0 m0 y0, .slice x1 m1 y1, .slice x2 m2 y2] 45)) ∧ Blk3 (w4.alloc (.cells #[.slice x0 m0 y0, .slice x1 m1 y1, .slice x2 m2 y2] 45)) w4.heap.size (.slice x0 m0 y0) (.slice x1 m1 y1) (.slice x2 m2 y2)) := ⟨B4.trans ((below_alloc _ _).mono B4.size), Blk3.new _ _ _ _ _⟩
      clear q4 hm0 hm1 hm2 B4 p0 p1 HSS
      obtain ⟨⟨z0, z1, z2⟩, _⟩ := B5.out.2
      by_cases r0 : 200 < m0
      · have d : decide ((200 : Int) < (m0 : Int)) = true := decide_eq_true (by omega)
        have E2 : Hid (groupsF k F k S = 2) := by unfold Hid; rw [E.out, if_pos (HFU.out.2 (Or.inl r0))]
        clear r0 HFU E
        go_wp2
        go_ret
        exact ⟨by rw [E2.out]; rfl, B5.out.1⟩
      have d0 : decide ((200 : Int) < (m0 : Int)) = false := decide_eq_false (by omega)
      by_cases r1 : 200 < m1
      · have d : decide ((200 : Int) < (m1 : Int)) = true := decide_eq_true (by omega)
        have E2 : Hid (groupsF k F k S = 2) := by unfold Hid; rw [E.out, if_pos (HFU.out.2 (Or.inr (Or.inl r1)))]
        clear r0 r1 HFU E
        go_wp2
        go_ret
        exact ⟨by rw [E2.out]; rfl, B5.out.1⟩
      have d1 : decide ((200 : Int) < (m1 : Int)) = false := decide_eq_false (by omega)
      by_cases r2 : 200 < m2
      · have d : decide ((200 : Int) < (m2 : Int)) = true := decide_eq_true (by omega)
        have E2 : Hid (groupsF k F k S = 2) := by unfold Hid; rw [E.out, if_pos (HFU.out.2 (Or.inr (Or.inr r2)))]
        clear r0 r1 r2 HFU E
        go_wp2
        go_ret
        exact ⟨by rw [E2.out]; rfl, B5.out.1⟩
      have d2 : decide ((200 : Int) < (m2 : Int)) = false := decide_eq_false (by omega)
      have E2 : Hid (groupsF k F k S = 0) := by unfold Hid; rw [E.out, if_neg (fun q => by have := HFU.out.1 q; omega)]
      clear r0 r1 r2 HFU E
      go_wp2
      go_ret
      exact ⟨by rw [E2.out]; rfl, B5.out.1⟩
end Go.Proofs.YtlojbhadodbohaaGreat
