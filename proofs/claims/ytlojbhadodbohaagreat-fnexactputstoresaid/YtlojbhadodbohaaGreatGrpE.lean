/-
  Own text. What the model's l7Full and l7Fault answer.
-/
import Derived.Test.YtlojbhadodbohaaGreatGrpD
import Derived.Test.YtlojbhadodbohaaGreatStorP
namespace Go.Proofs.YtlojbhadodbohaaGreat
open Go.RowKit

/-- Block b holds groups: its two lists, and all that is in them. -/
def LiesG (w : World) (b nr : Nat) (F : Nat → Int) (n : Nat) (S : Nat → Sto) (V : Nat → Nat → Value) (vr vs : Value) : Prop := (w.cell? ⟨b, 0, none⟩ = some vr ∧ w.cell? ⟨b, 1, none⟩ = some vs) ∧ Grs w 0 nr F n S V vr vs
theorem LiesG.lt {w : World} {b nr : Nat} {F : Nat → Int} {n : Nat} {S : Nat → Sto} {V : Nat → Nat → Value} {vr vs : Value} (h : LiesG w b nr F n S V vr vs) : b < w.heap.size := World.block_lt_of_cell? w ⟨b, 0, none⟩ h.1.1
theorem LiesG.later {w w' : World} {b nr : Nat} {F : Nat → Int} {n : Nat} {S : Nat → Sto} {V : Nat → Nat → Value} {vr vs : Value} (h : LiesG w b nr F n S V vr vs) (hb : Below w.heap.size w w') : LiesG w' b nr F n S V vr vs :=
  ⟨⟨(hb.cell (p := ⟨b, 0, none⟩) h.lt).trans h.1.1, (hb.cell (p := ⟨b, 1, none⟩) h.lt).trans h.1.2⟩, h.2.later hb⟩
theorem sum_small {f : Nat → Nat} {n k : Nat} (h : ∀ i, i < n → f i ≤ 200) (hn : n ≤ 6) (hk : k ≤ n) : sumN f k ≤ 1200 := by
  have h1 := sum_le (f := f) (c := 200) k (fun i hi => h i (by omega))
  have h2 : k * 200 ≤ 6 * 200 := Nat.mul_le_mul_right 200 (by omega)
  omega
set_option maxRecDepth 100000 in
set_option maxHeartbeats 4000000 in
theorem l7Full_any (nr : Nat) (F : Nat → Int) (n : Nat) (S : Nat → Sto) (V : Nat → Nat → Value) (vr vs : Value) (b : Nat) (w : World) (h : LiesG w b nr F n S V vr vs) (hn : n ≤ 6) (hs : ∀ i, i < n → (S i).nc ≤ 200 ∧ (S i).nl ≤ 200 ∧ (S i).nw ≤ 200) :
    Calls Tryz.prog 77 #[.pointer (some ⟨b, 0, none⟩)] w fun e w' => e = .returned (.bool (decide (fullG n S))) ∧ Below w.heap.size w w' := by
  obtain ⟨a0, c0, a1, c1, rfl, rfl⟩ := h.2.form
  have H : Hid (LiesG w b nr F n S V (.slice a0 nr c0) (.slice a1 n c1)) := h
  have HN : Hid (∀ i, i < n → (S i).nc ≤ 200 ∧ (S i).nl ≤ 200 ∧ (S i).nw ≤ 200) := hs
  clear h hs
  go_enter Tryz.func77, Tryz.ntmps77
  go_wp2
  go_loopw [3, 4, 5, 6] (fun x y z i wr => ∃ (k p0 p1 p2 : Nat), k ≤ n ∧ x = .int .i64 p0 ∧ y = .int .i64 p1 ∧ z = .int .i64 p2 ∧ i = .int .i64 k ∧ Hid (p0 = sumN (fun i => (S i).nc) k ∧ p1 = sumN (fun i => (S i).nl) k ∧ p2 = sumN (fun i => (S i).nw) k) ∧ Hid (Below w.heap.size w wr)) (fun _ _ _ i _ => n - (intOf i).toNat)
  case atStart => exact ⟨0, 0, 0, 0, Nat.zero_le _, rfl, rfl, rfl, rfl, ⟨rfl, rfl, rfl⟩, Below.refl _ _⟩
  case round =>
    obtain ⟨k, p0, p1, p2, hk, rfl, rfl, rfl, rfl, HS, hR⟩ := hrel
    have hl0 := (H.out.later hR.out).1.2
    have q0 : p0 ≤ 1200 := by rw [HS.out.1]; exact sum_small (fun i hi => (HN.out i hi).1) hn hk
    have q1 : p1 ≤ 1200 := by rw [HS.out.2.1]; exact sum_small (fun i hi => (HN.out i hi).2.1) hn hk
    have q2 : p2 ≤ 1200 := by rw [HS.out.2.2]; exact sum_small (fun i hi => (HN.out i hi).2.2) hn hk
    by_cases hlt : k < n
    · obtain ⟨g, o, rfl, _, hg, ⟨b0, b1, b2⟩, sk⟩ := (H.out.later hR.out).2.2.at hlt
      obtain ⟨i0, d0, i1, d1, i2, d2, e0, e1, e2⟩ := sk.form
      rw [e0] at b0
      rw [e1] at b1
      rw [e2] at b2
      clear sk e0 e1 e2
      obtain ⟨n0, hn0⟩ : ∃ x, (S k).nc = x := ⟨_, rfl⟩
      obtain ⟨n1, hn1⟩ : ∃ x, (S k).nl = x := ⟨_, rfl⟩
      obtain ⟨n2, hn2⟩ : ∃ x, (S k).nw = x := ⟨_, rfl⟩
      rw [hn0] at b0
      rw [hn1] at b1
      rw [hn2] at b2
      have hB := HN.out k hlt
      rw [hn0, hn1, hn2] at hB
      obtain ⟨m0, m1, m2⟩ := hB
      have HS1 : Hid (p0 + n0 = sumN (fun i => (S i).nc) (k + 1) ∧ p1 + n1 = sumN (fun i => (S i).nl) (k + 1) ∧ p2 + n2 = sumN (fun i => (S i).nw) (k + 1)) := by
        refine ⟨?_, ?_, ?_⟩
        · show _ = sumN (fun i => (S i).nc) k + (S k).nc
          rw [HS.out.1, hn0]
        · show _ = sumN (fun i => (S i).nl) k + (S k).nl
          rw [HS.out.2.1, hn1]
        · show _ = sumN (fun i => (S i).nw) k + (S k).nw
          rw [HS.out.2.2, hn2]
      clear hn0 hn1 hn2 HS
      go_wp2
      go_roundw
      case rel => exact ⟨k + 1, p0 + n0, p1 + n1, p2 + n2, by omega, by go_num, by go_num, by go_num, by go_num, HS1, hR⟩
      case measure => simp [intOf]; omega
    · obtain rfl : k = n := by omega
      have HF : Hid (fullG k S ↔ (200 < p0 ∨ 200 < p1 ∨ 200 < p2)) := by unfold Hid fullG; rw [← HS.out.1, ← HS.out.2.1, ← HS.out.2.2]
      clear HS
      by_cases r0 : 200 < p0
      · have d : decide ((200 : Int) < (p0 : Int)) = true := decide_eq_true (by omega)
        have E : Hid (decide (fullG k S) = true) := decide_eq_true (HF.out.2 (Or.inl r0))
        clear r0 HF
        go_wp2
        go_ret
        exact ⟨by rw [E.out]; rfl, hR.out⟩
      have d0 : decide ((200 : Int) < (p0 : Int)) = false := decide_eq_false (by omega)
      by_cases r1 : 200 < p1
      · have d : decide ((200 : Int) < (p1 : Int)) = true := decide_eq_true (by omega)
        have E : Hid (decide (fullG k S) = true) := decide_eq_true (HF.out.2 (Or.inr (Or.inl r1)))
        clear r0 r1 HF
        go_wp2
        go_ret
        exact ⟨by rw [E.out]; rfl, hR.out⟩
      have d1 : decide ((200 : Int) < (p1 : Int)) = false := decide_eq_false (by omega)
      by_cases r2 : 200 < p2
      · have d : decide ((200 : Int) < (p2 : Int)) = true := decide_eq_true (by omega)
        have E : Hid (decide (fullG k S) = true) := decide_eq_true (HF.out.2 (Or.inr (Or.inr r2)))
        clear r0 r1 r2 HF
        go_wp2
        go_ret
        exact ⟨by rw [E.out]; rfl, hR.out⟩
      have d2 : decide ((200 : Int) < (p2 : Int)) = false := decide_eq_false (by omega)
      have E : Hid (decide (fullG k S) = false) := decide_eq_false (fun q => by have := HF.out.1 q; omega)
      clear r0 r1 r2 HF
      go_wp2
      go_ret
      exact ⟨by rw [E.out]; rfl, hR.out⟩
set_option maxRecDepth 100000 in
set_option maxHeartbeats 8000000 in
theorem l7Fault_any (nr : Nat) (F : Nat → Int) (n : Nat) (S : Nat → Sto) (V : Nat → Nat → Value) (vr vs : Value) (b : Nat) (w : World) (h : LiesG w b nr F n S V vr vs) (hr : nr ≤ 9223372036854775807) (hn : n ≤ 9223372036854775807) :
    Calls Tryz.prog 34 #[.pointer (some ⟨b, 0, none⟩)] w fun e w' => e = .returned (.int .i64 (groupsF nr F n S)) ∧ Below w.heap.size w w' := by
  obtain ⟨a0, c0, a1, c1, rfl, rfl⟩ := h.2.form
  have H : Hid (LiesG w b nr F n S V (.slice a0 nr c0) (.slice a1 n c1)) := h
  obtain ⟨p0, p1⟩ := h.1
  clear h
  obtain ⟨f, hf⟩ : ∃ f, rangesF nr F = f := ⟨_, rfl⟩
  have HF : Hid (rangesF nr F = f) := hf
  go_enter Tryz.func34, Tryz.ntmps34
  go_wp2_with fail
  refine (l6Fault_any _ 0 nr F _ H.out.2.1 hr).mono ?_
  rw [hf]
  rintro e w1 ⟨rfl, q1⟩
  have B1 : Hid (Below w.heap.size w w1) := q1
  clear q1 hf p0 p1
  by_cases hz : f = 0
  case neg =>
    have d : (f == 0) = false := beq_eq_false_iff_ne.2 hz
    have d' : (f != 0) = true := bne_iff_ne.2 hz
    have E : Hid (groupsF nr F n S = f) := by unfold Hid groupsF; rw [HF.out, if_pos hz]
    clear hz HF
    go_wp2
    go_ret
    exact ⟨by rw [E.out]; rfl, B1.out⟩
  subst hz
  have G : Hid (Good nr F) := good_of HF.out
  obtain ⟨p0, p1⟩ := (H.out.later B1.out).1
  by_cases hnn : n = nr
  case neg =>
    have d : ((n : Int) != (nr : Int)) = true := bne_iff_ne.2 (by omega)
    have E : Hid (groupsF nr F n S = 1) := by unfold Hid groupsF; rw [HF.out, if_neg (by decide), if_pos hnn]
    clear HF hnn
    go_wp2_with fail
    go_quiet (fail)
    go_wp2
    go_ret
    exact ⟨by rw [E.out]; rfl, below_dr B1.out _⟩
  have HG : Hid (groupsF nr F n S = if scan (oneF F S) n ≠ 0 then scan (oneF F S) n else if fullG n S then 2 else 0) := by unfold Hid groupsF; rw [HF.out, if_neg (by decide), if_neg (fun q => q hnn)]
  have hn6 : n ≤ 6 := by have := G.out.n6; omega
  subst hnn
  clear HF
  go_wp2_with fail
  go_quiet (fail)
  go_wp2_with fail
  clear p0 p1
  go_loopw [4] (fun i wr => ∃ k : Nat, k ≤ n ∧ i = .int .i64 k ∧ Hid (scan (oneF F S) k = 0) ∧ Hid (Below w.heap.size w wr)) (fun i _ => n - (intOf i).toNat)
  case atStart => exact ⟨0, Nat.zero_le _, rfl, rfl, below_dr B1.out _⟩
  case round =>
    obtain ⟨k, hk, rfl, HS, hR⟩ := hrel
    have HL : Hid (LiesG wr b n F n S V (.slice a0 n c0) (.slice a1 n c1)) := H.out.later hR.out
    obtain ⟨p0, p1⟩ := HL.out.1
    by_cases hlt : k < n
    · obtain ⟨g, o, rfl, _, hg, ⟨b0, b1, b2⟩, sk⟩ := HL.out.2.2.at hlt
      obtain ⟨gr, oR, rfl, _, hgr, t0, t1, t2⟩ := HL.out.2.1.at3 hlt
      have LS : Hid (LiesO wr g (o + k * 3) (S k) (V k 0) (V k 1) (V k 2)) := ⟨⟨b0, b1, b2⟩, sk⟩
      clear b0 b1 b2 sk t0 t1 t2
      obtain ⟨fs, hfs⟩ : ∃ x, storeF (S k) = x := ⟨_, rfl⟩
      have HFS : Hid (storeF (S k) = fs) := hfs
      go_wp2_with fail
      refine (l2Fault_anyO (S k) g (o + k * 3) _ _ _ _ LS.out).mono ?_
      rw [hfs]
      rintro e w3 ⟨rfl, q3⟩
      have B3 : Hid (Below w.heap.size w w3) := hR.out.trans (q3.mono hR.out.size)
      have LS3 : Hid (LiesO w3 g (o + k * 3) (S k) (V k 0) (V k 1) (V k 2)) := LS.out.later q3
      clear q3 hfs p0 p1 LS
      by_cases hz : fs = 0
      case neg =>
        have d : (fs == 0) = false := beq_eq_false_iff_ne.2 hz
        have d' : (fs != 0) = true := bne_iff_ne.2 hz
        have E : Hid (groupsF n F n S = fs) := by
          have h1 : oneF F S k = fs := by unfold oneF; rw [HFS.out, if_pos hz]
          have h2 : scan (oneF F S) n = fs := (scan_stop HS.out (by rw [h1]; exact hz) hlt).trans h1
          unfold Hid
          rw [HG.out, h2, if_pos hz]
        clear hz HFS HG HS
        go_wp2
        go_ret
        exact ⟨by rw [E.out]; rfl, B3.out⟩
      subst hz
      obtain ⟨p0, p1⟩ := (H.out.later B3.out).1
      obtain ⟨gr', oR', he, _, _, t0, t1, t2⟩ := (H.out.later B3.out).2.1.at3 hlt
      simp only [Option.some.injEq, Addr.mk.injEq, and_true] at he
      obtain ⟨rfl, rfl⟩ := he
      obtain ⟨fr, hfr⟩ : ∃ x, F (k * 3) = x := ⟨_, rfl⟩
      obtain ⟨to, hto⟩ : ∃ x, F (k * 3 + 1) = x := ⟨_, rfl⟩
      obtain ⟨ep, hep⟩ : ∃ x, F (k * 3 + 2) = x := ⟨_, rfl⟩
      rw [hfr] at t0
      rw [hto] at t1
      rw [hep] at t2
      have HFT : Hid (F (k * 3) = fr ∧ F (k * 3 + 1) = to) := ⟨hfr, hto⟩
      have hbd : Hid (0 ≤ to ∧ to ≤ 200) := by
        have := G.out.bounds k hlt
        rw [hfr, hto] at this
        exact ⟨by omega, by omega⟩
      clear hfr hto hep
      have Z := storeF_zero HFS.out
      have HZ : Hid ((S k).nc ≤ 200 ∧ (S k).nl ≤ 200 ∧ (S k).nw ≤ 200) := Z.1
      clear Z
      go_wp2_with fail
      refine (l7Outside_any (S k) g (o + k * 3) _ _ _ fr to ep _ LS3.out HZ.out hbd.out).mono ?_
      by_cases hst : strayS (S k) fr to
      · rw [decide_eq_true hst]
        rintro e w4 ⟨rfl, q4⟩
        have B4 : Hid (Below w.heap.size w w4) := B3.out.trans (q4.mono B3.out.size)
        have E : Hid (groupsF n F n S = 3) := by
          have h1 : oneF F S k = 3 := by unfold oneF; rw [HFS.out, if_neg (by decide), HFT.out.1, HFT.out.2, if_pos hst]
          have h2 : scan (oneF F S) n = 3 := (scan_stop HS.out (by rw [h1]; decide) hlt).trans h1
          unfold Hid
          rw [HG.out, h2, if_pos (by decide)]
        clear q4 hst HFS HG HS p0 p1 t0 t1 t2
        go_wp2
        go_ret
        exact ⟨by rw [E.out]; rfl, B4.out⟩
      · rw [decide_eq_false hst]
        rintro e w4 ⟨rfl, q4⟩
        have B4 : Hid (Below w.heap.size w w4) := B3.out.trans (q4.mono B3.out.size)
        have HS1 : Hid (scan (oneF F S) (k + 1) = 0) := scan_go HS.out (by unfold oneF; rw [HFS.out, if_neg (by decide), HFT.out.1, HFT.out.2, if_neg hst])
        clear q4 hst HFS HS p0 p1 t0 t1 t2
        go_wp2
        go_roundw
        case rel => exact ⟨k + 1, by omega, by go_num, HS1, B4⟩
        case measure => simp [intOf]; omega
    · obtain rfl : k = n := by omega
      have HSS : Hid (∀ i, i < k → (S i).nc ≤ 200 ∧ (S i).nl ≤ 200 ∧ (S i).nw ≤ 200) := fun i hi => by
        have h1 := scan_zero HS.out i hi
        unfold oneF at h1
        split at h1
        · rename_i q; exact absurd h1 q
        · rename_i q; exact (storeF_zero (Classical.not_not.1 q)).1
      have E : Hid (groupsF k F k S = if fullG k S then 2 else 0) := by unfold Hid; rw [HG.out, HS.out, if_neg (by decide)]
      clear HS HG hlt
      go_wp2_with fail
      refine (l7Full_any k F k S V _ _ b _ HL.out hn6 HSS.out).mono ?_
      by_cases hfu : fullG k S
      · rw [decide_eq_true hfu]
        have E2 : Hid (groupsF k F k S = 2) := by unfold Hid; rw [E.out, if_pos hfu]
        rintro e w4 ⟨rfl, q4⟩
        have B4 : Hid (Below w.heap.size w w4) := hR.out.trans (q4.mono hR.out.size)
        clear q4 hfu E
        go_wp2
        go_ret
        exact ⟨by rw [E2.out]; rfl, B4.out⟩
      · rw [decide_eq_false hfu]
        have E2 : Hid (groupsF k F k S = 0) := by unfold Hid; rw [E.out, if_neg hfu]
        rintro e w4 ⟨rfl, q4⟩
        have B4 : Hid (Below w.heap.size w w4) := hR.out.trans (q4.mono hR.out.size)
        clear q4 hfu E
        go_wp2
        go_ret
        exact ⟨by rw [E2.out]; rfl, B4.out⟩
end Go.Proofs.YtlojbhadodbohaaGreat
