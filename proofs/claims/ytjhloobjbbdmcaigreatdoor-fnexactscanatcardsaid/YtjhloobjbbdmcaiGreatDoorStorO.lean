/-
  Own text. What ScanAt answers, the program's and the model's: a code, and a new row of pairs.
-/
import Derived.Test.YtjhloobjbbdmcaiGreatDoorStorN
namespace Go.Proofs.YtjhloobjbbdmcaiGreatDoor
open Go.RowKit

def scanFits (fr to ts : Int) : Prop := (0 ≤ fr ∧ fr ≤ 200) ∧ (0 ≤ to ∧ to ≤ 200) ∧ isTs ts
def ScanAns (S : Sto) (fr to ts c : Int) (n : Nat) (F : Nat → Int) : Prop :=
  (storeF S ≠ 0 ∧ c = storeF S ∧ n = 0) ∨ (storeF S = 0 ∧ ¬ scanFits fr to ts ∧ c = 3 ∧ n = 0) ∨ (storeF S = 0 ∧ scanFits fr to ts ∧ anyBlocks S ts fr (to - fr).toNat ∧ c = 7 ∧ n = 0) ∨
  (storeF S = 0 ∧ scanFits fr to ts ∧ ¬ anyBlocks S ts fr (to - fr).toNat ∧ c = 0 ∧ n = scanN S ts fr (to - fr).toNat ∧ F = fun p => (scanL S ts fr (to - fr).toNat).getD p 0)
theorem ScanAns.get (S : Sto) (fr to ts : Int) : ∃ c n F, n ≤ 1000 ∧ ScanAns S fr to ts c n F := by
  by_cases hz : storeF S = 0
  case neg => exact ⟨_, 0, fun _ => 0, by omega, Or.inl ⟨hz, rfl, rfl⟩⟩
  by_cases hf : scanFits fr to ts
  case neg => exact ⟨_, 0, fun _ => 0, by omega, Or.inr (Or.inl ⟨hz, hf, rfl, rfl⟩)⟩
  by_cases hb : anyBlocks S ts fr (to - fr).toNat
  · exact ⟨_, 0, fun _ => 0, by omega, Or.inr (Or.inr (Or.inl ⟨hz, hf, hb, rfl, rfl⟩))⟩
  · exact ⟨_, _, _, by have := scanN_le S ts fr (to - fr).toNat; have := hf.1; have := hf.2.1; omega, Or.inr (Or.inr (Or.inr ⟨hz, hf, hb, rfl, rfl, rfl⟩))⟩
theorem row_none2 (w : World) (B : Nat) (F : Nat → Int) : Row w B 2 0 F (.slice none 0 0) ∧ Free w (0 * 2) (.slice none 0 0) := ⟨⟨_, _, rfl, fun q => absurd q (Nat.lt_irrefl 0)⟩, by rw [Nat.zero_mul]; exact Free.of0 _ _⟩
set_option maxRecDepth 100000 in
set_option maxHeartbeats 4000000 in
theorem implScanAt_is (S : Sto) (v0 v1 v2 : Value) (fr to ts c : Int) (n : Nat) (F : Nat → Int) (B : Nat) (w : World) (h : St w B S v0 v1 v2) (hA : ScanAns S fr to ts c n F) (hL : Laid w) :
    Calls Tryz.prog 21 #[.agg #[v0, v1, v2], .int .i64 fr, .int .i64 to, .int .i64 ts] w (ResRow 2 w c n F) := by
  obtain ⟨a0, c0, a1, c1, a2, c2, rfl, rfl, rfl⟩ := h.form
  have HE : Hid (CallEnv w B S (.slice a0 S.nc c0) (.slice a1 S.nl c1) (.slice a2 S.nw c2) (.int .i64 0) (.slice none 0 0) ((w.alloc (.cells #[.slice a0 S.nc c0, .slice a1 S.nl c1, .slice a2 S.nw c2] 32)).alloc (.cells #[.int .i64 0, .slice none 0 0] 48))) := CallEnv.new h _ _ _ _
  have HL : Hid (Laid w) := hL
  clear h hL
  unfold ResRow
  rcases hA with ⟨hz, rfl, rfl⟩ | ⟨hz, ht, rfl, rfl⟩ | ⟨hz, ht, hb, rfl, rfl⟩ | ⟨hz, ht, hb, rfl, rfl, rfl⟩
  · obtain ⟨f, hf⟩ : ∃ f, storeF S = f := ⟨_, rfl⟩
    have HF : Hid (storeF S = f) := hf
    have hfn : (f == 0) = false := beq_eq_false_iff_ne.2 (by rw [← hf]; exact hz)
    rw [hf]
    clear hz hf
    go_enter Tryz.func21, Tryz.ntmps21
    go_wp2_with fail
    refine (implFault_any S _ _ _ B _ HE.out.2.2.1).mono ?_
    rw [HF.out]
    rintro e w1 ⟨rfl, q1⟩
    have HE : Hid (CallEnv w B S (.slice a0 S.nc c0) (.slice a1 S.nl c1) (.slice a2 S.nw c2) (.int .i64 0) (.slice none 0 0) w1) := HE.out.later q1
    obtain ⟨⟨⟨p0, p1, p2⟩, _⟩, ⟨⟨r0, r1⟩, f0, f1⟩, _⟩ := HE.out
    clear q1
    go_wp2
    exact bodyPost_ret (v := .agg #[.int .i64 f, .slice none 0 0]) (by simp [results, Tryz.results21, go_sem, r0, r1]) rfl ⟨none, 0, rfl, (row_none2 _ _ _).1, (row_none2 _ w.heap.size F).2, (HE.out.2.2.2.setCell (Nat.le_succ _) _).setCell (Nat.le_succ _) _⟩
  · have HA : Hid (storeF S = 0) := hz
    by_cases hbf : (0 ≤ fr ∧ fr ≤ 200) ∧ (0 ≤ to ∧ to ≤ 200)
    · have HT : Hid (decide (1 ≤ ts ∧ ts ≤ 100000) = false) := decide_eq_false (fun q => ht ⟨hbf.1, hbf.2, q⟩)
      have HF : Hid ((0 ≤ fr ∧ fr ≤ 200) ∧ (0 ≤ to ∧ to ≤ 200)) := hbf
      clear hz ht hbf
      go_enter Tryz.func21, Tryz.ntmps21
      go_wp2_with fail
      refine (implFault_any S _ _ _ B _ HE.out.2.2.1).mono ?_
      rw [HA.out]
      rintro e w1 ⟨rfl, q1⟩
      have HE : Hid (CallEnv w B S (.slice a0 S.nc c0) (.slice a1 S.nl c1) (.slice a2 S.nw c2) (.int .i64 0) (.slice none 0 0) w1) := HE.out.later q1
      obtain ⟨⟨⟨p0, p1, p2⟩, _⟩, ⟨⟨r0, r1⟩, f0, f1⟩, _⟩ := HE.out
      clear q1
      go_wp2_with fail
      refine (boundsFit_yes _ _ _ HF.out.1.1 HF.out.1.2 HF.out.2.1 HF.out.2.2).mono ?_
      rintro e w1' ⟨rfl, rfl⟩
      go_wp2_with fail
      refine (isTime_is _ false HT.out _).mono ?_
      rintro e w1' ⟨rfl, rfl⟩
      go_wp2
      exact bodyPost_ret (v := .agg #[.int .i64 3, .slice none 0 0]) (by simp [results, Tryz.results21, go_sem, r0, r1]) rfl ⟨none, 0, rfl, (row_none2 _ _ _).1, (row_none2 _ w.heap.size F).2, (HE.out.2.2.2.setCell (Nat.le_succ _) _).setCell (Nat.le_succ _) _⟩
    · have HF : Hid ((fr < 0 ∨ 200 < fr) ∨ (to < 0 ∨ 200 < to)) := by unfold Hid; omega
      clear hz ht hbf
      go_enter Tryz.func21, Tryz.ntmps21
      go_wp2_with fail
      refine (implFault_any S _ _ _ B _ HE.out.2.2.1).mono ?_
      rw [HA.out]
      rintro e w1 ⟨rfl, q1⟩
      have HE : Hid (CallEnv w B S (.slice a0 S.nc c0) (.slice a1 S.nl c1) (.slice a2 S.nw c2) (.int .i64 0) (.slice none 0 0) w1) := HE.out.later q1
      obtain ⟨⟨⟨p0, p1, p2⟩, _⟩, ⟨⟨r0, r1⟩, f0, f1⟩, _⟩ := HE.out
      clear q1
      go_wp2_with fail
      refine (boundsFit_no _ _ _ HF.out).mono ?_
      rintro e w1' ⟨rfl, rfl⟩
      go_wp2
      exact bodyPost_ret (v := .agg #[.int .i64 3, .slice none 0 0]) (by simp [results, Tryz.results21, go_sem, r0, r1]) rfl ⟨none, 0, rfl, (row_none2 _ _ _).1, (row_none2 _ w.heap.size F).2, (HE.out.2.2.2.setCell (Nat.le_succ _) _).setCell (Nat.le_succ _) _⟩
  · have HA : Hid (storeF S = 0) := hz
    have Z := storeF_zero hz
    have HZ : Hid (scan (cellF S.c) S.nc = 0 ∧ (S.nc ≤ 200 ∧ S.nl ≤ 200 ∧ S.nw ≤ 200)) := ⟨Z.2.1, Z.1⟩
    have HT : Hid (scanFits fr to ts) := ht
    have HB : Hid (anyBlocks S ts fr (to - fr).toNat) := hb
    clear hz ht hb Z
    go_enter Tryz.func21, Tryz.ntmps21
    go_wp2_with fail
    refine (implFault_any S _ _ _ B _ HE.out.2.2.1).mono ?_
    rw [HA.out]
    rintro e w1 ⟨rfl, q1⟩
    have HE : Hid (CallEnv w B S (.slice a0 S.nc c0) (.slice a1 S.nl c1) (.slice a2 S.nw c2) (.int .i64 0) (.slice none 0 0) w1) := HE.out.later q1
    obtain ⟨⟨⟨p0, p1, p2⟩, _⟩, ⟨⟨r0, r1⟩, f0, f1⟩, _⟩ := HE.out
    clear q1
    go_wp2_with fail
    refine (boundsFit_yes _ _ _ HT.out.1.1 HT.out.1.2 HT.out.2.1.1 HT.out.2.1.2).mono ?_
    rintro e w1' ⟨rfl, rfl⟩
    go_wp2_with fail
    refine (isTime_is _ true (decide_eq_true HT.out.2.2) _).mono ?_
    rintro e w1' ⟨rfl, rfl⟩
    go_wp2_with fail
    refine (columnsOf_any S B _ _ _ _ HE.out.2.2.1 HZ.out.2.1 HZ.out.2.2.1 HZ.out.2.2.2 HZ.out.1).mono ?_
    rintro e w2 ⟨b, g, u1, u2, rfl, HC, q1⟩
    clear p0 p1 p2 r0 r1 f0 f1
    have HE : Hid (CallEnv w B S (.slice a0 S.nc c0) (.slice a1 S.nl c1) (.slice a2 S.nw c2) (.int .i64 0) (.slice none 0 0) w2) := HE.out.later q1
    obtain ⟨⟨⟨p0, p1, p2⟩, _⟩, ⟨⟨r0, r1⟩, f0, f1⟩, _⟩ := HE.out
    clear q1
    have zb : w.heap.size + 1 < w2.heap.size := HE.out.2.1.lt
    go_wp2_with fail
    refine (scan_any S _ b g u1 u2 fr to ts _ HC HA.out HT.out.1.1 HT.out.1.2 HT.out.2.1.1 HT.out.2.1.2).mono ?_
    rintro e w3 ⟨v, er, rfl, hT, q1⟩
    obtain ⟨rfl, rfl⟩ : v = .slice none 0 0 ∧ er = .iface 125 (.agg #[.int .i64 1]) := by
      rcases hT with ⟨_, h1, h2⟩ | ⟨h1, _⟩
      · exact ⟨h1, h2⟩
      · exact absurd HB.out h1
    clear p0 p1 p2 r0 r1 f0 f1
    have HE : Hid (CallEnv w B S (.slice a0 S.nc c0) (.slice a1 S.nl c1) (.slice a2 S.nw c2) (.int .i64 0) (.slice none 0 0) w3) := HE.out.later q1
    obtain ⟨⟨⟨p0, p1, p2⟩, _⟩, ⟨⟨r0, r1⟩, f0, f1⟩, _⟩ := HE.out
    clear q1
    clear HC hT
    go_wp2_with fail
    refine (refusalCode_hit 1 7 (Or.inr (Or.inl ⟨rfl, rfl⟩)) _ (HL.out.later HE.out.2.2.2)).mono ?_
    rintro e w4 ⟨rfl, q1⟩
    clear p0 p1 p2 r0 r1 f0 f1
    have HE : Hid (CallEnv w B S (.slice a0 S.nc c0) (.slice a1 S.nl c1) (.slice a2 S.nw c2) (.int .i64 0) (.slice none 0 0) w4) := HE.out.later q1
    obtain ⟨⟨⟨p0, p1, p2⟩, _⟩, ⟨⟨r0, r1⟩, f0, f1⟩, _⟩ := HE.out
    clear q1
    go_wp2
    exact bodyPost_ret (v := .agg #[.int .i64 7, .slice none 0 0]) (by simp [results, Tryz.results21, go_sem, r0, r1]) rfl ⟨none, 0, rfl, (row_none2 _ _ _).1, (row_none2 _ w.heap.size F).2, (HE.out.2.2.2.setCell (Nat.le_succ _) _).setCell (Nat.le_succ _) _⟩
  · have HA : Hid (storeF S = 0) := hz
    have Z := storeF_zero hz
    have HZ : Hid (scan (cellF S.c) S.nc = 0 ∧ (S.nc ≤ 200 ∧ S.nl ≤ 200 ∧ S.nw ≤ 200)) := ⟨Z.2.1, Z.1⟩
    have HT : Hid (scanFits fr to ts) := ht
    have HB : Hid (¬ anyBlocks S ts fr (to - fr).toNat) := hb
    clear hz ht hb Z
    go_enter Tryz.func21, Tryz.ntmps21
    go_wp2_with fail
    refine (implFault_any S _ _ _ B _ HE.out.2.2.1).mono ?_
    rw [HA.out]
    rintro e w1 ⟨rfl, q1⟩
    have HE : Hid (CallEnv w B S (.slice a0 S.nc c0) (.slice a1 S.nl c1) (.slice a2 S.nw c2) (.int .i64 0) (.slice none 0 0) w1) := HE.out.later q1
    obtain ⟨⟨⟨p0, p1, p2⟩, _⟩, ⟨⟨r0, r1⟩, f0, f1⟩, _⟩ := HE.out
    clear q1
    go_wp2_with fail
    refine (boundsFit_yes _ _ _ HT.out.1.1 HT.out.1.2 HT.out.2.1.1 HT.out.2.1.2).mono ?_
    rintro e w1' ⟨rfl, rfl⟩
    go_wp2_with fail
    refine (isTime_is _ true (decide_eq_true HT.out.2.2) _).mono ?_
    rintro e w1' ⟨rfl, rfl⟩
    go_wp2_with fail
    refine (columnsOf_any S B _ _ _ _ HE.out.2.2.1 HZ.out.2.1 HZ.out.2.2.1 HZ.out.2.2.2 HZ.out.1).mono ?_
    rintro e w2 ⟨b, g, u1, u2, rfl, HC, q1⟩
    clear p0 p1 p2 r0 r1 f0 f1
    have HE : Hid (CallEnv w B S (.slice a0 S.nc c0) (.slice a1 S.nl c1) (.slice a2 S.nw c2) (.int .i64 0) (.slice none 0 0) w2) := HE.out.later q1
    obtain ⟨⟨⟨p0, p1, p2⟩, _⟩, ⟨⟨r0, r1⟩, f0, f1⟩, _⟩ := HE.out
    clear q1
    have zb : w.heap.size + 1 < w2.heap.size := HE.out.2.1.lt
    go_wp2_with fail
    refine (scan_any S _ b g u1 u2 fr to ts _ HC HA.out HT.out.1.1 HT.out.1.2 HT.out.2.1.1 HT.out.2.1.2).mono ?_
    rintro e w3 ⟨v, er, rfl, hT, q1⟩
    obtain ⟨rfl, hO⟩ : er = .nilIface ∧ OwnL w3 w2.heap.size 89 v (scanN S ts fr (to - fr).toNat) (scanL S ts fr (to - fr).toNat) := by
      rcases hT with ⟨h1, _⟩ | ⟨_, h1, h2⟩
      · exact absurd h1 HB.out
      · exact ⟨h1, h2⟩
    obtain ⟨ao, cp, rfl⟩ := hO.form
    have hR := (hO.own (scanL_length _ _ _ _)).row
    clear p0 p1 p2 r0 r1 f0 f1
    have HE : Hid (CallEnv w B S (.slice a0 S.nc c0) (.slice a1 S.nl c1) (.slice a2 S.nw c2) (.int .i64 0) (.slice none 0 0) w3) := HE.out.later q1
    obtain ⟨⟨⟨p0, p1, p2⟩, _⟩, ⟨⟨r0, r1⟩, f0, f1⟩, _⟩ := HE.out
    clear q1
    clear HC hT
    go_wp2_with fail
    refine (refusalCode_nil _).mono ?_
    rintro e w4 ⟨rfl, q1⟩
    have HO : Hid (Row w4 (w.heap.size + 2) 2 (scanN S ts fr (to - fr).toNat) (fun p => (scanL S ts fr (to - fr).toNat).getD p 0) (.slice ao (scanN S ts fr (to - fr).toNat) cp) ∧ Free w4 (scanN S ts fr (to - fr).toNat * 2) (.slice ao (scanN S ts fr (to - fr).toNat) cp)) := ⟨(hR.1.later q1).mono (by omega), hR.2.ofRow hR.1 q1⟩
    clear p0 p1 p2 r0 r1 f0 f1
    have HE : Hid (CallEnv w B S (.slice a0 S.nc c0) (.slice a1 S.nl c1) (.slice a2 S.nw c2) (.int .i64 0) (.slice none 0 0) w4) := HE.out.later q1
    obtain ⟨⟨⟨p0, p1, p2⟩, _⟩, ⟨⟨r0, r1⟩, f0, f1⟩, _⟩ := HE.out
    clear q1
    clear hO hR
    go_wp2
    exact bodyPost_ret (v := .agg #[.int .i64 0, .slice ao (scanN S ts fr (to - fr).toNat) cp]) (by simp [results, Tryz.results21, go_sem, r0, r1]) rfl ⟨ao, cp, rfl, ((HO.out.1.far (Or.inl (by simp)) _).far (Or.inl (by simp)) _).mono (by omega), (HO.out.2.far _ _).far _ _, (HE.out.2.2.2.setCell (Nat.le_succ _) _).setCell (Nat.le_succ _) _⟩
end Go.Proofs.YtjhloobjbbdmcaiGreatDoor
