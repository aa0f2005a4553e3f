/-
  Own text. The model's ScanAt: a code, and a new row of pairs.
-/
import Derived.Test.YtjhloobjbbdmcaiGreatDoorStorO
namespace Go.Proofs.YtjhloobjbbdmcaiGreatDoor
open Go.RowKit

theorem Blk2.set1 {x : World} {b : Nat} {a0 a1 : Value} (h : Blk2 x b a0 a1) (u : Value) : Blk2 (x.setCell ⟨b, 1, none⟩ u) b a0 u := by
  obtain ⟨⟨h0, h1⟩, f0, f1⟩ := h
  exact ⟨⟨(World.cell?_setCell_other _ _ _ _ (by simp)).trans h0, World.cell?_setCell_same _ _ _ h1⟩, by simpa using f0, by simpa using f1⟩
theorem Blk2.setFar {x : World} {b : Nat} {a0 a1 : Value} (h : Blk2 x b a0 a1) {p : Addr} (hp : b ≠ p.block) (u : Value) : Blk2 (x.setCell p u) b a0 a1 := h.kept (Below.heap_setCell x p u b hp)
theorem OwnL.far {w : World} {B : Nat} {e : TypeId} {v : Value} {n : Nat} {L : List Int} (h : OwnL w B e v n L) {a : Addr} (ha : a.block < B) (u : Value) : OwnL (w.setCell a u) B e v n L := by
  refine ⟨h.1, ?_⟩
  rcases h.2 with q | ⟨g, cap, cur, rfl, hg, hw, r⟩
  · exact Or.inl q
  · exact Or.inr ⟨g, cap, cur, rfl, hg, (Below.heap_setCell w a u g (by omega)).trans hw, r⟩
/-- What the model's loop stands on: its copy of the store, its result, and what it has found (block ob). -/
def ScanEnv (w : World) (S : Sto) (v0 v1 v2 : Value) (ts fr : Int) (ob : Nat) (v : Value) (m : Nat) (x : World) : Prop :=
  Blk3 x w.heap.size v0 v1 v2 ∧ Blk2 x (w.heap.size + 1) (.int .i64 0) (.slice none 0 0) ∧ Blk2 x ob (.int .i64 0) v ∧ OwnL x (ob + 1) 89 v (scanN S ts fr m) (scanL S ts fr m) ∧ Below w.heap.size w x
theorem ScanEnv.later {w x x' : World} {S : Sto} {v0 v1 v2 : Value} {ts fr : Int} {ob : Nat} {v : Value} {m : Nat} (h : ScanEnv w S v0 v1 v2 ts fr ob v m x) (hb : Below x.heap.size x x') : ScanEnv w S v0 v1 v2 ts fr ob v m x' :=
  ⟨h.1.later hb, h.2.1.later hb, h.2.2.1.later hb, h.2.2.2.1.later hb, h.2.2.2.2.trans (hb.mono h.2.2.2.2.size)⟩
set_option maxRecDepth 100000 in
set_option maxHeartbeats 8000000 in
theorem specScanAt_is (S : Sto) (v0 v1 v2 : Value) (fr to ts c : Int) (n : Nat) (F : Nat → Int) (B : Nat) (w : World) (h : St w B S v0 v1 v2) (hA : ScanAns S fr to ts c n F) :
    Calls Tryz.prog 20 #[.agg #[v0, v1, v2], .int .i64 fr, .int .i64 to, .int .i64 ts] w (ResRow 2 w c n F) := by
  obtain ⟨a0, c0, a1, c1, a2, c2, rfl, rfl, rfl⟩ := h.form
  have HE : Hid (CallEnv w B S (.slice a0 S.nc c0) (.slice a1 S.nl c1) (.slice a2 S.nw c2) (.int .i64 0) (.slice none 0 0) ((w.alloc (.cells #[.slice a0 S.nc c0, .slice a1 S.nl c1, .slice a2 S.nw c2] 32)).alloc (.cells #[.int .i64 0, .slice none 0 0] 48))) := CallEnv.new h _ _ _ _
  have H0 : Hid (St w B S (.slice a0 S.nc c0) (.slice a1 S.nl c1) (.slice a2 S.nw c2)) := h
  clear h
  unfold ResRow
  by_cases hz : storeF S = 0
  case neg =>
    obtain ⟨rfl, rfl⟩ : c = storeF S ∧ n = 0 := by
      rcases hA with ⟨_, h1, h2⟩ | ⟨h, _⟩ | ⟨h, _⟩ | ⟨h, _⟩
      · exact ⟨h1, h2⟩
      all_goals exact absurd h hz
    obtain ⟨f, hf⟩ : ∃ f, storeF S = f := ⟨_, rfl⟩
    have HF : Hid (storeF S = f) := hf
    have hfn : (f == 0) = false := beq_eq_false_iff_ne.2 (by rw [← hf]; exact hz)
    rw [hf]
    clear hz hf hA
    go_enter Tryz.func20, Tryz.ntmps20
    go_wp2_with fail
    refine (l2Fault_any S w.heap.size _ _ _ _ ⟨HE.out.1.1, HE.out.2.2.1.mono (Nat.zero_le _)⟩).mono ?_
    rw [HF.out]
    rintro e w1 ⟨rfl, q1⟩
    have HE : Hid (CallEnv w B S (.slice a0 S.nc c0) (.slice a1 S.nl c1) (.slice a2 S.nw c2) (.int .i64 0) (.slice none 0 0) w1) := HE.out.later q1
    obtain ⟨⟨⟨p0, p1, p2⟩, _⟩, ⟨⟨r0, r1⟩, f0, f1⟩, _⟩ := HE.out
    clear q1
    go_wp2
    exact bodyPost_ret (v := .agg #[.int .i64 f, .slice none 0 0]) (by simp [results, Tryz.results20, go_sem, r0, r1]) rfl ⟨none, 0, rfl, (row_none2 _ _ _).1, (row_none2 _ w.heap.size F).2, (HE.out.2.2.2.setCell (Nat.le_succ _) _).setCell (Nat.le_succ _) _⟩
  have HA : Hid (storeF S = 0) := hz
  by_cases hf : scanFits fr to ts
  case neg =>
    obtain ⟨rfl, rfl⟩ : c = 3 ∧ n = 0 := by
      rcases hA with ⟨h, _⟩ | ⟨_, _, h1, h2⟩ | ⟨_, h, _⟩ | ⟨_, h, _⟩
      · exact absurd hz h
      · exact ⟨h1, h2⟩
      · exact absurd h hf
      · exact absurd h hf
    clear hA hz
    by_cases h1 : 0 ≤ fr ∧ fr ≤ 200
    case neg =>
      have H1 : Hid (decide (0 ≤ fr ∧ fr ≤ 200) = false) := decide_eq_false h1
      clear hf h1
      go_enter Tryz.func20, Tryz.ntmps20
      go_wp2_with fail
      refine (l2Fault_any S w.heap.size _ _ _ _ ⟨HE.out.1.1, HE.out.2.2.1.mono (Nat.zero_le _)⟩).mono ?_
      rw [HA.out]
      rintro e w1 ⟨rfl, q1⟩
      have HE : Hid (CallEnv w B S (.slice a0 S.nc c0) (.slice a1 S.nl c1) (.slice a2 S.nw c2) (.int .i64 0) (.slice none 0 0) w1) := HE.out.later q1
      obtain ⟨⟨⟨p0, p1, p2⟩, _⟩, ⟨⟨r0, r1⟩, f0, f1⟩, _⟩ := HE.out
      clear q1
      go_wp2_with fail
      refine (l1In_is _ _ _ false H1.out _).mono ?_
      rintro e w1' ⟨rfl, rfl⟩
      go_wp2
      exact bodyPost_ret (v := .agg #[.int .i64 3, .slice none 0 0]) (by simp [results, Tryz.results20, go_sem, r0, r1]) rfl ⟨none, 0, rfl, (row_none2 _ _ _).1, (row_none2 _ w.heap.size F).2, (HE.out.2.2.2.setCell (Nat.le_succ _) _).setCell (Nat.le_succ _) _⟩
    have H1 : Hid (decide (0 ≤ fr ∧ fr ≤ 200) = true) := decide_eq_true h1
    by_cases h2 : 0 ≤ to ∧ to ≤ 200
    case neg =>
      have H2 : Hid (decide (0 ≤ to ∧ to ≤ 200) = false) := decide_eq_false h2
      clear hf h1 h2
      go_enter Tryz.func20, Tryz.ntmps20
      go_wp2_with fail
      refine (l2Fault_any S w.heap.size _ _ _ _ ⟨HE.out.1.1, HE.out.2.2.1.mono (Nat.zero_le _)⟩).mono ?_
      rw [HA.out]
      rintro e w1 ⟨rfl, q1⟩
      have HE : Hid (CallEnv w B S (.slice a0 S.nc c0) (.slice a1 S.nl c1) (.slice a2 S.nw c2) (.int .i64 0) (.slice none 0 0) w1) := HE.out.later q1
      obtain ⟨⟨⟨p0, p1, p2⟩, _⟩, ⟨⟨r0, r1⟩, f0, f1⟩, _⟩ := HE.out
      clear q1
      go_wp2_with fail
      refine (l1In_is _ _ _ true H1.out _).mono ?_
      rintro e w1' ⟨rfl, rfl⟩
      go_wp2_with fail
      refine (l1In_is _ _ _ false H2.out _).mono ?_
      rintro e w1' ⟨rfl, rfl⟩
      go_wp2
      exact bodyPost_ret (v := .agg #[.int .i64 3, .slice none 0 0]) (by simp [results, Tryz.results20, go_sem, r0, r1]) rfl ⟨none, 0, rfl, (row_none2 _ _ _).1, (row_none2 _ w.heap.size F).2, (HE.out.2.2.2.setCell (Nat.le_succ _) _).setCell (Nat.le_succ _) _⟩
    have H2 : Hid (decide (0 ≤ to ∧ to ≤ 200) = true) := decide_eq_true h2
    have H3 : Hid (decide (1 ≤ ts ∧ ts ≤ 100000) = false) := decide_eq_false (fun q => hf ⟨h1, h2, q⟩)
    clear hf h1 h2
    go_enter Tryz.func20, Tryz.ntmps20
    go_wp2_with fail
    refine (l2Fault_any S w.heap.size _ _ _ _ ⟨HE.out.1.1, HE.out.2.2.1.mono (Nat.zero_le _)⟩).mono ?_
    rw [HA.out]
    rintro e w1 ⟨rfl, q1⟩
    have HE : Hid (CallEnv w B S (.slice a0 S.nc c0) (.slice a1 S.nl c1) (.slice a2 S.nw c2) (.int .i64 0) (.slice none 0 0) w1) := HE.out.later q1
    obtain ⟨⟨⟨p0, p1, p2⟩, _⟩, ⟨⟨r0, r1⟩, f0, f1⟩, _⟩ := HE.out
    clear q1
    go_wp2_with fail
    refine (l1In_is _ _ _ true H1.out _).mono ?_
    rintro e w1' ⟨rfl, rfl⟩
    go_wp2_with fail
    refine (l1In_is _ _ _ true H2.out _).mono ?_
    rintro e w1' ⟨rfl, rfl⟩
    go_wp2_with fail
    refine (l2Ts_is _ false H3.out _).mono ?_
    rintro e w1' ⟨rfl, rfl⟩
    go_wp2
    exact bodyPost_ret (v := .agg #[.int .i64 3, .slice none 0 0]) (by simp [results, Tryz.results20, go_sem, r0, r1]) rfl ⟨none, 0, rfl, (row_none2 _ _ _).1, (row_none2 _ w.heap.size F).2, (HE.out.2.2.2.setCell (Nat.le_succ _) _).setCell (Nat.le_succ _) _⟩
  have HC : Hid ((anyBlocks S ts fr (to - fr).toNat ∧ c = 7 ∧ n = 0) ∨ (¬ anyBlocks S ts fr (to - fr).toNat ∧ c = 0 ∧ n = scanN S ts fr (to - fr).toNat ∧ F = fun p => (scanL S ts fr (to - fr).toNat).getD p 0)) := by
    rcases hA with ⟨h, _⟩ | ⟨_, h, _⟩ | ⟨_, _, h⟩ | ⟨_, _, h⟩
    · exact absurd hz h
    · exact absurd hf h
    · exact Or.inl h
    · exact Or.inr h
  have Z := storeF_zero hz
  have HZ : Hid (scan (cellF S.c) S.nc = 0 ∧ (S.nc ≤ 200 ∧ S.nl ≤ 200 ∧ S.nw ≤ 200)) := ⟨Z.2.1, Z.1⟩
  have HN : Hid (needs S) := Z.2.2.2.2.1
  have H1 : Hid (decide (0 ≤ fr ∧ fr ≤ 200) = true) := decide_eq_true hf.1
  have H2 : Hid (decide (0 ≤ to ∧ to ≤ 200) = true) := decide_eq_true hf.2.1
  have H3 : Hid (decide (1 ≤ ts ∧ ts ≤ 100000) = true) := decide_eq_true hf.2.2
  have ha := hf.1
  have hb := hf.2.1
  clear hA hz hf Z
  obtain ⟨i0, hi, hz0, hz1, hz2⟩ := info_parts info_Pair
  go_enter Tryz.func20, Tryz.ntmps20
  go_wp2_with fail
  refine (l2Fault_any S w.heap.size _ _ _ _ ⟨HE.out.1.1, HE.out.2.2.1.mono (Nat.zero_le _)⟩).mono ?_
  rw [HA.out]
  rintro e w1 ⟨rfl, q1⟩
  have HE : Hid (CallEnv w B S (.slice a0 S.nc c0) (.slice a1 S.nl c1) (.slice a2 S.nw c2) (.int .i64 0) (.slice none 0 0) w1) := HE.out.later q1
  obtain ⟨⟨⟨p0, p1, p2⟩, _⟩, ⟨⟨r0, r1⟩, f0, f1⟩, _⟩ := HE.out
  clear q1
  go_wp2_with fail
  refine (l1In_is _ _ _ true H1.out _).mono ?_
  rintro e w1' ⟨rfl, rfl⟩
  go_wp2_with fail
  refine (l1In_is _ _ _ true H2.out _).mono ?_
  rintro e w1' ⟨rfl, rfl⟩
  go_wp2_with fail
  refine (l2Ts_is _ true H3.out _).mono ?_
  rintro e w2 ⟨rfl, rfl⟩
  have HS0 : Hid (ScanEnv w S (.slice a0 S.nc c0) (.slice a1 S.nl c1) (.slice a2 S.nw c2) ts fr w2.heap.size (.slice none 0 0) 0 (w2.alloc (.cells #[.int .i64 0, .slice none 0 0] 48))) := ⟨HE.out.1.alloc _, HE.out.2.1.alloc _, Blk2.new w2 _ _ _, OwnL.nil _ _ _, HE.out.2.2.2.alloc HE.out.2.2.2.size _⟩
  have zb : Hid (w.heap.size + 1 < w2.heap.size) := HE.out.2.1.lt
  clear p0 p1 p2 r0 r1 f0 f1 HE
  go_wp2
  go_loopw [11] (fun k wr => ∃ (m : Nat) (ao : Option Addr) (cp : Nat), k = .int .i64 (fr + m) ∧ m ≤ (to - fr).toNat ∧ Hid (ScanEnv w S (.slice a0 S.nc c0) (.slice a1 S.nl c1) (.slice a2 S.nw c2) ts fr w2.heap.size (.slice ao (scanN S ts fr m) cp) m wr) ∧ Hid (∀ q, q < m → ¬ blocks S.l S.nl (fr + q) ts)) (fun k _ => (to - intOf k).toNat)
  case atStart => exact ⟨0, none, 0, by go_num, by omega, HS0, fun q hq => absurd hq (Nat.not_lt_zero q)⟩
  case round =>
    clear HS0
    obtain ⟨m, ao, cp, rfl, hm, HS, HQ⟩ := hrel
    have HLI : Hid (Lies wr w.heap.size S (.slice a0 S.nc c0) (.slice a1 S.nl c1) (.slice a2 S.nw c2)) := ⟨HS.out.1.1, (H0.out.later HS.out.2.2.2.2).mono (Nat.zero_le _)⟩
    by_cases hlt : fr + m < to
    case neg =>
      have em : (to - fr).toNat = m := by omega
      rcases HC.out with ⟨⟨q, hq, hk⟩, _⟩ | ⟨_, rfl, rfl, rfl⟩
      · exact absurd hk (HQ.out q (by omega))
      have hS2 := HS.out
      rw [← em] at hS2
      have hR := (hS2.2.2.2.1.own (scanL_length _ _ _ _)).row
      have HR : Hid (Row wr (w.heap.size + 2) 2 (scanN S ts fr (to - fr).toNat) (fun p => (scanL S ts fr (to - fr).toNat).getD p 0) (.slice ao (scanN S ts fr (to - fr).toNat) cp) ∧ Free wr (scanN S ts fr (to - fr).toNat * 2) (.slice ao (scanN S ts fr (to - fr).toNat) cp)) := ⟨hR.1.mono (by have := zb.out; omega), hR.2⟩
      obtain ⟨⟨r0, r1⟩, f0, f1⟩ := hS2.2.1
      obtain ⟨⟨s0, s1⟩, _⟩ := hS2.2.2.1
      have hne : ¬ w2.heap.size = w.heap.size + 1 := by have := zb.out; omega
      have HB : Hid (Below w.heap.size w wr) := hS2.2.2.2.2
      clear hR HS HQ HC em hS2
      go_wp2
      exact bodyPost_ret (v := .agg #[.int .i64 0, .slice ao (scanN S ts fr (to - fr).toNat) cp]) (by simp [results, Tryz.results20, go_sem, r0, r1]) rfl ⟨ao, cp, rfl, ((HR.out.1.far (Or.inl (by simp)) _).far (Or.inl (by simp)) _).mono (by omega), (HR.out.2.far _ _).far _ _, (HB.out.setCell (Nat.le_succ _) _).setCell (Nat.le_succ _) _⟩
    obtain ⟨key, hkey⟩ : ∃ key, fr + (m : Int) = key := ⟨_, rfl⟩
    have hk0 : 0 ≤ key := by omega
    have hk1 : key ≤ 200 := by omega
    by_cases hbk : blocks S.l S.nl key ts
    · obtain ⟨rfl, rfl⟩ : c = 7 ∧ n = 0 := by
        rcases HC.out with ⟨_, h1, h2⟩ | ⟨h, _⟩
        · exact ⟨h1, h2⟩
        · exact absurd ⟨m, by omega, by rw [hkey]; exact hbk⟩ h
      have HK : Hid (blocks S.l S.nl key ts) := hbk
      obtain ⟨⟨r0, r1⟩, f0, f1⟩ := HS.out.2.1
      have HB : Hid (Below w.heap.size w wr) := HS.out.2.2.2.2
      rw [hkey]
      rw [hkey] at hlt
      clear hbk HQ HC HS
      go_wp2_with fail
      refine (l3Blocked_is S w.heap.size _ _ _ key ts _ HLI.out HZ.out.2.2.1 true ⟨fun _ => HK.out, fun _ => rfl⟩).mono ?_
      rintro e w3 ⟨rfl, rfl⟩
      go_wp2
      exact bodyPost_ret (v := .agg #[.int .i64 7, .slice none 0 0]) (by simp [results, Tryz.results20, go_sem, r0, r1]) rfl ⟨none, 0, rfl, (row_none2 _ _ _).1, (row_none2 _ w.heap.size F).2, (HB.out.setCell (Nat.le_succ _) _).setCell (Nat.le_succ _) _⟩
    have HNB : Hid (∀ q, q < m + 1 → ¬ blocks S.l S.nl (fr + q) ts) := all_next HQ.out (by rw [hkey]; exact hbk)
    have HK : Hid (¬ blocks S.l S.nl key ts) := hbk
    have hwrap : IntKind.i64.wrap (key + 1) = key + 1 := by
      simp [IntKind.wrap, IntKind.bits, IntKind.signed]
      omega
    rcases reads_or HN.out key ts with hno | ⟨i, j, hr⟩
    · have hrv := rv_none hno
      have E : Hid (ScanEnv w S (.slice a0 S.nc c0) (.slice a1 S.nl c1) (.slice a2 S.nw c2) ts fr w2.heap.size (.slice ao (scanN S ts fr (m + 1)) cp) (m + 1) wr) := by
        have h1 := scanL_no (a := fr) (m := m) (by rw [hkey]; exact hrv)
        have h2 := HS.out
        unfold Hid ScanEnv
        rw [h1.1, h1.2]
        exact h2
      have HNo : Hid (∀ i, lastW S.k S.nw key ts i → S.k (i * 4 + 3) ≠ 1) := hno
      rw [hkey]
      rw [hkey] at hlt
      clear hbk HS HQ hno hrv
      go_wp2_with fail
      refine (l3Blocked_is S w.heap.size _ _ _ key ts _ HLI.out HZ.out.2.2.1 false ⟨fun q => absurd q Bool.false_ne_true, fun q => absurd q HK.out⟩).mono ?_
      rintro e w3 ⟨rfl, rfl⟩
      go_wp2_with fail
      refine (l3Value_none S w.heap.size _ _ _ key ts _ HLI.out HZ.out.2.2.2 HNo.out).mono ?_
      rintro e w4 ⟨rfl, q1⟩
      have E1 : Hid (ScanEnv w S (.slice a0 S.nc c0) (.slice a1 S.nl c1) (.slice a2 S.nw c2) ts fr w2.heap.size (.slice ao (scanN S ts fr (m + 1)) cp) (m + 1) w4) := E.out.later q1
      clear q1 E
      go_wp2
      go_roundw
      case rel => exact ⟨m + 1, ao, cp, by rw [← hkey]; go_num, by omega, E1, HNB⟩
      case measure => simp [intOf]; omega
    · have hrv := rv_some HZ.out.1 hr
      obtain ⟨v, hv⟩ : ∃ v, S.c (j * 3 + 2) = v := ⟨_, rfl⟩
      rw [hv] at hrv
      have HV : Hid (S.c (j * 3 + 2) = v) := hv
      have HL : Hid (scanL S ts fr (m + 1) = scanL S ts fr m ++ [key, v] ∧ scanN S ts fr (m + 1) = scanN S ts fr m + 1) := by
        have := scanL_yes (a := fr) (m := m) (by rw [hkey]; exact hrv)
        rw [hkey] at this
        exact this
      have HR : Hid (reads S key ts i j) := hr
      have hnle := scanN_le S ts fr m
      obtain ⟨nn, hnn⟩ : ∃ nn, scanN S ts fr m = nn := ⟨_, rfl⟩
      rw [hnn] at hnle HS
      have HNN : Hid (scanN S ts fr m = nn) := hnn
      rw [hkey]
      rw [hkey] at hlt
      clear hbk HQ hr hrv hv hnn
      go_wp2_with fail
      refine (l3Blocked_is S w.heap.size _ _ _ key ts _ HLI.out HZ.out.2.2.1 false ⟨fun q => absurd q Bool.false_ne_true, fun q => absurd q HK.out⟩).mono ?_
      rintro e w3 ⟨rfl, rfl⟩
      go_wp2_with fail
      refine (l3Value_some S w.heap.size _ _ _ key ts i j _ HLI.out HZ.out.2.1 HZ.out.2.2.2 HZ.out.1 HR.out).mono ?_
      rw [HV.out]
      rintro e w4 ⟨rfl, q1⟩
      have E4 : Hid (ScanEnv w S (.slice a0 S.nc c0) (.slice a1 S.nl c1) (.slice a2 S.nw c2) ts fr w2.heap.size (.slice ao nn cp) m w4) := HS.out.later q1
      have s1 := E4.out.2.2.1.1.2
      have zs := E4.out.2.2.1.lt
      have hown := E4.out.2.2.2.1.later (below_alloc w4 (.cells #[.int .i64 key, .int .i64 v] 89))
      rw [HNN.out] at hown
      clear q1 HS
      go_wp2_with (at_builtin; refine wpList_append_own _ rfl _ _ 46 rfl (w2.heap.size + 1) 89 i0 (.agg #[.int .i64 0, .int .i64 0]) 2 16 Tryz.underlying46 hi hz0 hz1 hz2 rfl (by decide) _ _ _ rfl hown ⟨_, 0, none⟩ 1 1 [.int .i64 key, .int .i64 v] rfl rfl ?c1 ?c2 ?c3 ?c4 ?c5 ?_)
      case c1 =>
        intro q u hq
        match q, hq with
        | 0, hq => simp at hq; subst hq; simp [Addr.add]
        | 1, hq => simp at hq; subst hq; simp [Addr.add]
      case c2 =>
        intro u hu
        simp at hu
        rcases hu with rfl | rfl <;> rfl
      case c3 => unfold maxLen; omega
      case c4 => omega
      case c5 => simp; omega
      intro v' w5 ho hg5 _
      have EA := E4.out.later (below_alloc w4 (.cells #[.int .i64 key, .int .i64 v] 89))
      have hrow : ∀ bb, (Value.slice ao nn cp).ownBlock = some bb → w2.heap.size + 1 ≤ bb := by
        intro bb hbb
        rcases hown.2 with ⟨e, _⟩ | ⟨gg, _, _, e, hge, _⟩
        · rw [e] at hbb; simp [Value.ownBlock] at hbb
        · rw [e] at hbb; simp [Value.ownBlock] at hbb; omega
      have hkeep : ∀ k, k < (w4.alloc (.cells #[.int .i64 key, .int .i64 v] 89)).heap.size → k ≤ w2.heap.size → w5.heap[k]? = (w4.alloc (.cells #[.int .i64 key, .int .i64 v] 89)).heap[k]? := fun k h1 h2 => hg5.block k h1 (fun e => by have := hrow k e.symm; omega)
      have F1 : Hid (Blk3 w5 w.heap.size (.slice a0 S.nc c0) (.slice a1 S.nl c1) (.slice a2 S.nw c2) ∧ Blk2 w5 (w.heap.size + 1) (.int .i64 0) (.slice none 0 0) ∧ Blk2 w5 w2.heap.size (.int .i64 0) (.slice ao nn cp)) := ⟨EA.1.kept (hkeep _ EA.1.lt (by have := zb.out; omega)), EA.2.1.kept (hkeep _ EA.2.1.lt (by have := zb.out; omega)), EA.2.2.1.kept (hkeep _ EA.2.2.1.lt (Nat.le_refl _))⟩
      have F2 : Hid (OwnL w5 (w2.heap.size + 1) 89 v' (scanN S ts fr (m + 1)) (scanL S ts fr (m + 1))) := by
        unfold Hid OwnL
        rw [HL.out.1, HL.out.2, HNN.out, List.map_append]
        exact ho
      have F3 : Hid (Below w.heap.size w w5) := below_grownBy EA.2.2.2.2 EA.2.2.2.2.size (fun bb hbb => by have := hrow bb hbb; have := zb.out; omega) hg5
      obtain ⟨ao', cp', rfl⟩ := F2.out.form
      have HS5 : Hid (ScanEnv w S (.slice a0 S.nc c0) (.slice a1 S.nl c1) (.slice a2 S.nw c2) ts fr w2.heap.size (.slice ao' (scanN S ts fr (m + 1)) cp') (m + 1) (w5.setCell ⟨w2.heap.size, 1, none⟩ (.slice ao' (scanN S ts fr (m + 1)) cp'))) :=
        ⟨F1.out.1.setFar (by simp; have := zb.out; omega) _, F1.out.2.1.setFar (by simp; have := zb.out; omega) _, F1.out.2.2.set1 _, F2.out.far (by simp) _, F3.out.setCell (by simp; have := zb.out; omega) _⟩
      have t1 := F1.out.2.2.1.2
      have g1 := F1.out.2.2.2.2
      have zt := F1.out.2.2.lt
      clear ho hg5 hown EA hrow hkeep F1 F2 F3 E4 s1 zs
      go_wp2
      go_roundw
      case rel => exact ⟨m + 1, ao', cp', by rw [← hkey]; go_num, by omega, HS5, HNB⟩
      case measure => simp [intOf]; omega
end Go.Proofs.YtjhloobjbbdmcaiGreatDoor
