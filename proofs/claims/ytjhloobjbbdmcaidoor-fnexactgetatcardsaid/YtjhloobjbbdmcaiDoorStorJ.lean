/-
  Own text. What the model's GetAt answers; and that two equal answers are equal.
-/
import Derived.Test.YtjhloobjbbdmcaiDoorStorI
namespace Go.Proofs.YtjhloobjbbdmcaiDoor
open Go.RowKit

set_option maxRecDepth 100000 in
set_option maxHeartbeats 4000000 in
theorem specGetAt_is (S : Sto) (v0 v1 v2 : Value) (key ts c : Int) (has : Bool) (v : Int) (B : Nat) (w : World) (h : St w B S v0 v1 v2) (hA : GetAns S key ts c has v) :
    Calls Tryd.prog 5 #[.agg #[v0, v1, v2], .int .i64 key, .int .i64 ts] w fun e w' => e = .returned (.agg #[.int .i64 c, .bool has, .int .i64 v]) ∧ Below w.heap.size w w' := by
  obtain ⟨a0, c0, a1, c1, a2, c2, rfl, rfl, rfl⟩ := h.form
  have HE : Hid (GetCall w B S (.slice a0 S.nc c0) (.slice a1 S.nl c1) (.slice a2 S.nw c2) (.int .i64 0) (.bool false) (.int .i64 0) ((w.alloc (.cells #[.slice a0 S.nc c0, .slice a1 S.nl c1, .slice a2 S.nw c2] 35)).alloc (.cells #[.int .i64 0, .bool false, .int .i64 0] 29))) := GetCall.new h _ _ _ _ _
  clear h
  rcases hA with ⟨hz, rfl, rfl, rfl⟩ | ⟨hz, ht, rfl, rfl, rfl⟩ | ⟨hz, ht, hb, rfl, rfl, rfl⟩ | ⟨hz, ht, hb, hl, rfl, rfl, rfl⟩ | ⟨hz, ht, hb, i, j, hr, rfl, rfl, rfl⟩
  · obtain ⟨f, hf⟩ : ∃ f, askF S key = f := ⟨_, rfl⟩
    have HF : Hid (askF S key = f) := hf
    have hfn : (f == 0) = false := beq_eq_false_iff_ne.2 (by rw [← hf]; exact hz)
    rw [hf]
    clear hz hf
    go_enter Tryd.func5, Tryd.ntmps5
    go_wp2_with fail
    refine (asked_any S w.heap.size _ _ _ key _ ⟨HE.out.1.1, HE.out.2.2.1.mono (Nat.zero_le _)⟩).mono ?_
    rw [HF.out]
    rintro e w1 ⟨rfl, q1⟩
    have HE : Hid (GetCall w B S (.slice a0 S.nc c0) (.slice a1 S.nl c1) (.slice a2 S.nw c2) (.int .i64 0) (.bool false) (.int .i64 0) w1) := HE.out.later q1
    obtain ⟨⟨⟨p0, p1, p2⟩, _⟩, ⟨⟨r0, r1, r2⟩, f0, f1, f2⟩, _⟩ := HE.out
    clear q1
    go_wp2
    exact bodyPost_ret (v := .agg #[.int .i64 f, .bool false, .int .i64 0]) (by simp [results, Tryd.results5, go_sem, r0, r1, r2]) rfl ⟨rfl, ((HE.out.2.2.2.setCell (Nat.le_succ _) _).setCell (Nat.le_succ _) _).setCell (Nat.le_succ _) _⟩
  · have HA : Hid (askF S key = 0) := hz
    have HT : Hid (decide (1 ≤ ts ∧ ts ≤ 100000) = false) := decide_eq_false ht
    clear hz ht
    go_enter Tryd.func5, Tryd.ntmps5
    go_wp2_with fail
    refine (asked_any S w.heap.size _ _ _ key _ ⟨HE.out.1.1, HE.out.2.2.1.mono (Nat.zero_le _)⟩).mono ?_
    rw [HA.out]
    rintro e w1 ⟨rfl, q1⟩
    have HE : Hid (GetCall w B S (.slice a0 S.nc c0) (.slice a1 S.nl c1) (.slice a2 S.nw c2) (.int .i64 0) (.bool false) (.int .i64 0) w1) := HE.out.later q1
    obtain ⟨⟨⟨p0, p1, p2⟩, _⟩, ⟨⟨r0, r1, r2⟩, f0, f1, f2⟩, _⟩ := HE.out
    clear q1
    go_wp2_with fail
    refine (l2Ts_is _ false HT.out _).mono ?_
    rintro e w1' ⟨rfl, rfl⟩
    go_wp2
    exact bodyPost_ret (v := .agg #[.int .i64 3, .bool false, .int .i64 0]) (by simp [results, Tryd.results5, go_sem, r0, r1, r2]) rfl ⟨rfl, ((HE.out.2.2.2.setCell (Nat.le_succ _) _).setCell (Nat.le_succ _) _).setCell (Nat.le_succ _) _⟩
  · have HA : Hid (askF S key = 0) := hz
    have HZ : Hid (S.nl ≤ 200) := (storeF_zero (askF_zero hz).1).1.2.1
    have HT : Hid (decide (1 ≤ ts ∧ ts ≤ 100000) = true) := decide_eq_true ht
    have HB : Hid (blocks S.l S.nl key ts) := hb
    clear hz ht hb
    go_enter Tryd.func5, Tryd.ntmps5
    go_wp2_with fail
    refine (asked_any S w.heap.size _ _ _ key _ ⟨HE.out.1.1, HE.out.2.2.1.mono (Nat.zero_le _)⟩).mono ?_
    rw [HA.out]
    rintro e w1 ⟨rfl, q1⟩
    have HE : Hid (GetCall w B S (.slice a0 S.nc c0) (.slice a1 S.nl c1) (.slice a2 S.nw c2) (.int .i64 0) (.bool false) (.int .i64 0) w1) := HE.out.later q1
    obtain ⟨⟨⟨p0, p1, p2⟩, _⟩, ⟨⟨r0, r1, r2⟩, f0, f1, f2⟩, _⟩ := HE.out
    clear q1
    go_wp2_with fail
    refine (l2Ts_is _ true HT.out _).mono ?_
    rintro e w1' ⟨rfl, rfl⟩
    go_wp2_with fail
    refine (l3Blocked_is S w.heap.size _ _ _ key ts _ ⟨HE.out.1.1, HE.out.2.2.1.mono (Nat.zero_le _)⟩ HZ.out true ⟨fun _ => HB.out, fun _ => rfl⟩).mono ?_
    rintro e w2 ⟨rfl, rfl⟩
    go_wp2
    exact bodyPost_ret (v := .agg #[.int .i64 7, .bool false, .int .i64 0]) (by simp [results, Tryd.results5, go_sem, r0, r1, r2]) rfl ⟨rfl, ((HE.out.2.2.2.setCell (Nat.le_succ _) _).setCell (Nat.le_succ _) _).setCell (Nat.le_succ _) _⟩
  · have HA : Hid (askF S key = 0) := hz
    have HZ : Hid (S.nl ≤ 200 ∧ S.nw ≤ 200) := (storeF_zero (askF_zero hz).1).1.2
    have HT : Hid (decide (1 ≤ ts ∧ ts ≤ 100000) = true) := decide_eq_true ht
    have HB : Hid (¬ blocks S.l S.nl key ts ∧ ∀ i, lastW S.k S.nw key ts i → S.k (i * 4 + 3) ≠ 1) := ⟨hb, hl⟩
    clear hz ht hb hl
    go_enter Tryd.func5, Tryd.ntmps5
    go_wp2_with fail
    refine (asked_any S w.heap.size _ _ _ key _ ⟨HE.out.1.1, HE.out.2.2.1.mono (Nat.zero_le _)⟩).mono ?_
    rw [HA.out]
    rintro e w1 ⟨rfl, q1⟩
    have HE : Hid (GetCall w B S (.slice a0 S.nc c0) (.slice a1 S.nl c1) (.slice a2 S.nw c2) (.int .i64 0) (.bool false) (.int .i64 0) w1) := HE.out.later q1
    obtain ⟨⟨⟨p0, p1, p2⟩, _⟩, ⟨⟨r0, r1, r2⟩, f0, f1, f2⟩, _⟩ := HE.out
    clear q1
    go_wp2_with fail
    refine (l2Ts_is _ true HT.out _).mono ?_
    rintro e w1' ⟨rfl, rfl⟩
    go_wp2_with fail
    refine (l3Blocked_is S w.heap.size _ _ _ key ts _ ⟨HE.out.1.1, HE.out.2.2.1.mono (Nat.zero_le _)⟩ HZ.out.1 false ⟨fun q => absurd q Bool.false_ne_true, fun q => absurd q HB.out.1⟩).mono ?_
    rintro e w2 ⟨rfl, rfl⟩
    go_wp2_with fail
    refine (l3Value_none S w.heap.size _ _ _ key ts _ ⟨HE.out.1.1, HE.out.2.2.1.mono (Nat.zero_le _)⟩ HZ.out.2 HB.out.2).mono ?_
    rintro e w3 ⟨rfl, q1⟩
    clear p0 p1 p2 r0 r1 r2 f0 f1 f2
    have HE : Hid (GetCall w B S (.slice a0 S.nc c0) (.slice a1 S.nl c1) (.slice a2 S.nw c2) (.int .i64 0) (.bool false) (.int .i64 0) w3) := HE.out.later q1
    obtain ⟨⟨⟨p0, p1, p2⟩, _⟩, ⟨⟨r0, r1, r2⟩, f0, f1, f2⟩, _⟩ := HE.out
    clear q1
    go_wp2
    exact bodyPost_ret (v := .agg #[.int .i64 0, .bool false, .int .i64 0]) (by simp [results, Tryd.results5, go_sem, r0, r1, r2]) rfl ⟨rfl, ((HE.out.2.2.2.setCell (Nat.le_succ _) _).setCell (Nat.le_succ _) _).setCell (Nat.le_succ _) _⟩
  · have HA : Hid (askF S key = 0) := hz
    have Z := storeF_zero (askF_zero hz).1
    have HZ : Hid (scan (cellF S.c) S.nc = 0 ∧ (S.nc ≤ 200 ∧ S.nl ≤ 200 ∧ S.nw ≤ 200)) := ⟨Z.2.1, Z.1⟩
    have HT : Hid (decide (1 ≤ ts ∧ ts ≤ 100000) = true) := decide_eq_true ht
    have HB : Hid (¬ blocks S.l S.nl key ts) := hb
    have HR : Hid (reads S key ts i j) := hr
    obtain ⟨v, hv⟩ : ∃ v, S.c (j * 3 + 2) = v := ⟨_, rfl⟩
    have HV : Hid (S.c (j * 3 + 2) = v) := hv
    rw [hv]
    clear hz ht hb hr Z hv
    go_enter Tryd.func5, Tryd.ntmps5
    go_wp2_with fail
    refine (asked_any S w.heap.size _ _ _ key _ ⟨HE.out.1.1, HE.out.2.2.1.mono (Nat.zero_le _)⟩).mono ?_
    rw [HA.out]
    rintro e w1 ⟨rfl, q1⟩
    have HE : Hid (GetCall w B S (.slice a0 S.nc c0) (.slice a1 S.nl c1) (.slice a2 S.nw c2) (.int .i64 0) (.bool false) (.int .i64 0) w1) := HE.out.later q1
    obtain ⟨⟨⟨p0, p1, p2⟩, _⟩, ⟨⟨r0, r1, r2⟩, f0, f1, f2⟩, _⟩ := HE.out
    clear q1
    go_wp2_with fail
    refine (l2Ts_is _ true HT.out _).mono ?_
    rintro e w1' ⟨rfl, rfl⟩
    go_wp2_with fail
    refine (l3Blocked_is S w.heap.size _ _ _ key ts _ ⟨HE.out.1.1, HE.out.2.2.1.mono (Nat.zero_le _)⟩ HZ.out.2.2.1 false ⟨fun q => absurd q Bool.false_ne_true, fun q => absurd q HB.out⟩).mono ?_
    rintro e w2 ⟨rfl, rfl⟩
    go_wp2_with fail
    refine (l3Value_some S w.heap.size _ _ _ key ts i j _ ⟨HE.out.1.1, HE.out.2.2.1.mono (Nat.zero_le _)⟩ HZ.out.2.1 HZ.out.2.2.2 HZ.out.1 HR.out).mono ?_
    rw [HV.out]
    rintro e w3 ⟨rfl, q1⟩
    clear p0 p1 p2 r0 r1 r2 f0 f1 f2
    have HE : Hid (GetCall w B S (.slice a0 S.nc c0) (.slice a1 S.nl c1) (.slice a2 S.nw c2) (.int .i64 0) (.bool false) (.int .i64 0) w3) := HE.out.later q1
    obtain ⟨⟨⟨p0, p1, p2⟩, _⟩, ⟨⟨r0, r1, r2⟩, f0, f1, f2⟩, _⟩ := HE.out
    clear q1
    go_wp2
    exact bodyPost_ret (v := .agg #[.int .i64 0, .bool true, .int .i64 v]) (by simp [results, Tryd.results5, go_sem, r0, r1, r2]) rfl ⟨rfl, ((HE.out.2.2.2.setCell (Nat.le_succ _) _).setCell (Nat.le_succ _) _).setCell (Nat.le_succ _) _⟩
theorem eqGetR_same (c v : Int) (has : Bool) (w : World) :
    Calls Tryd.prog 8 #[.agg #[.int .i64 c, .bool has, .int .i64 v], .agg #[.int .i64 c, .bool has, .int .i64 v]] w fun e w' => e = .returned (.bool true) ∧ Below w.heap.size w w' := by
  go_enter Tryd.func8, Tryd.ntmps8
  go_wp2
  go_ret
  exact ⟨rfl, (below_alloc _ _).alloc (by simp) _⟩
end Go.Proofs.YtjhloobjbbdmcaiDoor
