/-
 Own text, merged of StorF, StorC, BckK, BckH, StorH, StorI, ComK, ColsS, ColsT, ComL, DrcA, ComW.
-/
import Derived.Test.YtiadbiiiikhfaaaGreatDoorPk10
namespace Go.Proofs.YtiadbiiiikhfaaaGreatDoor
open Go.RowKit

theorem row_one4 (w : World) (x0 x1 x2 x3 : Int) (t : TypeId) (F : Nat → Int) (h0 : F 0 = x0) (h1 : F 1 = x1) (h2 : F 2 = x2) (h3 : F 3 = x3) :
  Row (w.alloc (.cells #[.int .i64 x0, .int .i64 x1, .int .i64 x2, .int .i64 x3] t)) w.heap.size 4 1 F (.slice (some ⟨w.heap.size, 0, none⟩) 1 1) ∧ Free (w.alloc (.cells #[.int .i64 x0, .int .i64 x1, .int .i64 x2, .int .i64 x3] t)) (1 * 4) (.slice (some ⟨w.heap.size, 0, none⟩) 1 1) := by
 refine ⟨⟨_, _, rfl, fun _ => ⟨_, _, rfl, Nat.le_refl _, by simp, fun p hp => ?_⟩⟩, ?_⟩
 ·rw [Nat.zero_add]
  match p, hp with
  | 0, _ => rw [h0]; exact World.cell?_alloc_mark w _ _ _ 0
  | 1, _ => rw [h1]; exact World.cell?_alloc_mark w _ _ _ 1
  | 2, _ => rw [h2]; exact World.cell?_alloc_mark w _ _ _ 2
  | 3, _ => rw [h3]; exact World.cell?_alloc_mark w _ _ _ 3
 ·intro g o n c hv p hp
  simp only [Value.slice.injEq, Option.some.injEq, Addr.mk.injEq] at hv
  obtain ⟨⟨rfl, rfl, _⟩, _, _⟩ := hv
  simp
theorem row_none4 (w : World) (B : Nat) (F : Nat → Int) : Row w B 4 0 F (.slice none 0 0) ∧ Free w (0 * 4) (.slice none 0 0) := ⟨⟨_, _, rfl, fun q => absurd q (Nat.lt_irrefl 0)⟩, by rw [Nat.zero_mul]; exact Free.of0 _ _⟩
set_option maxHeartbeats 1000000 in
theorem writeAlone_no (F : Nat → Int) (x0 x1 x2 x3 : Int) (w : World) :
  Calls Tryz.prog 63 #[.agg #[.int .i64 x0, .int .i64 x1, .int .i64 x2, .int .i64 x3], .bool false] w (ResRow 4 w 4 0 F) := by
 unfold ResRow
 go_enter Tryz.func63, Tryz.ntmps63
 go_wp2
 exact bodyPost_ret (v := .agg #[.int .i64 4, .slice none 0 0]) (by simp [results, Tryz.results63, go_sem]) rfl ⟨none, 0, rfl, (row_none4 _ _ _).1, (row_none4 _ w.heap.size F).2, (below_alloc _ _).alloc (by simp) _⟩
set_option maxHeartbeats 1000000 in
theorem writeAlone_yes (F : Nat → Int) (x0 x1 x2 x3 : Int) (h0 : F 0 = x0) (h1 : F 1 = x1) (h2 : F 2 = x2) (h3 : F 3 = x3) (w : World) :
  Calls Tryz.prog 63 #[.agg #[.int .i64 x0, .int .i64 x1, .int .i64 x2, .int .i64 x3], .bool true] w (ResRow 4 w 0 1 F) := by
 have HH : Hid (F 0 = x0 ∧ F 1 = x1 ∧ F 2 = x2 ∧ F 3 = x3) := ⟨h0, h1, h2, h3⟩
 clear h0 h1 h2 h3
 unfold ResRow
 go_enter Tryz.func63, Tryz.ntmps63
 go_wp2
 have hO := row_one4 ((w.alloc (.cells #[.int .i64 x0, .int .i64 x1, .int .i64 x2, .int .i64 x3] 55)).alloc (.cells #[.int .i64 0, .slice (some ⟨w.heap.size + 1 + 1, 0, none⟩) 1 1] 52)) x0 x1 x2 x3 55 F HH.out.1 HH.out.2.1 HH.out.2.2.1 HH.out.2.2.2
 simp only [World.size_alloc] at hO
 exact bodyPost_ret (v := .agg #[.int .i64 0, .slice (some ⟨w.heap.size + 1 + 1, 0, none⟩) 1 1]) (by simp [results, Tryz.results63, go_sem]) rfl ⟨_, _, rfl, hO.1.mono (by omega), hO.2, ((below_alloc _ _).alloc (by simp) _).alloc (by simp; omega) _⟩
/-- What is answered of one write: a code, and a row of it or of none. -/
def WAns (S : Sto) (key : Int) (q : Nat → Prop) (c : Int) (n : Nat) (F : Nat → Int) : Prop :=
 (askF S key ≠ 0 ∧ c = askF S key ∧ n = 0) ∨ (askF S key = 0 ∧ (∀ i, ¬ q i) ∧ c = 4 ∧ n = 0) ∨ (askF S key = 0 ∧ ∃ i, i < S.nw ∧ q i ∧ c = 0 ∧ n = 1 ∧ F = fun p => S.k (i * 4 + p))
theorem WAns.get (S : Sto) (key : Int) (q : Nat → Prop) (hq : ∀ i, q i → i < S.nw) : ∃ c n F, n ≤ 1000 ∧ WAns S key q c n F := by
 by_cases hz : askF S key = 0
 ·by_cases he : ∃ i, q i
  ·obtain ⟨i, hi⟩ := he
   exact ⟨0, 1, _, by omega, Or.inr (Or.inr ⟨hz, i, hq i hi, hi, rfl, rfl, rfl⟩)⟩
  ·exact ⟨4, 0, fun _ => 0, by omega, Or.inr (Or.inl ⟨hz, fun i hi => he ⟨i, hi⟩, rfl, rfl⟩)⟩
 ·exact ⟨_, 0, fun _ => 0, by omega, Or.inl ⟨hz, rfl, rfl⟩⟩
def WriteOfAns (S : Sto) (key start c : Int) (n : Nat) (F : Nat → Int) : Prop := WAns S key (firstW S.k S.nw key start) c n F
def LastWriteAns (S : Sto) (key ts c : Int) (n : Nat) (F : Nat → Int) : Prop := WAns S key (lastW S.k S.nw key ts) c n F
theorem WriteOfAns.get (S : Sto) (key start : Int) : ∃ c n F, n ≤ 1000 ∧ WriteOfAns S key start c n F := WAns.get S key _ (fun _ h => h.1)
theorem LastWriteAns.get (S : Sto) (key ts : Int) : ∃ c n F, n ≤ 1000 ∧ LastWriteAns S key ts c n F := WAns.get S key _ (fun _ h => h.1)
set_option maxRecDepth 100000 in
set_option maxHeartbeats 4000000 in
theorem implWriteOf_is (S : Sto) (v0 v1 v2 : Value) (key start c : Int) (n : Nat) (F : Nat → Int) (B : Nat) (w : World) (h : St w B S v0 v1 v2) (hA : WriteOfAns S key start c n F) :
  Calls Tryz.prog 20 #[.agg #[v0, v1, v2], .int .i64 key, .int .i64 start] w (ResRow 4 w c n F) := by
 obtain ⟨a0, c0, a1, c1, a2, c2, rfl, rfl, rfl⟩ := h.form
 have HE : Hid (CallEnv w B S (.slice a0 S.nc c0) (.slice a1 S.nl c1) (.slice a2 S.nw c2) (.int .i64 0) (.slice none 0 0) ((w.alloc (.cells #[.slice a0 S.nc c0, .slice a1 S.nl c1, .slice a2 S.nw c2] 28)).alloc (.cells #[.int .i64 0, .slice none 0 0] 52))) := CallEnv.new h _ _ _ _
 clear h
 unfold ResRow
 rcases hA with ⟨hz, rfl, rfl⟩ | ⟨hz, hno, rfl, rfl⟩ | ⟨hz, i, hi, hp, rfl, rfl, rfl⟩
 ·obtain ⟨f, hf⟩ : ∃ f, askF S key = f := ⟨_, rfl⟩
  have HF : Hid (askF S key = f) := hf
  have hfn : (f == 0) = false := beq_eq_false_iff_ne.2 (by rw [← hf]; exact hz)
  rw [hf]
  clear hz hf
  go_enter Tryz.func20, Tryz.ntmps20
  go_wp2_with fail
  refine (askFault_any S _ _ _ key B _ HE.out.2.2.1).mono ?_
  rw [HF.out]
  rintro e w1 ⟨rfl, q1⟩
  have HE : Hid (CallEnv w B S (.slice a0 S.nc c0) (.slice a1 S.nl c1) (.slice a2 S.nw c2) (.int .i64 0) (.slice none 0 0) w1) := HE.out.later q1
  obtain ⟨⟨⟨p0, p1, p2⟩, _⟩, ⟨⟨r0, r1⟩, f0, f1⟩, _⟩ := HE.out
  clear q1
  go_wp2
  refine bodyPost_ret (v := .agg #[.int .i64 f, .slice none 0 0]) (by simp [results, Tryz.results20, go_sem, r0, r1]) rfl ⟨none, 0, rfl, (row_none4 _ _ _).1, (row_none4 _ w.heap.size F).2, (HE.out.2.2.2.setCell (Nat.le_succ _) _).setCell (Nat.le_succ _) _⟩
 ·have Z := storeF_zero (askF_zero hz).1
  have HZ : Hid (scan (cellF S.c) S.nc = 0 ∧ (S.nc ≤ 200 ∧ S.nl ≤ 200 ∧ S.nw ≤ 200)) := ⟨Z.2.1, Z.1⟩
  have HK : Hid (∀ i, i < S.nw → 1 ≤ S.k (i * 4 + 3)) := fun i hi => (writeF_zero (scan_zero Z.2.2.2.1 i hi)).2.2.2.2.2.1
  have HA : Hid (askF S key = 0) := hz
  have HN : Hid (∀ i, ¬ firstW S.k S.nw key start i) := hno
  clear Z hz hno
  go_enter Tryz.func20, Tryz.ntmps20
  go_wp2_with fail
  refine (askFault_any S _ _ _ key B _ HE.out.2.2.1).mono ?_
  rw [HA.out]
  rintro e w1 ⟨rfl, q1⟩
  have HE : Hid (CallEnv w B S (.slice a0 S.nc c0) (.slice a1 S.nl c1) (.slice a2 S.nw c2) (.int .i64 0) (.slice none 0 0) w1) := HE.out.later q1
  obtain ⟨⟨⟨p0, p1, p2⟩, _⟩, ⟨⟨r0, r1⟩, f0, f1⟩, _⟩ := HE.out
  clear q1
  go_wp2_with fail
  refine (columnsOf_any S B _ _ _ _ HE.out.2.2.1 HZ.out.2.1 HZ.out.2.2.1 HZ.out.2.2.2 HZ.out.1).mono ?_
  rintro e w2 ⟨b, g, u1, u2, rfl, HC, q1⟩
  clear p0 p1 p2 r0 r1 f0 f1
  have HE : Hid (CallEnv w B S (.slice a0 S.nc c0) (.slice a1 S.nl c1) (.slice a2 S.nw c2) (.int .i64 0) (.slice none 0 0) w2) := HE.out.later q1
  clear q1
  go_wp2_with fail
  refine (writeOf_any _ b _ _ _ _ S.nw S.k g u1 u2 key start _ HC HZ.out.2.2.2 ).mono ?_
  rintro e w3 ⟨v, rfl, hT, q1⟩
  obtain rfl : v = .tuple #[.agg #[.int .i64 0, .int .i64 0, .int .i64 0, .int .i64 0], .bool false] := by
   rcases hT with ⟨i, hi, _⟩ | ⟨_, e⟩
   ·exact absurd hi (HN.out i)
   ·exact e
  have HE : Hid (CallEnv w B S (.slice a0 S.nc c0) (.slice a1 S.nl c1) (.slice a2 S.nw c2) (.int .i64 0) (.slice none 0 0) w3) := HE.out.later q1
  clear q1 hT HC
  go_wp2_with fail
  refine (writeAlone_no F 0 0 0 0 _).mono ?_
  rintro e w4 ⟨ao, cp, rfl, ro, fo, q1⟩
  have HO : Hid (Row w4 (w.heap.size + 2) 4 0 F (.slice ao 0 cp) ∧ Free w4 (0 * 4) (.slice ao 0 cp)) := ⟨ro.mono (by have := HE.out.2.1.lt; omega), fo⟩
  have HE : Hid (CallEnv w B S (.slice a0 S.nc c0) (.slice a1 S.nl c1) (.slice a2 S.nw c2) (.int .i64 0) (.slice none 0 0) w4) := HE.out.later q1
  have z9 := HE.out.2.1.lt
  obtain ⟨_, ⟨⟨r0, r1⟩, f0, f1⟩, _⟩ := HE.out
  clear q1 ro fo
  go_wp2
  refine bodyPost_ret (v := .agg #[.int .i64 4, .slice ao 0 cp]) (by simp [results, Tryz.results20, go_sem, r0, r1]) rfl ⟨ao, cp, rfl, ((HO.out.1.far (Or.inl (by simp)) _).far (Or.inl (by simp)) _).mono (by omega), (HO.out.2.far _ _).far _ _, (HE.out.2.2.2.setCell (Nat.le_succ _) _).setCell (Nat.le_succ _) _⟩
 ·have Z := storeF_zero (askF_zero hz).1
  have HZ : Hid (scan (cellF S.c) S.nc = 0 ∧ (S.nc ≤ 200 ∧ S.nl ≤ 200 ∧ S.nw ≤ 200)) := ⟨Z.2.1, Z.1⟩
  have HK : Hid (∀ i, i < S.nw → 1 ≤ S.k (i * 4 + 3)) := fun i hi => (writeF_zero (scan_zero Z.2.2.2.1 i hi)).2.2.2.2.2.1
  have HA : Hid (askF S key = 0) := hz
  have HN : Hid (firstW S.k S.nw key start i) := hp
  clear Z hz hp
  obtain ⟨n0, N0⟩ : ∃ x, S.k (i * 4) = x := ⟨_, rfl⟩
  obtain ⟨n1, N1⟩ : ∃ x, S.k (i * 4 + 1) = x := ⟨_, rfl⟩
  obtain ⟨n2, N2⟩ : ∃ x, S.k (i * 4 + 2) = x := ⟨_, rfl⟩
  obtain ⟨n3, N3⟩ : ∃ x, S.k (i * 4 + 3) = x := ⟨_, rfl⟩
  have NN : Hid (S.k (i * 4) = n0 ∧ S.k (i * 4 + 1) = n1 ∧ S.k (i * 4 + 2) = n2 ∧ S.k (i * 4 + 3) = n3) := ⟨N0, N1, N2, N3⟩
  clear N0 N1 N2 N3
  go_enter Tryz.func20, Tryz.ntmps20
  go_wp2_with fail
  refine (askFault_any S _ _ _ key B _ HE.out.2.2.1).mono ?_
  rw [HA.out]
  rintro e w1 ⟨rfl, q1⟩
  have HE : Hid (CallEnv w B S (.slice a0 S.nc c0) (.slice a1 S.nl c1) (.slice a2 S.nw c2) (.int .i64 0) (.slice none 0 0) w1) := HE.out.later q1
  obtain ⟨⟨⟨p0, p1, p2⟩, _⟩, ⟨⟨r0, r1⟩, f0, f1⟩, _⟩ := HE.out
  clear q1
  go_wp2_with fail
  refine (columnsOf_any S B _ _ _ _ HE.out.2.2.1 HZ.out.2.1 HZ.out.2.2.1 HZ.out.2.2.2 HZ.out.1).mono ?_
  rintro e w2 ⟨b, g, u1, u2, rfl, HC, q1⟩
  clear p0 p1 p2 r0 r1 f0 f1
  have HE : Hid (CallEnv w B S (.slice a0 S.nc c0) (.slice a1 S.nl c1) (.slice a2 S.nw c2) (.int .i64 0) (.slice none 0 0) w2) := HE.out.later q1
  clear q1
  go_wp2_with fail
  refine (writeOf_any _ b _ _ _ _ S.nw S.k g u1 u2 key start _ HC HZ.out.2.2.2 ).mono ?_
  rintro e w3 ⟨v, rfl, hT, q1⟩
  obtain rfl : v = .tuple #[.agg #[.int .i64 n0, .int .i64 n1, .int .i64 n2, .int .i64 n3], .bool true] := by
   rcases hT with ⟨j, hj, e⟩ | ⟨h, _⟩
   ·obtain rfl := hj.one HN.out
    rw [e, NN.out.1, NN.out.2.1, NN.out.2.2.1, NN.out.2.2.2]
   ·exact absurd HN.out (h i)
  have HE : Hid (CallEnv w B S (.slice a0 S.nc c0) (.slice a1 S.nl c1) (.slice a2 S.nw c2) (.int .i64 0) (.slice none 0 0) w3) := HE.out.later q1
  clear q1 hT HC
  go_wp2_with fail
  refine (writeAlone_yes (fun p => S.k (i * 4 + p)) n0 n1 n2 n3 NN.out.1 NN.out.2.1 NN.out.2.2.1 NN.out.2.2.2 _).mono ?_
  rintro e w4 ⟨ao, cp, rfl, ro, fo, q1⟩
  have HO : Hid (Row w4 (w.heap.size + 2) 4 1 (fun p => S.k (i * 4 + p)) (.slice ao 1 cp) ∧ Free w4 (1 * 4) (.slice ao 1 cp)) := ⟨ro.mono (by have := HE.out.2.1.lt; omega), fo⟩
  have HE : Hid (CallEnv w B S (.slice a0 S.nc c0) (.slice a1 S.nl c1) (.slice a2 S.nw c2) (.int .i64 0) (.slice none 0 0) w4) := HE.out.later q1
  have z9 := HE.out.2.1.lt
  obtain ⟨_, ⟨⟨r0, r1⟩, f0, f1⟩, _⟩ := HE.out
  clear q1 ro fo
  go_wp2
  refine bodyPost_ret (v := .agg #[.int .i64 0, .slice ao 1 cp]) (by simp [results, Tryz.results20, go_sem, r0, r1]) rfl ⟨ao, cp, rfl, ((HO.out.1.far (Or.inl (by simp)) _).far (Or.inl (by simp)) _).mono (by omega), (HO.out.2.far _ _).far _ _, (HE.out.2.2.2.setCell (Nat.le_succ _) _).setCell (Nat.le_succ _) _⟩
set_option maxRecDepth 100000 in
set_option maxHeartbeats 4000000 in
theorem implLastWrite_is (S : Sto) (v0 v1 v2 : Value) (key ts c : Int) (n : Nat) (F : Nat → Int) (B : Nat) (w : World) (h : St w B S v0 v1 v2) (hA : LastWriteAns S key ts c n F) :
  Calls Tryz.prog 22 #[.agg #[v0, v1, v2], .int .i64 key, .int .i64 ts] w (ResRow 4 w c n F) := by
 obtain ⟨a0, c0, a1, c1, a2, c2, rfl, rfl, rfl⟩ := h.form
 have HE : Hid (CallEnv w B S (.slice a0 S.nc c0) (.slice a1 S.nl c1) (.slice a2 S.nw c2) (.int .i64 0) (.slice none 0 0) ((w.alloc (.cells #[.slice a0 S.nc c0, .slice a1 S.nl c1, .slice a2 S.nw c2] 28)).alloc (.cells #[.int .i64 0, .slice none 0 0] 52))) := CallEnv.new h _ _ _ _
 clear h
 unfold ResRow
 rcases hA with ⟨hz, rfl, rfl⟩ | ⟨hz, hno, rfl, rfl⟩ | ⟨hz, i, hi, hp, rfl, rfl, rfl⟩
 ·obtain ⟨f, hf⟩ : ∃ f, askF S key = f := ⟨_, rfl⟩
  have HF : Hid (askF S key = f) := hf
  have hfn : (f == 0) = false := beq_eq_false_iff_ne.2 (by rw [← hf]; exact hz)
  rw [hf]
  clear hz hf
  go_enter Tryz.func22, Tryz.ntmps22
  go_wp2_with fail
  refine (askFault_any S _ _ _ key B _ HE.out.2.2.1).mono ?_
  rw [HF.out]
  rintro e w1 ⟨rfl, q1⟩
  have HE : Hid (CallEnv w B S (.slice a0 S.nc c0) (.slice a1 S.nl c1) (.slice a2 S.nw c2) (.int .i64 0) (.slice none 0 0) w1) := HE.out.later q1
  obtain ⟨⟨⟨p0, p1, p2⟩, _⟩, ⟨⟨r0, r1⟩, f0, f1⟩, _⟩ := HE.out
  clear q1
  go_wp2
  refine bodyPost_ret (v := .agg #[.int .i64 f, .slice none 0 0]) (by simp [results, Tryz.results22, go_sem, r0, r1]) rfl ⟨none, 0, rfl, (row_none4 _ _ _).1, (row_none4 _ w.heap.size F).2, (HE.out.2.2.2.setCell (Nat.le_succ _) _).setCell (Nat.le_succ _) _⟩
 ·have Z := storeF_zero (askF_zero hz).1
  have HZ : Hid (scan (cellF S.c) S.nc = 0 ∧ (S.nc ≤ 200 ∧ S.nl ≤ 200 ∧ S.nw ≤ 200)) := ⟨Z.2.1, Z.1⟩
  have HK : Hid (∀ i, i < S.nw → 1 ≤ S.k (i * 4 + 3)) := fun i hi => (writeF_zero (scan_zero Z.2.2.2.1 i hi)).2.2.2.2.2.1
  have HA : Hid (askF S key = 0) := hz
  have HN : Hid (∀ i, ¬ lastW S.k S.nw key ts i) := hno
  clear Z hz hno
  go_enter Tryz.func22, Tryz.ntmps22
  go_wp2_with fail
  refine (askFault_any S _ _ _ key B _ HE.out.2.2.1).mono ?_
  rw [HA.out]
  rintro e w1 ⟨rfl, q1⟩
  have HE : Hid (CallEnv w B S (.slice a0 S.nc c0) (.slice a1 S.nl c1) (.slice a2 S.nw c2) (.int .i64 0) (.slice none 0 0) w1) := HE.out.later q1
  obtain ⟨⟨⟨p0, p1, p2⟩, _⟩, ⟨⟨r0, r1⟩, f0, f1⟩, _⟩ := HE.out
  clear q1
  go_wp2_with fail
  refine (columnsOf_any S B _ _ _ _ HE.out.2.2.1 HZ.out.2.1 HZ.out.2.2.1 HZ.out.2.2.2 HZ.out.1).mono ?_
  rintro e w2 ⟨b, g, u1, u2, rfl, HC, q1⟩
  clear p0 p1 p2 r0 r1 f0 f1
  have HE : Hid (CallEnv w B S (.slice a0 S.nc c0) (.slice a1 S.nl c1) (.slice a2 S.nw c2) (.int .i64 0) (.slice none 0 0) w2) := HE.out.later q1
  clear q1
  go_wp2_with fail
  refine (lastWrite_any _ b _ _ _ _ S.nw S.k g u1 u2 key ts _ HC HZ.out.2.2.2 HK.out).mono ?_
  rintro e w3 ⟨v, rfl, hT, q1⟩
  obtain rfl : v = .tuple #[.agg #[.int .i64 0, .int .i64 0, .int .i64 0, .int .i64 0], .bool false] := by
   rcases hT with ⟨i, hi, _⟩ | ⟨_, e⟩
   ·exact absurd hi (HN.out i)
   ·exact e
  have HE : Hid (CallEnv w B S (.slice a0 S.nc c0) (.slice a1 S.nl c1) (.slice a2 S.nw c2) (.int .i64 0) (.slice none 0 0) w3) := HE.out.later q1
  clear q1 hT HC
  go_wp2_with fail
  refine (writeAlone_no F 0 0 0 0 _).mono ?_
  rintro e w4 ⟨ao, cp, rfl, ro, fo, q1⟩
  have HO : Hid (Row w4 (w.heap.size + 2) 4 0 F (.slice ao 0 cp) ∧ Free w4 (0 * 4) (.slice ao 0 cp)) := ⟨ro.mono (by have := HE.out.2.1.lt; omega), fo⟩
  have HE : Hid (CallEnv w B S (.slice a0 S.nc c0) (.slice a1 S.nl c1) (.slice a2 S.nw c2) (.int .i64 0) (.slice none 0 0) w4) := HE.out.later q1
  have z9 := HE.out.2.1.lt
  obtain ⟨_, ⟨⟨r0, r1⟩, f0, f1⟩, _⟩ := HE.out
  clear q1 ro fo
  go_wp2
  refine bodyPost_ret (v := .agg #[.int .i64 4, .slice ao 0 cp]) (by simp [results, Tryz.results22, go_sem, r0, r1]) rfl ⟨ao, cp, rfl, ((HO.out.1.far (Or.inl (by simp)) _).far (Or.inl (by simp)) _).mono (by omega), (HO.out.2.far _ _).far _ _, (HE.out.2.2.2.setCell (Nat.le_succ _) _).setCell (Nat.le_succ _) _⟩
 ·have Z := storeF_zero (askF_zero hz).1
  have HZ : Hid (scan (cellF S.c) S.nc = 0 ∧ (S.nc ≤ 200 ∧ S.nl ≤ 200 ∧ S.nw ≤ 200)) := ⟨Z.2.1, Z.1⟩
  have HK : Hid (∀ i, i < S.nw → 1 ≤ S.k (i * 4 + 3)) := fun i hi => (writeF_zero (scan_zero Z.2.2.2.1 i hi)).2.2.2.2.2.1
  have HA : Hid (askF S key = 0) := hz
  have HN : Hid (lastW S.k S.nw key ts i) := hp
  clear Z hz hp
  obtain ⟨n0, N0⟩ : ∃ x, S.k (i * 4) = x := ⟨_, rfl⟩
  obtain ⟨n1, N1⟩ : ∃ x, S.k (i * 4 + 1) = x := ⟨_, rfl⟩
  obtain ⟨n2, N2⟩ : ∃ x, S.k (i * 4 + 2) = x := ⟨_, rfl⟩
  obtain ⟨n3, N3⟩ : ∃ x, S.k (i * 4 + 3) = x := ⟨_, rfl⟩
  have NN : Hid (S.k (i * 4) = n0 ∧ S.k (i * 4 + 1) = n1 ∧ S.k (i * 4 + 2) = n2 ∧ S.k (i * 4 + 3) = n3) := ⟨N0, N1, N2, N3⟩
  clear N0 N1 N2 N3
  go_enter Tryz.func22, Tryz.ntmps22
  go_wp2_with fail
  refine (askFault_any S _ _ _ key B _ HE.out.2.2.1).mono ?_
  rw [HA.out]
  rintro e w1 ⟨rfl, q1⟩
  have HE : Hid (CallEnv w B S (.slice a0 S.nc c0) (.slice a1 S.nl c1) (.slice a2 S.nw c2) (.int .i64 0) (.slice none 0 0) w1) := HE.out.later q1
  obtain ⟨⟨⟨p0, p1, p2⟩, _⟩, ⟨⟨r0, r1⟩, f0, f1⟩, _⟩ := HE.out
  clear q1
  go_wp2_with fail
  refine (columnsOf_any S B _ _ _ _ HE.out.2.2.1 HZ.out.2.1 HZ.out.2.2.1 HZ.out.2.2.2 HZ.out.1).mono ?_
  rintro e w2 ⟨b, g, u1, u2, rfl, HC, q1⟩
  clear p0 p1 p2 r0 r1 f0 f1
  have HE : Hid (CallEnv w B S (.slice a0 S.nc c0) (.slice a1 S.nl c1) (.slice a2 S.nw c2) (.int .i64 0) (.slice none 0 0) w2) := HE.out.later q1
  clear q1
  go_wp2_with fail
  refine (lastWrite_any _ b _ _ _ _ S.nw S.k g u1 u2 key ts _ HC HZ.out.2.2.2 HK.out).mono ?_
  rintro e w3 ⟨v, rfl, hT, q1⟩
  obtain rfl : v = .tuple #[.agg #[.int .i64 n0, .int .i64 n1, .int .i64 n2, .int .i64 n3], .bool true] := by
   rcases hT with ⟨j, hj, e⟩ | ⟨h, _⟩
   ·obtain rfl := hj.one HN.out
    rw [e, NN.out.1, NN.out.2.1, NN.out.2.2.1, NN.out.2.2.2]
   ·exact absurd HN.out (h i)
  have HE : Hid (CallEnv w B S (.slice a0 S.nc c0) (.slice a1 S.nl c1) (.slice a2 S.nw c2) (.int .i64 0) (.slice none 0 0) w3) := HE.out.later q1
  clear q1 hT HC
  go_wp2_with fail
  refine (writeAlone_yes (fun p => S.k (i * 4 + p)) n0 n1 n2 n3 NN.out.1 NN.out.2.1 NN.out.2.2.1 NN.out.2.2.2 _).mono ?_
  rintro e w4 ⟨ao, cp, rfl, ro, fo, q1⟩
  have HO : Hid (Row w4 (w.heap.size + 2) 4 1 (fun p => S.k (i * 4 + p)) (.slice ao 1 cp) ∧ Free w4 (1 * 4) (.slice ao 1 cp)) := ⟨ro.mono (by have := HE.out.2.1.lt; omega), fo⟩
  have HE : Hid (CallEnv w B S (.slice a0 S.nc c0) (.slice a1 S.nl c1) (.slice a2 S.nw c2) (.int .i64 0) (.slice none 0 0) w4) := HE.out.later q1
  have z9 := HE.out.2.1.lt
  obtain ⟨_, ⟨⟨r0, r1⟩, f0, f1⟩, _⟩ := HE.out
  clear q1 ro fo
  go_wp2
  refine bodyPost_ret (v := .agg #[.int .i64 0, .slice ao 1 cp]) (by simp [results, Tryz.results22, go_sem, r0, r1]) rfl ⟨ao, cp, rfl, ((HO.out.1.far (Or.inl (by simp)) _).far (Or.inl (by simp)) _).mono (by omega), (HO.out.2.far _ _).far _ _, (HE.out.2.2.2.setCell (Nat.le_succ _) _).setCell (Nat.le_succ _) _⟩
end Go.Proofs.YtiadbiiiikhfaaaGreatDoor

namespace Go.Proofs.YtiadbiiiikhfaaaGreatDoor
open Go.RowKit

set_option maxRecDepth 100000 in
set_option maxHeartbeats 2000000 in
theorem implCellAt_any (S : Sto) (v0 v1 v2 : Value) (key start : Int) (B : Nat) (w : World) (h : St w B S v0 v1 v2) (hst : askF S key = 0 → Wf start) :
  Calls Tryz.prog 23 #[.agg #[v0, v1, v2], .int .i64 key, .int .i64 start] w fun e w' => e = .returned (.agg #[.int .i64 (cellAtC S key start), .int .i64 (cellAtV S key start)]) ∧ Below w.heap.size w w' := by
 obtain ⟨a0, c0, a1, c1, a2, c2, rfl, rfl, rfl⟩ := h.form
 have HE : Hid (CallEnv w B S (.slice a0 S.nc c0) (.slice a1 S.nl c1) (.slice a2 S.nw c2) (.int .i64 0) (.int .i64 0) ((w.alloc (.cells #[.slice a0 S.nc c0, .slice a1 S.nl c1, .slice a2 S.nw c2] 28)).alloc (.cells #[.int .i64 0, .int .i64 0] 42))) := CallEnv.new h _ _ _ _
 clear h
 by_cases hz : askF S key = 0
 case neg =>
  clear hst
  obtain ⟨f, hf⟩ : ∃ f, askF S key = f := ⟨_, rfl⟩
  have E : Hid (cellAtC S key start = f ∧ cellAtV S key start = 0) := ⟨by unfold cellAtC; rw [if_pos hz, hf], by unfold cellAtV; rw [if_pos hz]⟩
  have HF : Hid (askF S key = f) := hf
  have hfn : (f == 0) = false := beq_eq_false_iff_ne.2 (by rw [← hf]; exact hz)
  clear hz hf
  go_enter Tryz.func23, Tryz.ntmps23
  go_wp2_with fail
  refine (askFault_any S _ _ _ key B _ HE.out.2.2.1).mono ?_
  rw [HF.out]
  rintro e w1 ⟨rfl, q1⟩
  have HE : Hid (CallEnv w B S (.slice a0 S.nc c0) (.slice a1 S.nl c1) (.slice a2 S.nw c2) (.int .i64 0) (.int .i64 0) w1) := HE.out.later q1
  obtain ⟨⟨⟨p0, p1, p2⟩, _⟩, ⟨⟨r0, r1⟩, f0, f1⟩, _⟩ := HE.out
  clear q1
  go_wp2
  exact bodyPost_ret (v := .agg #[.int .i64 f, .int .i64 0]) (by simp [results, Tryz.results23, go_sem, r0, r1]) rfl ⟨by rw [E.out.1, E.out.2], (HE.out.2.2.2.setCell (Nat.le_succ _) _).setCell (Nat.le_succ _) _⟩
 have hst := hst hz
 have Z := storeF_zero (askF_zero hz).1
 have hw : Wf key := wf_small (faultOf_zero (askF_zero hz).2).1 (by have := (faultOf_zero (askF_zero hz).2).2; omega)
 have HZ : Hid (scan (cellF S.c) S.nc = 0 ∧ (S.nc ≤ 200 ∧ S.nl ≤ 200 ∧ S.nw ≤ 200)) := ⟨Z.2.1, Z.1⟩
 have HA : Hid (askF S key = 0) := hz
 clear Z
 by_cases hh : hasCell S S.nc key start
 ·obtain ⟨u, hu⟩ : ∃ u, cellM S S.nc key start = some u := Option.isSome_iff_exists.1 ((cellM_has S _ _ _).2 hh)
  have E : Hid (cellAtC S key start = 0 ∧ cellAtV S key start = u) := ⟨by unfold cellAtC; rw [if_neg (fun q => q hz), if_pos hh], by unfold cellAtV; rw [if_neg (fun q => q hz), hu]; rfl⟩
  have HU : Hid (cellM S S.nc key start = some u) := hu
  clear hu hh hz
  go_enter Tryz.func23, Tryz.ntmps23
  go_wp2_with fail
  refine (askFault_any S _ _ _ key B _ HE.out.2.2.1).mono ?_
  rw [HA.out]
  rintro e w1 ⟨rfl, q1⟩
  have HE : Hid (CallEnv w B S (.slice a0 S.nc c0) (.slice a1 S.nl c1) (.slice a2 S.nw c2) (.int .i64 0) (.int .i64 0) w1) := HE.out.later q1
  obtain ⟨⟨⟨p0, p1, p2⟩, _⟩, ⟨⟨r0, r1⟩, f0, f1⟩, _⟩ := HE.out
  clear q1
  go_wp2_with fail
  refine (columnsOf_any S B _ _ _ _ HE.out.2.2.1 HZ.out.2.1 HZ.out.2.2.1 HZ.out.2.2.2 HZ.out.1).mono ?_
  rintro e w2 ⟨b, g, u1, u2, rfl, hC, q1⟩
  clear p0 p1 p2 r0 r1 f0 f1
  have HE : Hid (CallEnv w B S (.slice a0 S.nc c0) (.slice a1 S.nl c1) (.slice a2 S.nw c2) (.int .i64 0) (.int .i64 0) w2) := HE.out.later q1
  obtain ⟨_, ⟨⟨r0, r1⟩, f0, f1⟩, _⟩ := HE.out
  have m0 := hC.2.2.1.1.1
  have hlk := hC.2.2.2.1.look hw hst
  rw [HU.out] at hlk
  clear q1 hC
  go_wp2
  exact bodyPost_ret (v := .agg #[.int .i64 0, .int .i64 u]) (by simp [results, Tryz.results23, go_sem, r0, r1]) rfl ⟨by rw [E.out.1, E.out.2], (HE.out.2.2.2.setCell (Nat.le_succ _) _).setCell (Nat.le_succ _) _⟩
 ·have hu : cellM S S.nc key start = none := by
   cases hq : cellM S S.nc key start with
   | none => rfl
   | some u => exact absurd ((cellM_has S _ _ _).1 (by rw [hq]; rfl)) hh
  have E : Hid (cellAtC S key start = 4 ∧ cellAtV S key start = 0) := ⟨by unfold cellAtC; rw [if_neg (fun q => q hz), if_neg hh], by unfold cellAtV; rw [if_neg (fun q => q hz), hu]; rfl⟩
  have HU : Hid (cellM S S.nc key start = none) := hu
  clear hu hh hz
  go_enter Tryz.func23, Tryz.ntmps23
  go_wp2_with fail
  refine (askFault_any S _ _ _ key B _ HE.out.2.2.1).mono ?_
  rw [HA.out]
  rintro e w1 ⟨rfl, q1⟩
  have HE : Hid (CallEnv w B S (.slice a0 S.nc c0) (.slice a1 S.nl c1) (.slice a2 S.nw c2) (.int .i64 0) (.int .i64 0) w1) := HE.out.later q1
  obtain ⟨⟨⟨p0, p1, p2⟩, _⟩, ⟨⟨r0, r1⟩, f0, f1⟩, _⟩ := HE.out
  clear q1
  go_wp2_with fail
  refine (columnsOf_any S B _ _ _ _ HE.out.2.2.1 HZ.out.2.1 HZ.out.2.2.1 HZ.out.2.2.2 HZ.out.1).mono ?_
  rintro e w2 ⟨b, g, u1, u2, rfl, hC, q1⟩
  clear p0 p1 p2 r0 r1 f0 f1
  have HE : Hid (CallEnv w B S (.slice a0 S.nc c0) (.slice a1 S.nl c1) (.slice a2 S.nw c2) (.int .i64 0) (.int .i64 0) w2) := HE.out.later q1
  obtain ⟨_, ⟨⟨r0, r1⟩, f0, f1⟩, _⟩ := HE.out
  have m0 := hC.2.2.1.1.1
  have hlk := hC.2.2.2.1.look hw hst
  rw [HU.out] at hlk
  clear q1 hC
  go_wp2
  exact bodyPost_ret (v := .agg #[.int .i64 4, .int .i64 0]) (by simp [results, Tryz.results23, go_sem, r0, r1]) rfl ⟨by rw [E.out.1, E.out.2], (HE.out.2.2.2.setCell (Nat.le_succ _) _).setCell (Nat.le_succ _) _⟩
end Go.Proofs.YtiadbiiiikhfaaaGreatDoor

namespace Go.Proofs.YtiadbiiiikhfaaaGreatDoor
open Go.RowKit

section
variable {S R : Sto} {a s : Int}
theorem no2 {p : Prop} {r : Int} (h : r ≠ 0) (q : (0 : Int) = r) : p := absurd q.symm h
/-- The two ways of a rollback that comes to no fault. -/
theorem RollRes.two (h : RollRes S a s 0 R) : (∃ i : Nat, FirstAt (writeIs S.k a s) S.nw i ∧ S.k (i * 4 + 3) = 4 ∧ R = S) ∨ ∃ k : Nat, FirstAt (writeIs S.k a s) S.nw (-1) ∧ k ≤ S.nw ∧ R = rollS S a s k := by
 rcases h with ⟨i, h1, h2, _, rfl⟩ | ⟨i, _, _, q, _⟩ | ⟨_, _, q, _⟩ | ⟨_, _, _, q, _⟩ | ⟨k, h1, h2, h3, h4, _, rfl⟩
 ·exact Or.inl ⟨i, h1, h2, rfl⟩
 ·exact no2 (by decide) q
 ·exact no2 (by decide) q
 ·exact no2 (by decide) q
 ·exact Or.inr ⟨k, h1, h4.1, rfl⟩
/-- The rollback stands there. -/
theorem RollRes.said (hz : storeF S = 0) (h : RollRes S a s 0 R) : ∃ i, firstW R.k R.nw a s i ∧ R.k (i * 4 + 3) = 4 ∧ R.k (i * 4 + 1) = s := by
 rcases h.two with ⟨i, h1, h2, rfl⟩ | ⟨k, h1, h4, rfl⟩
 ·obtain ⟨x1, x2, x3⟩ := h1.at
  have hf := (writeF_full (scan_zero (storeF_zero hz).2.2.2.1 i x1)).2.2.2
  exact ⟨i, ⟨x1, x2, x3⟩, h2, (hf.1 h2).trans x2.2⟩
 ·refine ⟨k, ⟨Nat.lt_succ_of_le h4, ⟨ins_new0, ins_new2⟩, fun j hj q => ?_⟩, ins_new3, ins_new1⟩
  obtain ⟨q1, q2⟩ := q
  have hjk : j ≠ k := Nat.ne_of_lt hj
  have e0 : (rollS S a s k).k (j * 4) = S.k (spot k j * 4) := ins_old0 h4 (by omega) hjk
  have e2 : (rollS S a s k).k (j * 4 + 2) = S.k (spot k j * 4 + 2) := ins_oldd h4 (by omega) hjk (by decide)
  exact no_write h1 (spot k j) (spot_bound (by omega) hjk h4) ⟨e0.symm.trans q1, e2.symm.trans q2⟩
theorem ask_left (hz : storeF S = 0) (hr : storeF R = 0) (key : Int) : askF R key = askF S key := by unfold askF; rw [if_neg (fun q => q hr), if_neg (fun q => q hz)]
end
end Go.Proofs.YtiadbiiiikhfaaaGreatDoor

namespace Go.Proofs.YtiadbiiiikhfaaaGreatDoor
open Go.RowKit

theorem field_wr0S (c : Int) (o p q : Option Addr) (n m l i j k : Nat) (w : World) : (Instr.field 32 (.agg #[.int .i64 c, .slice o n i, .slice p m j, .slice q l k]) 0).run Tryz.prog w = .ok (.int .i64 c) w := by kernel_rfl
theorem field_in1 (c v : Int) (w : World) : (Instr.field 42 (.agg #[.int .i64 c, .int .i64 v]) 1).run Tryz.prog w = .ok (.int .i64 v) w := by kernel_rfl
theorem neqWriteB (x0 x1 x2 x3 : Int) (w : World) : (binOp .neq 55 (.agg #[.int .i64 x0, .int .i64 x1, .int .i64 x2, .int .i64 x3]) (.agg #[.int .i64 x0, .int .i64 x1, .int .i64 x2, .int .i64 x3])).run Tryz.prog w = .ok (.bool false) w := by
 have hS : Tryz.prog.underlying 55 = some (.struct (Tryz.prog.fieldsOf 55)) := by kernel_rfl
 have hp : Tryz.prog.stoodInHeld 55 = false := by kernel_rfl
 have u2 := Tryz.underlying2
 have a2 := Tryz.isAgg2
 have z2 := Tryz.sizeOf2
 rw [run_neq_struct, show (10000 : Nat) = 9999 + 1 from rfl, run_equalIn_agg w 9999 _ _ _ hS hp]
 simp only [Program.fieldsOf, Tryz.underlying55]
 go_simp
 try simp
theorem lwBigW_is (o : Option Addr) (len cap : Nat) (r : Bool) (w : World) (h : decide ((1048576 : Int) < (len : Int)) = r) :
  Calls Tryz.prog 6 #[.slice o len cap] w fun e w' => e = .returned (.bool r) ∧ w' = w := by
 go_enter Tryz.func6, Tryz.ntmps6
 go_wp2
 go_ret
 exact ⟨by first | rfl | (rw [← h]; rfl), rfl⟩
theorem Row.cellK {w : World} {B m n g o : Nat} {F : Nat → Int} {cp : Nat} (h : Row w B m n F (.slice (some ⟨g, o, none⟩) n cp)) {k : Nat} (hk : k < n) {q : Nat} (hq : q < m) : g < w.heap.size ∧ w.cell? ⟨g, o + k * m + q, none⟩ = some (.int .i64 (F (k * m + q))) := by
 obtain ⟨ao, cp', e, hr⟩ := h
 cases e
 obtain ⟨g', o', e, _, hg, hc⟩ := hr (by omega)
 cases e
 refine ⟨hg, ?_⟩
 have hlt : k * m + q < n * m := by
  calc k * m + q < k * m + m := by omega
   _ = (k + 1) * m := by rw [Nat.succ_mul]
   _ ≤ n * m := Nat.mul_le_mul_right m hk
 rw [Nat.add_assoc]
 exact hc _ hlt
/-- The four numbers of a write. -/
def C4 (x : World) (g o : Nat) (n0 n1 n2 n3 : Int) : Prop := x.cell? ⟨g, o, none⟩ = some (.int .i64 n0) ∧ x.cell? ⟨g, o + 1, none⟩ = some (.int .i64 n1) ∧ x.cell? ⟨g, o + 2, none⟩ = some (.int .i64 n2) ∧ x.cell? ⟨g, o + 3, none⟩ = some (.int .i64 n3)
theorem C4.later {x x' : World} {g o : Nat} {n0 n1 n2 n3 : Int} (h : C4 x g o n0 n1 n2 n3) (hb : Below x.heap.size x x') : C4 x' g o n0 n1 n2 n3 :=
 have hl : g < x.heap.size := World.block_lt_of_cell? x _ h.1
 ⟨(hb.cell (p := ⟨g, o, none⟩) hl).trans h.1, (hb.cell (p := ⟨g, o + 1, none⟩) hl).trans h.2.1, (hb.cell (p := ⟨g, o + 2, none⟩) hl).trans h.2.2.1, (hb.cell (p := ⟨g, o + 3, none⟩) hl).trans h.2.2.2⟩
theorem Row.four {w : World} {B g o cp : Nat} {F : Nat → Int} (h : Row w B 4 1 F (.slice (some ⟨g, o, none⟩) 1 cp)) : C4 w g o (F 0) (F 1) (F 2) (F 3) := by
 have c0 := (h.cellK (k := 0) (q := 0) (by omega) (by omega)).2
 have c1 := (h.cellK (k := 0) (q := 1) (by omega) (by omega)).2
 have c2 := (h.cellK (k := 0) (q := 2) (by omega) (by omega)).2
 have c3 := (h.cellK (k := 0) (q := 3) (by omega) (by omega)).2
 simp only [Nat.zero_mul, Nat.add_zero, Nat.zero_add] at c0 c1 c2 c3
 exact ⟨c0, c1, c2, c3⟩
/-- An answer in its box. -/
def ResU (x : World) (b : Nat) (c : Int) (R : Sto) (v0 v1 v2 : Value) : Prop := Blk4 x b (.int .i64 c) v0 v1 v2 ∧ St x 0 R v0 v1 v2
theorem ResU.later {x x' : World} {b : Nat} {c : Int} {R : Sto} {v0 v1 v2 : Value} (h : ResU x b c R v0 v1 v2) (hb : Below x.heap.size x x') : ResU x' b c R v0 v1 v2 := ⟨h.1.later hb, h.2.later hb⟩
/-- What stands: the drawn store, what the rollback answered. -/
def EnU (w : World) (b3 b6 : Nat) (c : Int) (S R : Sto) (v0 v1 v2 r0 r1 r2 : Value) (x : World) : Prop := Below w.heap.size w x ∧ (Blk3 x b3 v0 v1 v2 ∧ St x 0 S v0 v1 v2) ∧ ResU x b6 c R r0 r1 r2
theorem EnU.later {w x x' : World} {b3 b6 : Nat} {c : Int} {S R : Sto} {v0 v1 v2 r0 r1 r2 : Value} (h : EnU w b3 b6 c S R v0 v1 v2 r0 r1 r2 x) (hb : Below x.heap.size x x') : EnU w b3 b6 c S R v0 v1 v2 r0 r1 r2 x' := ⟨h.1.trans (hb.mono h.1.size), ⟨h.2.1.1.later hb, h.2.1.2.later hb⟩, h.2.2.later hb⟩
end Go.Proofs.YtiadbiiiikhfaaaGreatDoor

namespace Go.Proofs.YtiadbiiiikhfaaaGreatDoor
open Go.RowKit

/-- 'm[k]'. -/
theorem PM.look0 {w : World} {b n : Nat} {m : Int → Int → Option Int} (h : PM w b n m) {x y : Int} (hx : Wf x) (hy : Wf y) :
  (Instr.lookup 101 (.map (some b)) (.agg #[.int .i64 x, .int .i64 y]) false).run Tryz.prog w = .ok (.int .i64 ((m x y).getD 0)) w := by
 obtain ⟨D, h, r⟩ := h
 obtain ⟨c, hrun, hat, _⟩ := h.lookup_int placeKeyed Tryz.underlying101 Tryz.underlying2 (zero_i64 w) (keyOf_place hx hy)
 rw [hrun]
 rw [(r x y hx hy).2] at hat
 simp at hat
 rw [hat]
def GetEnv (w : World) (b oo g N : Nat) (m : Int → Int → Option Int) (L : Nat) (st : Int) (x : World) : Prop := x.cell? ⟨b, oo, none⟩ = some (.map (some g)) ∧ x.cell? ⟨L, 2, none⟩ = some (.int .i64 st) ∧ PM x g N m ∧ Below w.heap.size w x
set_option maxRecDepth 100000 in
set_option maxHeartbeats 4000000 in
theorem get_blockedO (B b oo N : Nat) (m : Int → Int → Option Int) (nl : Nat) (l : Nat → Int) (nw : Nat) (k : Nat → Int) (g : Nat) (u1 u2 : Value) (key ts : Int) (w : World) (h : ColsO w B b oo N m nl l nw k g u1 u2) (hn : nl ≤ 200) (hb : blocks l nl key ts) :
  Calls Tryz.prog 54 #[.pointer (some ⟨b, oo, none⟩), .int .i64 key, .int .i64 ts] w fun e w' => e = .returned (.tuple #[.int .i64 0, .bool false, .iface 123 (.agg #[.int .i64 1])]) ∧ Below w.heap.size w w' := by
 have H : Hid (ColsO w B b oo N m nl l nw k g u1 u2) := h
 have HB : Hid (true = true ↔ blocks l nl key ts) := ⟨fun _ => hb, fun _ => rfl⟩
 have HB2 : Hid (blocks l nl key ts) := hb
 clear h hb HB
 go_enter Tryz.func54, Tryz.ntmps54
 go_wp2_with fail
 refine (blocked_isO B b oo N m nl l nw k g u1 u2 key ts _ H.out hn true ⟨fun _ => HB2.out, fun _ => rfl⟩).mono ?_
 rintro e w1 ⟨rfl, q1⟩
 have Q : Hid (Below w.heap.size w w1) := q1
 clear q1
 go_wp2
 go_ret3
 exact ⟨rfl, Q.out⟩
theorem get_blocked (B b N : Nat) (m : Int → Int → Option Int) (nl : Nat) (l : Nat → Int) (nw : Nat) (k : Nat → Int) (g : Nat) (u1 u2 : Value) (key ts : Int) (w : World) (h : Cols w B b N m nl l nw k g u1 u2) (hn : nl ≤ 200) (hb : blocks l nl key ts) :
  Calls Tryz.prog 54 #[.pointer (some ⟨b, 0, none⟩), .int .i64 key, .int .i64 ts] w fun e w' => e = .returned (.tuple #[.int .i64 0, .bool false, .iface 123 (.agg #[.int .i64 1])]) ∧ Below w.heap.size w w' := get_blockedO B b 0 N m nl l nw k g u1 u2 key ts w h hn hb
set_option maxRecDepth 100000 in
set_option maxHeartbeats 4000000 in
theorem get_noneO (B b oo N : Nat) (m : Int → Int → Option Int) (nl : Nat) (l : Nat → Int) (nw : Nat) (k : Nat → Int) (g : Nat) (u1 u2 : Value) (key ts : Int) (w : World) (h : ColsO w B b oo N m nl l nw k g u1 u2) (hn : nl ≤ 200) (hn2 : nw ≤ 200) (hk : ∀ i, i < nw → 1 ≤ k (i * 4 + 3)) (hb : ¬ blocks l nl key ts) (hl : ∀ i, lastW k nw key ts i → k (i * 4 + 3) ≠ 1) :
  Calls Tryz.prog 54 #[.pointer (some ⟨b, oo, none⟩), .int .i64 key, .int .i64 ts] w fun e w' => e = .returned (.tuple #[.int .i64 0, .bool false, .nilIface]) ∧ Below w.heap.size w w' := by
 have H : Hid (ColsO w B b oo N m nl l nw k g u1 u2) := h
 have HB : Hid (false = true ↔ blocks l nl key ts) := ⟨fun q => absurd q (by decide), fun q => absurd q hb⟩
 have HK : Hid (∀ i, i < nw → 1 ≤ k (i * 4 + 3)) := hk
 have HL : Hid (∀ i, lastW k nw key ts i → k (i * 4 + 3) ≠ 1) := hl
 clear h hb hk hl
 go_enter Tryz.func54, Tryz.ntmps54
 go_wp2_with fail
 refine (blocked_isO B b oo N m nl l nw k g u1 u2 key ts _ H.out hn false HB.out).mono ?_
 rintro e w1 ⟨rfl, q1⟩
 have Q : Hid (Below w.heap.size w w1) := q1
 have H1 : Hid (ColsO w1 B b oo N m nl l nw k g u1 u2) := H.out.later q1
 clear q1 H
 go_wp2_with fail
 refine (lastWrite_anyO B b oo N m nl l nw k g u1 u2 key ts _ H1.out hn2 HK.out).mono ?_
 rintro e w2 ⟨v, rfl, hT, q2⟩
 rcases hT with ⟨i, hi, rfl⟩ | ⟨_, rfl⟩
 ·have h3 := HL.out i hi
  obtain ⟨n0, N0⟩ : ∃ x, k (i * 4) = x := ⟨_, rfl⟩
  obtain ⟨n1, N1⟩ : ∃ x, k (i * 4 + 1) = x := ⟨_, rfl⟩
  obtain ⟨n2, N2⟩ : ∃ x, k (i * 4 + 2) = x := ⟨_, rfl⟩
  obtain ⟨n3, N3⟩ : ∃ x, k (i * 4 + 3) = x := ⟨_, rfl⟩
  rw [N0, N1, N2, N3]
  rw [N3] at h3
  have d3 : (n3 == 1) = false := beq_eq_false_iff_ne.2 h3
  have Q2 : Hid (Below w.heap.size w (w2.alloc (.cells #[.int .i64 n0, .int .i64 n1, .int .i64 n2, .int .i64 n3] 55))) := (Q.out.trans (q2.mono Q.out.size)).alloc (by have := Q.out.size; have := q2.size; omega) _
  clear q2 N0 N1 N2 N3 h3 Q
  go_wp2
  go_ret3
  exact ⟨rfl, Q2.out⟩
 ·have Q2 : Hid (Below w.heap.size w (w2.alloc (.cells #[.int .i64 0, .int .i64 0, .int .i64 0, .int .i64 0] 55))) := (Q.out.trans (q2.mono Q.out.size)).alloc (by have := Q.out.size; have := q2.size; omega) _
  clear q2 Q
  go_wp2
  go_ret3
  exact ⟨rfl, Q2.out⟩
theorem get_none (B b N : Nat) (m : Int → Int → Option Int) (nl : Nat) (l : Nat → Int) (nw : Nat) (k : Nat → Int) (g : Nat) (u1 u2 : Value) (key ts : Int) (w : World) (h : Cols w B b N m nl l nw k g u1 u2) (hn : nl ≤ 200) (hn2 : nw ≤ 200) (hk : ∀ i, i < nw → 1 ≤ k (i * 4 + 3)) (hb : ¬ blocks l nl key ts) (hl : ∀ i, lastW k nw key ts i → k (i * 4 + 3) ≠ 1) :
  Calls Tryz.prog 54 #[.pointer (some ⟨b, 0, none⟩), .int .i64 key, .int .i64 ts] w fun e w' => e = .returned (.tuple #[.int .i64 0, .bool false, .nilIface]) ∧ Below w.heap.size w w' := get_noneO B b 0 N m nl l nw k g u1 u2 key ts w h hn hn2 hk hb hl
set_option maxRecDepth 100000 in
set_option maxHeartbeats 4000000 in
theorem get_someO (B b oo N : Nat) (m : Int → Int → Option Int) (nl : Nat) (l : Nat → Int) (nw : Nat) (k : Nat → Int) (g : Nat) (u1 u2 : Value) (key ts : Int) (i : Nat) (v : Int) (w : World) (h : ColsO w B b oo N m nl l nw k g u1 u2) (hn : nl ≤ 200) (hn2 : nw ≤ 200) (hk : ∀ i, i < nw → 1 ≤ k (i * 4 + 3)) (hb : ¬ blocks l nl key ts) (hl : lastW k nw key ts i) (h1 : k (i * 4 + 3) = 1) (hw0 : Wf key) (hw1 : Wf (k (i * 4 + 2))) (hm : m key (k (i * 4 + 2)) = some v) :
  Calls Tryz.prog 54 #[.pointer (some ⟨b, oo, none⟩), .int .i64 key, .int .i64 ts] w fun e w' => e = .returned (.tuple #[.int .i64 v, .bool true, .nilIface]) ∧ Below w.heap.size w w' := by
 have H : Hid (ColsO w B b oo N m nl l nw k g u1 u2) := h
 have HB : Hid (false = true ↔ blocks l nl key ts) := ⟨fun q => absurd q (by decide), fun q => absurd q hb⟩
 have HK : Hid (∀ i, i < nw → 1 ≤ k (i * 4 + 3)) := hk
 have HL : Hid (lastW k nw key ts i) := hl
 obtain ⟨n0, N0⟩ : ∃ x, k (i * 4) = x := ⟨_, rfl⟩
 obtain ⟨n1, N1⟩ : ∃ x, k (i * 4 + 1) = x := ⟨_, rfl⟩
 obtain ⟨n2, N2⟩ : ∃ x, k (i * 4 + 2) = x := ⟨_, rfl⟩
 obtain ⟨n3, N3⟩ : ∃ x, k (i * 4 + 3) = x := ⟨_, rfl⟩
 rw [N2] at hm hw1
 rw [N3] at h1
 subst h1
 have NN : Hid (k (i * 4) = n0 ∧ k (i * 4 + 1) = n1 ∧ k (i * 4 + 2) = n2 ∧ k (i * 4 + 3) = 1) := ⟨N0, N1, N2, N3⟩
 have HM : Hid (m key n2 = some v) := hm
 clear h hb hk hl N0 N1 N2 N3 hm
 go_enter Tryz.func54, Tryz.ntmps54
 go_wp2_with fail
 refine (blocked_isO B b oo N m nl l nw k g u1 u2 key ts _ H.out hn false HB.out).mono ?_
 rintro e w1 ⟨rfl, q1⟩
 have Q : Hid (Below w.heap.size w w1) := q1
 have H1 : Hid (ColsO w1 B b oo N m nl l nw k g u1 u2) := H.out.later q1
 clear q1 H
 go_wp2_with fail
 refine (lastWrite_anyO B b oo N m nl l nw k g u1 u2 key ts _ H1.out hn2 HK.out).mono ?_
 rintro e w2 ⟨v', rfl, hT, q2⟩
 obtain rfl : v' = .tuple #[.agg #[.int .i64 n0, .int .i64 n1, .int .i64 n2, .int .i64 1], .bool true] := by
  rcases hT with ⟨j, hj, e⟩ | ⟨h, _⟩
  ·obtain rfl := hj.one HL.out
   rw [e, NN.out.1, NN.out.2.1, NN.out.2.2.1, NN.out.2.2.2]
  ·exact absurd HL.out (h i)
 have h0 : GetEnv w b oo g N m w2.heap.size n2 (w2.alloc (.cells #[.int .i64 n0, .int .i64 n1, .int .i64 n2, .int .i64 1] 55)).drew := ⟨((H1.out.later q2).2.2.1.alloc _).1.1, World.cell?_alloc_mark w2 _ _ _ 2, ((H1.out.later q2).2.2.2.1.alloc _), ((Q.out.trans (q2.mono Q.out.size)).alloc (by have := Q.out.size; have := q2.size; omega) _).drew⟩
 clear q2 hT Q H1
 go_wp2_with fail
 refine wp_region_held_drew (S := GetEnv w b oo g N m w2.heap.size n2) (by kernel_rfl) h0 (fun hS => ?_)
 clear h0
 refine tkH 0 ?_ hS (fun wx hx => ?_) ?_; rotate_left
 ·obtain ⟨hx0, hx1, hx2, _⟩ := hx; have hxl := hx2.look0 hw0 hw1; clear hx2; go_simp; try with_reducible rfl
 refine tkH 1 ?_ hS (fun wx hx => ?_) ?_; rotate_left
 ·obtain ⟨hx0, hx1, hx2, _⟩ := hx; have hxl := hx2.look0 hw0 hw1; clear hx2; go_simp; try with_reducible rfl
 refine tkH 2 ?_ hS (fun wx hx => ?_) ?_; rotate_left
 ·obtain ⟨hx0, hx1, hx2, _⟩ := hx; have hxl := hx2.look0 hw0 hw1; clear hx2; go_simp; try with_reducible rfl
 refine tkH 3 ?_ hS (fun wx hx => ?_) ?_; rotate_left
 ·obtain ⟨hx0, hx1, hx2, _⟩ := hx; have hxl := hx2.look0 hw0 hw1; clear hx2; go_simp; try with_reducible rfl
 refine tkH 4 ?_ hS (fun wx hx => ?_) ?_; rotate_left
 ·obtain ⟨hx0, hx1, hx2, _⟩ := hx; have hxl := hx2.look0 hw0 hw1; clear hx2; go_simp; try with_reducible rfl
 refine tkH 5 ?_ hS (fun wx hx => ?_) ?_; rotate_left
 ·obtain ⟨hx0, hx1, hx2, _⟩ := hx; have hxl := hx2.look0 hw0 hw1; clear hx2; go_simp; try with_reducible rfl
 refine tkH 6 ?_ hS (fun wx hx => ?_) ?_; rotate_left
 ·obtain ⟨hx0, hx1, hx2, _⟩ := hx; have hxl := hx2.look0 hw0 hw1; clear hx2; go_simp; try with_reducible rfl
 refine tkH 7 ?_ hS (fun wx hx => ?_) ?_; rotate_left
 ·obtain ⟨hx0, hx1, hx2, _⟩ := hx; have hxl := hx2.look0 hw0 hw1; clear hx2; go_simp; try with_reducible rfl
 refine tkH 8 ?_ hS (fun wx hx => ?_) ?_; rotate_left
 ·obtain ⟨hx0, hx1, hx2, _⟩ := hx; have hxl := hx2.look0 hw0 hw1; clear hx2; go_simp; try with_reducible rfl
 refine tkH 9 ?_ hS (fun wx hx => ?_) ?_; rotate_left
 ·obtain ⟨hx0, hx1, hx2, _⟩ := hx; have hxl := hx2.look0 hw0 hw1; clear hx2; go_simp; try with_reducible rfl
 refine tkH 10 ?_ hS (fun wx hx => ?_) ?_; rotate_left
 ·obtain ⟨hx0, hx1, hx2, _⟩ := hx; have hxl := hx2.look0 hw0 hw1; clear hx2; go_simp; try with_reducible rfl
 refine tkH 11 ?_ hS (fun wx hx => ?_) ?_; rotate_left
 ·obtain ⟨hx0, hx1, hx2, _⟩ := hx; have hxl := hx2.look0 hw0 hw1; clear hx2; go_simp; try with_reducible rfl
 refine wpAnyH_done (by kernel_rfl) ?_ _
 rw [HM.out]
 go_simp
 go_wp2
 go_ret3
 exact ⟨rfl, hS.2.2.2⟩
theorem get_some (B b N : Nat) (m : Int → Int → Option Int) (nl : Nat) (l : Nat → Int) (nw : Nat) (k : Nat → Int) (g : Nat) (u1 u2 : Value) (key ts : Int) (i : Nat) (v : Int) (w : World) (h : Cols w B b N m nl l nw k g u1 u2) (hn : nl ≤ 200) (hn2 : nw ≤ 200) (hk : ∀ i, i < nw → 1 ≤ k (i * 4 + 3)) (hb : ¬ blocks l nl key ts) (hl : lastW k nw key ts i) (h1 : k (i * 4 + 3) = 1) (hw0 : Wf key) (hw1 : Wf (k (i * 4 + 2))) (hm : m key (k (i * 4 + 2)) = some v) :
  Calls Tryz.prog 54 #[.pointer (some ⟨b, 0, none⟩), .int .i64 key, .int .i64 ts] w fun e w' => e = .returned (.tuple #[.int .i64 v, .bool true, .nilIface]) ∧ Below w.heap.size w w' := get_someO B b 0 N m nl l nw k g u1 u2 key ts i v w h hn hn2 hk hb hl h1 hw0 hw1 hm
end Go.Proofs.YtiadbiiiikhfaaaGreatDoor

namespace Go.Proofs.YtiadbiiiikhfaaaGreatDoor
open Go.RowKit

def isTs (ts : Int) : Prop := 1 ≤ ts ∧ ts ≤ 100000
/-- The last put or delete of key up to ts is a put; its cell is cell j. -/
def reads (S : Sto) (key ts : Int) (i j : Nat) : Prop := lastW S.k S.nw key ts i ∧ S.k (i * 4 + 3) = 1 ∧ j < S.nc ∧ cellIs S.c key (S.k (i * 4 + 2)) j
/-- What GetAt answers. -/
def GetAns (S : Sto) (key ts c : Int) (has : Bool) (v : Int) : Prop :=
 (askF S key ≠ 0 ∧ c = askF S key ∧ has = false ∧ v = 0) ∨ (askF S key = 0 ∧ ¬ isTs ts ∧ c = 3 ∧ has = false ∧ v = 0) ∨
 (askF S key = 0 ∧ isTs ts ∧ blocks S.l S.nl key ts ∧ c = 7 ∧ has = false ∧ v = 0) ∨
 (askF S key = 0 ∧ isTs ts ∧ ¬ blocks S.l S.nl key ts ∧ (∀ i, lastW S.k S.nw key ts i → S.k (i * 4 + 3) ≠ 1) ∧ c = 0 ∧ has = false ∧ v = 0) ∨
 (askF S key = 0 ∧ isTs ts ∧ ¬ blocks S.l S.nl key ts ∧ ∃ i j, reads S key ts i j ∧ c = 0 ∧ has = true ∧ v = S.c (j * 3 + 2))
theorem GetAns.get (S : Sto) (key ts : Int) : ∃ c has v, GetAns S key ts c has v := by
 by_cases hz : askF S key = 0
 case neg => exact ⟨_, _, _, Or.inl ⟨hz, rfl, rfl, rfl⟩⟩
 by_cases ht : isTs ts
 case neg => exact ⟨_, _, _, Or.inr (Or.inl ⟨hz, ht, rfl, rfl, rfl⟩)⟩
 by_cases hb : blocks S.l S.nl key ts
 ·exact ⟨_, _, _, Or.inr (Or.inr (Or.inl ⟨hz, ht, hb, rfl, rfl, rfl⟩))⟩
 by_cases hl : ∀ i, lastW S.k S.nw key ts i → S.k (i * 4 + 3) ≠ 1
 ·exact ⟨_, _, _, Or.inr (Or.inr (Or.inr (Or.inl ⟨hz, ht, hb, hl, rfl, rfl, rfl⟩)))⟩
 have he : ∃ i, lastW S.k S.nw key ts i ∧ S.k (i * 4 + 3) = 1 := Classical.byContradiction fun q => hl (fun i hi e => q ⟨i, hi, e⟩)
 obtain ⟨i, hi, h1⟩ := he
 obtain ⟨j, hj, hc⟩ := (storeF_zero (askF_zero hz).1).2.2.2.2.1.1 i hi.1 h1
 rw [hi.2.1.1] at hc
 exact ⟨_, _, _, Or.inr (Or.inr (Or.inr (Or.inr ⟨hz, ht, hb, i, j, ⟨hi, h1, hj, hc⟩, rfl, rfl, rfl⟩)))⟩
def GetCall (w : World) (B : Nat) (S : Sto) (v0 v1 v2 r0 r1 r2 : Value) (x : World) : Prop := Blk3 x w.heap.size v0 v1 v2 ∧ Blk3 x (w.heap.size + 1) r0 r1 r2 ∧ St x B S v0 v1 v2 ∧ Below w.heap.size w x
theorem GetCall.later {w x x' : World} {B : Nat} {S : Sto} {v0 v1 v2 r0 r1 r2 : Value} (h : GetCall w B S v0 v1 v2 r0 r1 r2 x) (hb : Below x.heap.size x x') : GetCall w B S v0 v1 v2 r0 r1 r2 x' :=
 ⟨h.1.later hb, h.2.1.later hb, h.2.2.1.later hb, h.2.2.2.trans (hb.mono h.2.2.2.size)⟩
theorem GetCall.new {w : World} {B : Nat} {S : Sto} {v0 v1 v2 : Value} (h : St w B S v0 v1 v2) (r0 r1 r2 : Value) (t t' : TypeId) : GetCall w B S v0 v1 v2 r0 r1 r2 ((w.alloc (.cells #[v0, v1, v2] t)).alloc (.cells #[r0, r1, r2] t')) := by
 refine ⟨(Blk3.new w _ _ _ _).alloc _, ?_, (h.alloc _).alloc _, (below_alloc _ _).alloc (by simp) _⟩
 have := Blk3.new (w.alloc (.cells #[v0, v1, v2] t)) r0 r1 r2 t'
 rwa [World.size_alloc] at this
set_option maxRecDepth 100000 in
set_option maxHeartbeats 4000000 in
theorem implGetAt_is (S : Sto) (v0 v1 v2 : Value) (key ts c : Int) (has : Bool) (v : Int) (B : Nat) (w : World) (h : St w B S v0 v1 v2) (hL : Laid w) (hA : GetAns S key ts c has v) :
  Calls Tryz.prog 14 #[.agg #[v0, v1, v2], .int .i64 key, .int .i64 ts] w fun e w' => e = .returned (.agg #[.int .i64 c, .bool has, .int .i64 v]) ∧ Below w.heap.size w w' := by
 obtain ⟨a0, c0, a1, c1, a2, c2, rfl, rfl, rfl⟩ := h.form
 have HE : Hid (GetCall w B S (.slice a0 S.nc c0) (.slice a1 S.nl c1) (.slice a2 S.nw c2) (.int .i64 0) (.bool false) (.int .i64 0) ((w.alloc (.cells #[.slice a0 S.nc c0, .slice a1 S.nl c1, .slice a2 S.nw c2] 28)).alloc (.cells #[.int .i64 0, .bool false, .int .i64 0] 45))) := GetCall.new h _ _ _ _ _
 have HL : Hid (Laid w) := hL
 clear h hL
 rcases hA with ⟨hz, rfl, rfl, rfl⟩ | ⟨hz, ht, rfl, rfl, rfl⟩ | ⟨hz, ht, hb, rfl, rfl, rfl⟩ | ⟨hz, ht, hb, hl, rfl, rfl, rfl⟩ | ⟨hz, ht, hb, i, j, hr, rfl, rfl, rfl⟩
 ·obtain ⟨f, hf⟩ : ∃ f, askF S key = f := ⟨_, rfl⟩
  have HF : Hid (askF S key = f) := hf
  have hfn : (f == 0) = false := beq_eq_false_iff_ne.2 (by rw [← hf]; exact hz)
  rw [hf]
  clear hz hf
  go_enter Tryz.func14, Tryz.ntmps14
  go_wp2_with fail
  refine (askFault_any S _ _ _ key B _ HE.out.2.2.1).mono ?_
  rw [HF.out]
  rintro e w1 ⟨rfl, q1⟩
  have HE : Hid (GetCall w B S (.slice a0 S.nc c0) (.slice a1 S.nl c1) (.slice a2 S.nw c2) (.int .i64 0) (.bool false) (.int .i64 0) w1) := HE.out.later q1
  obtain ⟨⟨⟨p0, p1, p2⟩, _⟩, ⟨⟨r0, r1, r2⟩, f0, f1, f2⟩, _⟩ := HE.out
  clear q1
  go_wp2
  exact bodyPost_ret (v := .agg #[.int .i64 f, .bool false, .int .i64 0]) (by simp [results, Tryz.results14, go_sem, r0, r1, r2]) rfl ⟨rfl, ((HE.out.2.2.2.setCell (Nat.le_succ _) _).setCell (Nat.le_succ _) _).setCell (Nat.le_succ _) _⟩
 ·have HA : Hid (askF S key = 0) := hz
  have HT : Hid (decide (1 ≤ ts ∧ ts ≤ 100000) = false) := decide_eq_false ht
  clear hz ht
  go_enter Tryz.func14, Tryz.ntmps14
  go_wp2_with fail
  refine (askFault_any S _ _ _ key B _ HE.out.2.2.1).mono ?_
  rw [HA.out]
  rintro e w1 ⟨rfl, q1⟩
  have HE : Hid (GetCall w B S (.slice a0 S.nc c0) (.slice a1 S.nl c1) (.slice a2 S.nw c2) (.int .i64 0) (.bool false) (.int .i64 0) w1) := HE.out.later q1
  obtain ⟨⟨⟨p0, p1, p2⟩, _⟩, ⟨⟨r0, r1, r2⟩, f0, f1, f2⟩, _⟩ := HE.out
  clear q1
  go_wp2_with fail
  refine (isTime_is _ false HT.out _).mono ?_
  rintro e w1' ⟨rfl, rfl⟩
  go_wp2
  exact bodyPost_ret (v := .agg #[.int .i64 3, .bool false, .int .i64 0]) (by simp [results, Tryz.results14, go_sem, r0, r1, r2]) rfl ⟨rfl, ((HE.out.2.2.2.setCell (Nat.le_succ _) _).setCell (Nat.le_succ _) _).setCell (Nat.le_succ _) _⟩
 ·have Z := storeF_zero (askF_zero hz).1
  have HZ : Hid (scan (cellF S.c) S.nc = 0 ∧ (S.nc ≤ 200 ∧ S.nl ≤ 200 ∧ S.nw ≤ 200)) := ⟨Z.2.1, Z.1⟩
  have HK : Hid (∀ i, i < S.nw → 1 ≤ S.k (i * 4 + 3)) := fun i hi => (writeF_zero (scan_zero Z.2.2.2.1 i hi)).2.2.2.2.2.1
  have HA : Hid (askF S key = 0) := hz
  have HT : Hid (decide (1 ≤ ts ∧ ts ≤ 100000) = true) := decide_eq_true ht
  have HB : Hid (blocks S.l S.nl key ts) := hb
  clear hz ht hb Z
  go_enter Tryz.func14, Tryz.ntmps14
  go_wp2_with fail
  refine (askFault_any S _ _ _ key B _ HE.out.2.2.1).mono ?_
  rw [HA.out]
  rintro e w1 ⟨rfl, q1⟩
  have HE : Hid (GetCall w B S (.slice a0 S.nc c0) (.slice a1 S.nl c1) (.slice a2 S.nw c2) (.int .i64 0) (.bool false) (.int .i64 0) w1) := HE.out.later q1
  obtain ⟨⟨⟨p0, p1, p2⟩, _⟩, ⟨⟨r0, r1, r2⟩, f0, f1, f2⟩, _⟩ := HE.out
  clear q1
  go_wp2_with fail
  refine (isTime_is _ true HT.out _).mono ?_
  rintro e w1' ⟨rfl, rfl⟩
  go_wp2_with fail
  refine (columnsOf_any S B _ _ _ _ HE.out.2.2.1 HZ.out.2.1 HZ.out.2.2.1 HZ.out.2.2.2 HZ.out.1).mono ?_
  rintro e w2 ⟨b, g, u1, u2, rfl, HC, q1⟩
  clear p0 p1 p2 r0 r1 r2 f0 f1 f2
  have HE : Hid (GetCall w B S (.slice a0 S.nc c0) (.slice a1 S.nl c1) (.slice a2 S.nw c2) (.int .i64 0) (.bool false) (.int .i64 0) w2) := HE.out.later q1
  obtain ⟨⟨⟨p0, p1, p2⟩, _⟩, ⟨⟨r0, r1, r2⟩, f0, f1, f2⟩, _⟩ := HE.out
  clear q1
  go_wp2_with fail
  refine (get_blocked _ b _ _ S.nl S.l _ _ g u1 u2 key ts _ HC HZ.out.2.2.1 HB.out).mono ?_
  rintro e w3 ⟨rfl, q1⟩
  clear p0 p1 p2 r0 r1 r2 f0 f1 f2
  have HE : Hid (GetCall w B S (.slice a0 S.nc c0) (.slice a1 S.nl c1) (.slice a2 S.nw c2) (.int .i64 0) (.bool false) (.int .i64 0) w3) := HE.out.later q1
  obtain ⟨⟨⟨p0, p1, p2⟩, _⟩, ⟨⟨r0, r1, r2⟩, f0, f1, f2⟩, _⟩ := HE.out
  clear q1
  clear HC
  go_wp2_with fail
  refine (refusalCode_hit 1 7 (Or.inr (Or.inl ⟨rfl, rfl⟩)) _ (HL.out.later HE.out.2.2.2)).mono ?_
  rintro e w4 ⟨rfl, q1⟩
  clear p0 p1 p2 r0 r1 r2 f0 f1 f2
  have HE : Hid (GetCall w B S (.slice a0 S.nc c0) (.slice a1 S.nl c1) (.slice a2 S.nw c2) (.int .i64 0) (.bool false) (.int .i64 0) w4) := HE.out.later q1
  obtain ⟨⟨⟨p0, p1, p2⟩, _⟩, ⟨⟨r0, r1, r2⟩, f0, f1, f2⟩, _⟩ := HE.out
  clear q1
  go_wp2
  exact bodyPost_ret (v := .agg #[.int .i64 7, .bool false, .int .i64 0]) (by simp [results, Tryz.results14, go_sem, r0, r1, r2]) rfl ⟨rfl, ((HE.out.2.2.2.setCell (Nat.le_succ _) _).setCell (Nat.le_succ _) _).setCell (Nat.le_succ _) _⟩
 ·have Z := storeF_zero (askF_zero hz).1
  have HZ : Hid (scan (cellF S.c) S.nc = 0 ∧ (S.nc ≤ 200 ∧ S.nl ≤ 200 ∧ S.nw ≤ 200)) := ⟨Z.2.1, Z.1⟩
  have HK : Hid (∀ i, i < S.nw → 1 ≤ S.k (i * 4 + 3)) := fun i hi => (writeF_zero (scan_zero Z.2.2.2.1 i hi)).2.2.2.2.2.1
  have HA : Hid (askF S key = 0) := hz
  have HT : Hid (decide (1 ≤ ts ∧ ts ≤ 100000) = true) := decide_eq_true ht
  have HB : Hid (¬ blocks S.l S.nl key ts ∧ ∀ i, lastW S.k S.nw key ts i → S.k (i * 4 + 3) ≠ 1) := ⟨hb, hl⟩
  clear hz ht hb hl Z
  go_enter Tryz.func14, Tryz.ntmps14
  go_wp2_with fail
  refine (askFault_any S _ _ _ key B _ HE.out.2.2.1).mono ?_
  rw [HA.out]
  rintro e w1 ⟨rfl, q1⟩
  have HE : Hid (GetCall w B S (.slice a0 S.nc c0) (.slice a1 S.nl c1) (.slice a2 S.nw c2) (.int .i64 0) (.bool false) (.int .i64 0) w1) := HE.out.later q1
  obtain ⟨⟨⟨p0, p1, p2⟩, _⟩, ⟨⟨r0, r1, r2⟩, f0, f1, f2⟩, _⟩ := HE.out
  clear q1
  go_wp2_with fail
  refine (isTime_is _ true HT.out _).mono ?_
  rintro e w1' ⟨rfl, rfl⟩
  go_wp2_with fail
  refine (columnsOf_any S B _ _ _ _ HE.out.2.2.1 HZ.out.2.1 HZ.out.2.2.1 HZ.out.2.2.2 HZ.out.1).mono ?_
  rintro e w2 ⟨b, g, u1, u2, rfl, HC, q1⟩
  clear p0 p1 p2 r0 r1 r2 f0 f1 f2
  have HE : Hid (GetCall w B S (.slice a0 S.nc c0) (.slice a1 S.nl c1) (.slice a2 S.nw c2) (.int .i64 0) (.bool false) (.int .i64 0) w2) := HE.out.later q1
  obtain ⟨⟨⟨p0, p1, p2⟩, _⟩, ⟨⟨r0, r1, r2⟩, f0, f1, f2⟩, _⟩ := HE.out
  clear q1
  go_wp2_with fail
  refine (get_none _ b _ _ S.nl S.l S.nw S.k g u1 u2 key ts _ HC HZ.out.2.2.1 HZ.out.2.2.2 HK.out HB.out.1 HB.out.2).mono ?_
  rintro e w3 ⟨rfl, q1⟩
  clear p0 p1 p2 r0 r1 r2 f0 f1 f2
  have HE : Hid (GetCall w B S (.slice a0 S.nc c0) (.slice a1 S.nl c1) (.slice a2 S.nw c2) (.int .i64 0) (.bool false) (.int .i64 0) w3) := HE.out.later q1
  obtain ⟨⟨⟨p0, p1, p2⟩, _⟩, ⟨⟨r0, r1, r2⟩, f0, f1, f2⟩, _⟩ := HE.out
  clear q1
  clear HC
  go_wp2_with fail
  refine (refusalCode_nil _).mono ?_
  rintro e w4 ⟨rfl, q1⟩
  clear p0 p1 p2 r0 r1 r2 f0 f1 f2
  have HE : Hid (GetCall w B S (.slice a0 S.nc c0) (.slice a1 S.nl c1) (.slice a2 S.nw c2) (.int .i64 0) (.bool false) (.int .i64 0) w4) := HE.out.later q1
  obtain ⟨⟨⟨p0, p1, p2⟩, _⟩, ⟨⟨r0, r1, r2⟩, f0, f1, f2⟩, _⟩ := HE.out
  clear q1
  go_wp2
  exact bodyPost_ret (v := .agg #[.int .i64 0, .bool false, .int .i64 0]) (by simp [results, Tryz.results14, go_sem, r0, r1, r2]) rfl ⟨rfl, ((HE.out.2.2.2.setCell (Nat.le_succ _) _).setCell (Nat.le_succ _) _).setCell (Nat.le_succ _) _⟩
 ·have Z := storeF_zero (askF_zero hz).1
  have HZ : Hid (scan (cellF S.c) S.nc = 0 ∧ (S.nc ≤ 200 ∧ S.nl ≤ 200 ∧ S.nw ≤ 200)) := ⟨Z.2.1, Z.1⟩
  have HK : Hid (∀ i, i < S.nw → 1 ≤ S.k (i * 4 + 3)) := fun i hi => (writeF_zero (scan_zero Z.2.2.2.1 i hi)).2.2.2.2.2.1
  have HA : Hid (askF S key = 0) := hz
  have hw0 : Wf key := wf_small (faultOf_zero (askF_zero hz).2).1 (by have := (faultOf_zero (askF_zero hz).2).2; omega)
  have hw1 : Wf (S.k (i * 4 + 2)) := by have := writeF_zero (scan_zero Z.2.2.2.1 i hr.1.1); exact wf_small (by omega) (by omega)
  have HT : Hid (decide (1 ≤ ts ∧ ts ≤ 100000) = true) := decide_eq_true ht
  have HB : Hid (¬ blocks S.l S.nl key ts) := hb
  have HR : Hid (lastW S.k S.nw key ts i ∧ S.k (i * 4 + 3) = 1) := ⟨hr.1, hr.2.1⟩
  have hm := cellM_at Z.2.1 hr.2.2.1 hr.2.2.2
  obtain ⟨v, hv⟩ : ∃ v, S.c (j * 3 + 2) = v := ⟨_, rfl⟩
  rw [hv] at hm
  rw [hv]
  have HM : Hid (cellM S S.nc key (S.k (i * 4 + 2)) = some v) := hm
  clear hz ht hb hr Z hm hv
  go_enter Tryz.func14, Tryz.ntmps14
  go_wp2_with fail
  refine (askFault_any S _ _ _ key B _ HE.out.2.2.1).mono ?_
  rw [HA.out]
  rintro e w1 ⟨rfl, q1⟩
  have HE : Hid (GetCall w B S (.slice a0 S.nc c0) (.slice a1 S.nl c1) (.slice a2 S.nw c2) (.int .i64 0) (.bool false) (.int .i64 0) w1) := HE.out.later q1
  obtain ⟨⟨⟨p0, p1, p2⟩, _⟩, ⟨⟨r0, r1, r2⟩, f0, f1, f2⟩, _⟩ := HE.out
  clear q1
  go_wp2_with fail
  refine (isTime_is _ true HT.out _).mono ?_
  rintro e w1' ⟨rfl, rfl⟩
  go_wp2_with fail
  refine (columnsOf_any S B _ _ _ _ HE.out.2.2.1 HZ.out.2.1 HZ.out.2.2.1 HZ.out.2.2.2 HZ.out.1).mono ?_
  rintro e w2 ⟨b, g, u1, u2, rfl, HC, q1⟩
  clear p0 p1 p2 r0 r1 r2 f0 f1 f2
  have HE : Hid (GetCall w B S (.slice a0 S.nc c0) (.slice a1 S.nl c1) (.slice a2 S.nw c2) (.int .i64 0) (.bool false) (.int .i64 0) w2) := HE.out.later q1
  obtain ⟨⟨⟨p0, p1, p2⟩, _⟩, ⟨⟨r0, r1, r2⟩, f0, f1, f2⟩, _⟩ := HE.out
  clear q1
  go_wp2_with fail
  refine (get_some _ b _ _ S.nl S.l S.nw S.k g u1 u2 key ts i v _ HC HZ.out.2.2.1 HZ.out.2.2.2 HK.out HB.out HR.out.1 HR.out.2 hw0 hw1 HM.out).mono ?_
  rintro e w3 ⟨rfl, q1⟩
  clear p0 p1 p2 r0 r1 r2 f0 f1 f2
  have HE : Hid (GetCall w B S (.slice a0 S.nc c0) (.slice a1 S.nl c1) (.slice a2 S.nw c2) (.int .i64 0) (.bool false) (.int .i64 0) w3) := HE.out.later q1
  obtain ⟨⟨⟨p0, p1, p2⟩, _⟩, ⟨⟨r0, r1, r2⟩, f0, f1, f2⟩, _⟩ := HE.out
  clear q1
  clear HC
  go_wp2_with fail
  refine (refusalCode_nil _).mono ?_
  rintro e w4 ⟨rfl, q1⟩
  clear p0 p1 p2 r0 r1 r2 f0 f1 f2
  have HE : Hid (GetCall w B S (.slice a0 S.nc c0) (.slice a1 S.nl c1) (.slice a2 S.nw c2) (.int .i64 0) (.bool false) (.int .i64 0) w4) := HE.out.later q1
  obtain ⟨⟨⟨p0, p1, p2⟩, _⟩, ⟨⟨r0, r1, r2⟩, f0, f1, f2⟩, _⟩ := HE.out
  clear q1
  go_wp2
  exact bodyPost_ret (v := .agg #[.int .i64 0, .bool true, .int .i64 v]) (by simp [results, Tryz.results14, go_sem, r0, r1, r2]) rfl ⟨rfl, ((HE.out.2.2.2.setCell (Nat.le_succ _) _).setCell (Nat.le_succ _) _).setCell (Nat.le_succ _) _⟩
end Go.Proofs.YtiadbiiiikhfaaaGreatDoor

namespace Go.Proofs.YtiadbiiiikhfaaaGreatDoor
open Go.RowKit

section
variable {S R : Sto} {a s c : Int}
/-- The two ways of a commit that comes to no fault. -/
theorem CommitRes.two (h : CommitRes S a s c 0 R) : (∃ i : Nat, FirstAt (writeIs S.k a s) S.nw i ∧ S.k (i * 4 + 1) = c ∧ R = S) ∨ ∃ (k : Nat) (d : Int), FirstAt (writeIs S.k a s) S.nw (-1) ∧ k ≤ S.nw ∧ R = commitS S a s c d k := by
 rcases h with ⟨i, h1, h2, _, rfl⟩ | ⟨i, _, _, q, _⟩ | ⟨_, _, q, _⟩ | ⟨_, _, _, _, _, q, _⟩ | ⟨_, _, _, _, _, _, q, _⟩ | ⟨j, k, h1, h2, h3, h4, h5, h6, _, rfl⟩
 ·exact Or.inl ⟨i, h1, h2, rfl⟩
 ·exact no2 (by decide) q
 ·exact no2 (by decide) q
 ·exact no2 (by decide) q
 ·exact no2 (by decide) q
 ·exact Or.inr ⟨k, _, h1, h6.1, rfl⟩
/-- The commit stands there. -/
theorem CommitRes.said (h : CommitRes S a s c 0 R) : ∃ i, firstW R.k R.nw a s i ∧ R.k (i * 4 + 1) = c := by
 rcases h.two with ⟨i, h1, h2, rfl⟩ | ⟨k, d, h1, h4, rfl⟩
 ·obtain ⟨x1, x2, x3⟩ := h1.at
  exact ⟨i, ⟨x1, x2, x3⟩, h2⟩
 ·refine ⟨k, ⟨Nat.lt_succ_of_le h4, ⟨ins_new0, ins_new2⟩, fun j hj q => ?_⟩, ins_new1⟩
  obtain ⟨q1, q2⟩ := q
  have hjk : j ≠ k := Nat.ne_of_lt hj
  have e0 : (commitS S a s c d k).k (j * 4) = S.k (spot k j * 4) := ins_old0 h4 (by omega) hjk
  have e2 : (commitS S a s c d k).k (j * 4 + 2) = S.k (spot k j * 4 + 2) := ins_oldd h4 (by omega) hjk (by decide)
  exact no_write h1 (spot k j) (spot_bound (by omega) hjk h4) ⟨e0.symm.trans q1, e2.symm.trans q2⟩
/-- What was last written stays where what is laid between is none of it. -/
theorem ins_last {F : Nat → Int} {n k : Nat} {x0 x1 x2 x3 : Int} (h4 : k ≤ n) (key ts : Int) (hnew : ¬ (x0 = key ∧ x1 ≤ ts ∧ x3 ≤ 2)) : (∀ i, lastW F n key ts i → ∃ j, lastW (insF F 4 n k [x0, x1, x2, x3]) (n + 1) key ts j ∧ ∀ q, q < 4 → insF F 4 n k [x0, x1, x2, x3] (j * 4 + q) = F (i * 4 + q)) ∧ ∀ j, lastW (insF F 4 n k [x0, x1, x2, x3]) (n + 1) key ts j → ∃ i, lastW F n key ts i := by
 have old : ∀ j, j < n + 1 → j ≠ k → ∀ q, q < 4 → insF F 4 n k [x0, x1, x2, x3] (j * 4 + q) = F (spot k j * 4 + q) := fun j hj hne q hq => ins_oldd h4 hj hne hq
 have lp : ∀ j, j < n + 1 → j ≠ k → (lastP (insF F 4 n k [x0, x1, x2, x3]) key ts j ↔ lastP F key ts (spot k j)) := fun j hj hne => by
  have e := old j hj hne
  unfold lastP
  rw [show insF F 4 n k [x0, x1, x2, x3] (j * 4) = F (spot k j * 4) from e 0 (by omega), e 1 (by omega), e 3 (by omega)]
 have new : ¬ lastP (insF F 4 n k [x0, x1, x2, x3]) key ts k := fun q => by
  unfold lastP at q
  rw [ins_new0, ins_new1, ins_new3] at q
  exact hnew q
 constructor
 ·rintro i ⟨h1, h2, h3⟩
  obtain ⟨j, hj⟩ : ∃ j, j = if i < k then i else i + 1 := ⟨_, rfl⟩
  have hjk : j ≠ k := by rw [hj]; split <;> omega
  have hjn : j < n + 1 := by rw [hj]; split <;> omega
  have hsp : spot k j = i := by unfold spot; split at hj <;> split <;> omega
  refine ⟨j, ⟨hjn, (lp j hjn hjk).2 (by rw [hsp]; exact h2), fun j' hlt hj' q => ?_⟩, fun q hq => by rw [old j hjn hjk q hq, hsp]⟩
  by_cases e : j' = k
  ·subst e; exact new q
  ·refine h3 (spot k j') ?_ (spot_bound (by omega) e h4) ((lp j' hj' e).1 q)
   rw [← hsp]
   exact spot_lt hlt hjk e
 ·rintro j ⟨h1, h2, h3⟩
  have hjk : j ≠ k := fun e => new (e ▸ h2)
  refine ⟨spot k j, spot_bound (by omega) hjk h4, (lp j h1 hjk).1 h2, fun i hlt hi q => ?_⟩
  obtain ⟨j', hj⟩ : ∃ j, j = if i < k then i else i + 1 := ⟨_, rfl⟩
  have hjk' : j' ≠ k := by rw [hj]; split <;> omega
  have hjn : j' < n + 1 := by rw [hj]; split <;> omega
  have hsp : spot k j' = i := by unfold spot; split at hj <;> split <;> omega
  refine h3 j' ?_ hjn ((lp j' hjn hjk').2 (by rw [hsp]; exact q))
  rcases Nat.lt_trichotomy j j' with e | e | e
  ·exact e
  ·subst e; omega
  ·have := spot_lt e hjk' hjk
   omega
/-- Two answers of what was last written, of stores in which it is the same. -/
theorem last_same (hz : storeF S = 0) (hr : storeF R = 0) {key ts c c' : Int} {n n' : Nat} {F F' : Nat → Int} (hk : (∀ i, lastW S.k S.nw key ts i → ∃ j, lastW R.k R.nw key ts j ∧ ∀ q, q < 4 → R.k (j * 4 + q) = S.k (i * 4 + q)) ∧ ∀ j, lastW R.k R.nw key ts j → ∃ i, lastW S.k S.nw key ts i) (h1 : LastWriteAns S key ts c n F) (h2 : LastWriteAns R key ts c' n' F') : c' = c ∧ n' = n ∧ (c = 0 → n = 1 ∧ ∀ q, q < 4 → F' q = F q) := by
 have ha := ask_left hz hr key
 rcases h1 with ⟨x1, rfl, rfl⟩ | ⟨x1, x2, rfl, rfl⟩ | ⟨x1, i, x2, x3, rfl, rfl, rfl⟩
 ·rcases h2 with ⟨y1, rfl, rfl⟩ | ⟨y1, _⟩ | ⟨y1, _⟩
  ·exact ⟨ha, rfl, fun q => absurd q x1⟩
  ·exact absurd (ha ▸ y1) x1
  ·exact absurd (ha ▸ y1) x1
 ·rcases h2 with ⟨y1, _⟩ | ⟨y1, _, rfl, rfl⟩ | ⟨y1, j, _, y3, _⟩
  ·exact absurd (ha.trans x1) y1
  ·exact ⟨rfl, rfl, fun q => absurd q (by decide)⟩
  ·obtain ⟨i, hi⟩ := hk.2 j y3
   exact absurd hi (x2 i)
 ·obtain ⟨j, hj, e⟩ := hk.1 i x3
  rcases h2 with ⟨y1, _⟩ | ⟨y1, y2, _⟩ | ⟨y1, j', _, y3, rfl, rfl, rfl⟩
  ·exact absurd (ha.trans x1) y1
  ·exact absurd hj (y2 j)
  ·obtain rfl := hj.one y3
   exact ⟨rfl, rfl, fun _ => ⟨rfl, e⟩⟩
theorem com_last (hz : storeF S = 0) (hr : storeF R = 0) (h : CommitRes S a s c 0 R) {c1 c2 : Int} {n n' : Nat} {F F' : Nat → Int} (h1 : LastWriteAns S a (c - 1) c1 n F) (h2 : LastWriteAns R a (c - 1) c2 n' F') : c2 = c1 ∧ n' = n ∧ (c1 = 0 → n = 1 ∧ ∀ q, q < 4 → F' q = F q) := by
 refine last_same hz hr ?_ h1 h2
 rcases h.two with ⟨i, _, _, rfl⟩ | ⟨k, d, _, h4, rfl⟩
 ·exact ⟨fun i hi => ⟨i, hi, fun _ _ => rfl⟩, fun i hi => ⟨i, hi⟩⟩
 ·exact ins_last h4 a (c - 1) (fun q => by have := q.2.1; omega)
/-- Committing again changes nothing. -/
theorem com_again (hr : storeF R = 0) (hf : faultOf a = 0) (hs : isT s) (hc : isT c) (hlt : s < c) (h : CommitRes S a s c 0 R) : CommitAns R a s c 0 R := by
 have ha : askF R a = 0 := by unfold askF; rw [if_neg (fun q => q hr)]; exact hf
 obtain ⟨i, h1, h2⟩ := h.said
 exact Or.inr (Or.inr (Or.inr (Or.inr ⟨ha, hs, hc, hlt, Or.inl ⟨i, Or.inr ⟨i, h1.1, rfl, h1.2.1, h1.2.2⟩, h2, rfl, rfl⟩⟩)))
/-- What is told of the write and of its time. -/
theorem com_write (hr : storeF R = 0) (hf : faultOf a = 0) (h : CommitRes S a s c 0 R) {c1 c2 v2 : Int} {n : Nat} {F : Nat → Int} (h1 : WriteOfAns R a s c1 n F) (h2 : CommAns R a s c2 v2) : c1 = 0 ∧ n = 1 ∧ F 1 = c ∧ (v2 = c ∨ F 3 = 4) := by
 have ha : askF R a = 0 := by unfold askF; rw [if_neg (fun q => q hr)]; exact hf
 obtain ⟨i, x1, x2⟩ := h.said
 rcases h1 with ⟨q, _⟩ | ⟨_, q, _⟩ | ⟨_, j, _, y1, rfl, rfl, rfl⟩
 ·exact absurd ha q
 ·exact absurd x1 (q i)
 ·obtain rfl := y1.one x1
  refine ⟨rfl, rfl, x2, ?_⟩
  rcases h2 with ⟨q, _⟩ | ⟨_, ⟨k, z1, _, rfl⟩ | ⟨z1, _⟩⟩
  ·exact absurd ha q
  ·obtain rfl := z1.1.one x1
   exact Or.inl x2
  ·refine Or.inr (Classical.byContradiction fun q => z1 j ⟨x1, q⟩)
theorem writes_riseC {S : Sto} (h : scan (writeF S.k) S.nw = 0) : ∀ j, j < S.nw → ∀ i, i < j → pairLt (S.k (i * 4)) (S.k (i * 4 + 1)) (S.k (j * 4)) (S.k (j * 4 + 1)) :=
 rise_pairs (p := fun i => S.k (i * 4)) (q := fun i => S.k (i * 4 + 1)) (fun i hi => (writeF_full (scan_zero h (i + 1) hi)).2.2.1 (Nat.succ_pos i))
/-- A put that is committed is read. -/
theorem com_get (hr : storeF R = 0) (hf : faultOf a = 0) (h : CommitRes S a s c 0 R) {c1 : Int} {n : Nat} {F : Nat → Int} (h1 : WriteOfAns R a s c1 n F) (hp : F 3 = 1) {gc gv : Int} {gh : Bool} (h2 : GetAns R a c gc gh gv) : gc ≠ 0 ∨ (gh = true ∧ gv = cellAtV R a s) := by
 have ha : askF R a = 0 := by unfold askF; rw [if_neg (fun q => q hr)]; exact hf
 obtain ⟨i, x1, x2⟩ := h.said
 have h3 : R.k (i * 4 + 3) = 1 := by
  rcases h1 with ⟨q, _⟩ | ⟨_, q, _⟩ | ⟨_, j, _, y1, _, _, rfl⟩
  ·exact absurd ha q
  ·exact absurd x1 (q i)
  ·obtain rfl := y1.one x1
   exact hp
 have hw : lastW R.k R.nw a c i := by
  refine ⟨x1.1, ⟨x1.2.1.1, by omega, by omega⟩, fun j hij hj q => ?_⟩
  have := writes_riseC (storeF_zero hr).2.2.2.1 j hj i hij
  unfold pairLt at this
  have e1 := q.1
  have e2 := q.2.1
  have e3 := x1.2.1.1
  omega
 rcases h2 with ⟨q, _⟩ | ⟨_, _, rfl, _⟩ | ⟨_, _, _, rfl, _⟩ | ⟨_, _, _, q, _⟩ | ⟨_, _, _, i', j, q, rfl, rfl, rfl⟩
 ·exact absurd ha q
 ·exact Or.inl (by decide)
 ·exact Or.inl (by decide)
 ·exact absurd h3 (q i hw)
 ·refine Or.inr ⟨rfl, ?_⟩
  obtain ⟨q1, q2, q3, q4⟩ := q
  obtain rfl := q1.one hw
  unfold cellAtV
  rw [if_neg (fun q => q ha)]
  rw [x1.2.1.2] at q4
  rw [cellM_at (storeF_zero hr).2.1 q3 q4]
  rfl
end
end Go.Proofs.YtiadbiiiikhfaaaGreatDoor

namespace Go.Proofs.YtiadbiiiikhfaaaGreatDoor
open Go.RowKit

/-- Two rows are alike. -/
def Alike (m n : Nat) (F : Nat → Int) (n' : Nat) (G : Nat → Int) : Prop := n = n' ∧ ∀ p, p < n * m → F p = G p
/-- Of the first k elements all numbers are alike. -/
def Upto (N : Nat) (F G : Nat → Int) : Prop := ∀ p, p < N → F p = G p
theorem neqCell (x0 x1 x2 y0 y1 y2 : Int) (r : Bool) (hr : decide (x0 = y0 ∧ x1 = y1 ∧ x2 = y2) = r) (w : World) : (binOp .neq 93 (.agg #[.int .i64 x0, .int .i64 x1, .int .i64 x2]) (.agg #[.int .i64 y0, .int .i64 y1, .int .i64 y2])).run Tryz.prog w = .ok (.bool (!r)) w := by
 have hS : Tryz.prog.underlying 93 = some (.struct (Tryz.prog.fieldsOf 93)) := by kernel_rfl
 have hp : Tryz.prog.stoodInHeld 93 = false := by kernel_rfl
 have u2 := Tryz.underlying2
 have a2 := Tryz.isAgg2
 have z2 := Tryz.sizeOf2
 rw [run_neq_struct, show (10000 : Nat) = 9999 + 1 from rfl, run_equalIn_agg w 9999 _ _ _ hS hp]
 simp only [Program.fieldsOf, Tryz.underlying93]
 subst hr
 go_simp
 by_cases h0 : x0 = y0 <;> by_cases h1 : x1 = y1 <;> by_cases h2 : x2 = y2 <;> simp [h0, h1, h2]

theorem neqLock (x0 x1 x2 x3 x4 y0 y1 y2 y3 y4 : Int) (r : Bool) (hr : decide (x0 = y0 ∧ x1 = y1 ∧ x2 = y2 ∧ x3 = y3 ∧ x4 = y4) = r) (w : World) : (binOp .neq 40 (.agg #[.int .i64 x0, .int .i64 x1, .int .i64 x2, .int .i64 x3, .int .i64 x4]) (.agg #[.int .i64 y0, .int .i64 y1, .int .i64 y2, .int .i64 y3, .int .i64 y4])).run Tryz.prog w = .ok (.bool (!r)) w := by
 have hS : Tryz.prog.underlying 40 = some (.struct (Tryz.prog.fieldsOf 40)) := by kernel_rfl
 have hp : Tryz.prog.stoodInHeld 40 = false := by kernel_rfl
 have u2 := Tryz.underlying2
 have a2 := Tryz.isAgg2
 have z2 := Tryz.sizeOf2
 rw [run_neq_struct, show (10000 : Nat) = 9999 + 1 from rfl, run_equalIn_agg w 9999 _ _ _ hS hp]
 simp only [Program.fieldsOf, Tryz.underlying40]
 subst hr
 go_simp
 by_cases h0 : x0 = y0 <;> by_cases h1 : x1 = y1 <;> by_cases h2 : x2 = y2 <;> by_cases h3 : x3 = y3 <;> by_cases h4 : x4 = y4 <;> simp [h0, h1, h2, h3, h4]

theorem neqWrite (x0 x1 x2 x3 y0 y1 y2 y3 : Int) (r : Bool) (hr : decide (x0 = y0 ∧ x1 = y1 ∧ x2 = y2 ∧ x3 = y3) = r) (w : World) : (binOp .neq 55 (.agg #[.int .i64 x0, .int .i64 x1, .int .i64 x2, .int .i64 x3]) (.agg #[.int .i64 y0, .int .i64 y1, .int .i64 y2, .int .i64 y3])).run Tryz.prog w = .ok (.bool (!r)) w := by
 have hS : Tryz.prog.underlying 55 = some (.struct (Tryz.prog.fieldsOf 55)) := by kernel_rfl
 have hp : Tryz.prog.stoodInHeld 55 = false := by kernel_rfl
 have u2 := Tryz.underlying2
 have a2 := Tryz.isAgg2
 have z2 := Tryz.sizeOf2
 rw [run_neq_struct, show (10000 : Nat) = 9999 + 1 from rfl, run_equalIn_agg w 9999 _ _ _ hS hp]
 simp only [Program.fieldsOf, Tryz.underlying55]
 subst hr
 go_simp
 by_cases h0 : x0 = y0 <;> by_cases h1 : x1 = y1 <;> by_cases h2 : x2 = y2 <;> by_cases h3 : x3 = y3 <;> simp [h0, h1, h2, h3]

theorem uptoCell {k : Nat} {F G : Nat → Int} (hU : Hid (Upto (k * 3) F G)) (he : F (k * 3) = G (k * 3) ∧ F (k * 3 + 1) = G (k * 3 + 1) ∧ F (k * 3 + 2) = G (k * 3 + 2)) : Upto ((k + 1) * 3) F G := fun p hp => by
    rcases Nat.lt_or_ge p (k * 3) with h | h
    ·exact hU.out p h
    ·obtain rfl | rfl | rfl : p = k * 3 ∨ p = k * 3 + 1 ∨ p = k * 3 + 2 := by omega
     ·exact he.1
     ·exact he.2.1
     ·exact he.2.2

set_option maxHeartbeats 1000000 in
theorem equalCell_any (va vb : Value) (Ba Bb n n' : Nat) (F G : Nat → Int) (r : Bool) (w : World) (ha : Row w Ba 3 n F va) (hb : Row w Bb 3 n' G vb) (hn : n ≤ 1048576) (hn' : n' ≤ 1048576) (hr : r = true ↔ Alike 3 n F n' G) :
  Calls Tryz.prog 58 #[va, vb] w fun e w' => e = .returned (.bool r) ∧ ∃ q, w' = w.drewN q := by
 obtain ⟨ao, ca, rfl⟩ := ha.form
 obtain ⟨bo, cb, rfl⟩ := hb.form
 have HA : Hid (Row w Ba 3 n F (.slice ao n ca)) := ha
 have HB : Hid (Row w Bb 3 n' G (.slice bo n' cb)) := hb
 have HR : Hid (r = true ↔ Alike 3 n F n' G) := hr
 clear ha hb hr
 have hgd : Tryz.prog.eqGuardType Tryz.prog.depth 93 = false := by kernel_rfl
 by_cases hne : n = n'
 case neg =>
  have E : Hid (r = false) := by
   cases r with
   | false => rfl
   | true => exact absurd (HR.out.1 rfl).1 hne
  have d : ((n : Int) != (n' : Int)) = true := bne_iff_ne.2 (by omega)
  clear hne hn hn' hgd HA HB HR
  go_enter Tryz.func58, Tryz.ntmps58
  go_wp2
  go_ret
  exact ⟨by rw [E.out]; rfl, 0, rfl⟩
 subst hne
 go_enter Tryz.func58, Tryz.ntmps58
 go_wp2
 go_loopw [13] (fun i wr => ∃ k q : Nat, k ≤ n ∧ i = .int .i64 k ∧ Hid (Upto (k * 3) F G) ∧ wr = w.drewN q) (fun i _ => n - (intOf i).toNat)
 case atStart => exact ⟨0, 0, Nat.zero_le _, rfl, fun p hp => absurd hp (by omega), rfl⟩
 case round =>
  obtain ⟨k, q, hk, rfl, hU, rfl⟩ := hrel
  by_cases hlt : k < n
  ·obtain ⟨g, o, rfl, _, hg, c0, c1, c2⟩ := HA.out.at3 hlt
   obtain ⟨g', o', rfl, _, hg', d0, d1, d2⟩ := HB.out.at3 hlt
   by_cases he : F (k * 3) = G (k * 3) ∧ F (k * 3 + 1) = G (k * 3 + 1) ∧ F (k * 3 + 2) = G (k * 3 + 2)
   ·have hq := neqCell (F (k * 3)) (F (k * 3 + 1)) (F (k * 3 + 2)) (G (k * 3)) (G (k * 3 + 1)) (G (k * 3 + 2)) true (decide_eq_true he)
    have hU2 : Hid (Upto ((k + 1) * 3) F G) := uptoCell hU he
    clear he hU
    go_wp2
    go_quiet (fail)
    go_wp2
    go_roundw
    case rel => exact ⟨k + 1, _, by omega, by go_num, hU2, rfl⟩
    case measure => simp [intOf]; omega
   ·have hq := neqCell (F (k * 3)) (F (k * 3 + 1)) (F (k * 3 + 2)) (G (k * 3)) (G (k * 3 + 1)) (G (k * 3 + 2)) false (decide_eq_false he)
    have E : Hid (r = false) := by
     cases r with
     | false => rfl
     | true =>
      have h := (HR.out.1 rfl).2
      exact absurd ⟨h _ (by omega), h _ (by omega), h _ (by omega)⟩ he
    clear he hU
    go_wp2
    go_quiet (fail)
    go_wp2
    go_ret
    exact ⟨by rw [E.out]; rfl, _, World.drewN_drewN _ _ _⟩
  ·obtain rfl : k = n := by omega
   have E : Hid (r = true) := HR.out.2 ⟨rfl, hU.out⟩
   clear hU
   go_wp2
   go_ret
   exact ⟨by rw [E.out]; rfl, _, rfl⟩

theorem uptoLock {k : Nat} {F G : Nat → Int} (hU : Hid (Upto (k * 5) F G)) (he : F (k * 5) = G (k * 5) ∧ F (k * 5 + 1) = G (k * 5 + 1) ∧ F (k * 5 + 2) = G (k * 5 + 2) ∧ F (k * 5 + 3) = G (k * 5 + 3) ∧ F (k * 5 + 4) = G (k * 5 + 4)) : Upto ((k + 1) * 5) F G := fun p hp => by
    rcases Nat.lt_or_ge p (k * 5) with h | h
    ·exact hU.out p h
    ·obtain rfl | rfl | rfl | rfl | rfl : p = k * 5 ∨ p = k * 5 + 1 ∨ p = k * 5 + 2 ∨ p = k * 5 + 3 ∨ p = k * 5 + 4 := by omega
     ·exact he.1
     ·exact he.2.1
     ·exact he.2.2.1
     ·exact he.2.2.2.1
     ·exact he.2.2.2.2

set_option maxHeartbeats 1000000 in
theorem equalLock_any (va vb : Value) (Ba Bb n n' : Nat) (F G : Nat → Int) (r : Bool) (w : World) (ha : Row w Ba 5 n F va) (hb : Row w Bb 5 n' G vb) (hn : n ≤ 1048576) (hn' : n' ≤ 1048576) (hr : r = true ↔ Alike 5 n F n' G) :
  Calls Tryz.prog 59 #[va, vb] w fun e w' => e = .returned (.bool r) ∧ ∃ q, w' = w.drewN q := by
 obtain ⟨ao, ca, rfl⟩ := ha.form
 obtain ⟨bo, cb, rfl⟩ := hb.form
 have HA : Hid (Row w Ba 5 n F (.slice ao n ca)) := ha
 have HB : Hid (Row w Bb 5 n' G (.slice bo n' cb)) := hb
 have HR : Hid (r = true ↔ Alike 5 n F n' G) := hr
 clear ha hb hr
 have hgd : Tryz.prog.eqGuardType Tryz.prog.depth 40 = false := by kernel_rfl
 by_cases hne : n = n'
 case neg =>
  have E : Hid (r = false) := by
   cases r with
   | false => rfl
   | true => exact absurd (HR.out.1 rfl).1 hne
  have d : ((n : Int) != (n' : Int)) = true := bne_iff_ne.2 (by omega)
  clear hne hn hn' hgd HA HB HR
  go_enter Tryz.func59, Tryz.ntmps59
  go_wp2
  go_ret
  exact ⟨by rw [E.out]; rfl, 0, rfl⟩
 subst hne
 go_enter Tryz.func59, Tryz.ntmps59
 go_wp2
 go_loopw [13] (fun i wr => ∃ k q : Nat, k ≤ n ∧ i = .int .i64 k ∧ Hid (Upto (k * 5) F G) ∧ wr = w.drewN q) (fun i _ => n - (intOf i).toNat)
 case atStart => exact ⟨0, 0, Nat.zero_le _, rfl, fun p hp => absurd hp (by omega), rfl⟩
 case round =>
  obtain ⟨k, q, hk, rfl, hU, rfl⟩ := hrel
  by_cases hlt : k < n
  ·obtain ⟨g, o, rfl, _, hg, c0, c1, c2, c3, c4⟩ := HA.out.at5 hlt
   obtain ⟨g', o', rfl, _, hg', d0, d1, d2, d3, d4⟩ := HB.out.at5 hlt
   by_cases he : F (k * 5) = G (k * 5) ∧ F (k * 5 + 1) = G (k * 5 + 1) ∧ F (k * 5 + 2) = G (k * 5 + 2) ∧ F (k * 5 + 3) = G (k * 5 + 3) ∧ F (k * 5 + 4) = G (k * 5 + 4)
   ·have hq := neqLock (F (k * 5)) (F (k * 5 + 1)) (F (k * 5 + 2)) (F (k * 5 + 3)) (F (k * 5 + 4)) (G (k * 5)) (G (k * 5 + 1)) (G (k * 5 + 2)) (G (k * 5 + 3)) (G (k * 5 + 4)) true (decide_eq_true he)
    have hU2 : Hid (Upto ((k + 1) * 5) F G) := uptoLock hU he
    clear he hU
    go_wp2
    go_quiet (fail)
    go_wp2
    go_roundw
    case rel => exact ⟨k + 1, _, by omega, by go_num, hU2, rfl⟩
    case measure => simp [intOf]; omega
   ·have hq := neqLock (F (k * 5)) (F (k * 5 + 1)) (F (k * 5 + 2)) (F (k * 5 + 3)) (F (k * 5 + 4)) (G (k * 5)) (G (k * 5 + 1)) (G (k * 5 + 2)) (G (k * 5 + 3)) (G (k * 5 + 4)) false (decide_eq_false he)
    have E : Hid (r = false) := by
     cases r with
     | false => rfl
     | true =>
      have h := (HR.out.1 rfl).2
      exact absurd ⟨h _ (by omega), h _ (by omega), h _ (by omega), h _ (by omega), h _ (by omega)⟩ he
    clear he hU
    go_wp2
    go_quiet (fail)
    go_wp2
    go_ret
    exact ⟨by rw [E.out]; rfl, _, World.drewN_drewN _ _ _⟩
  ·obtain rfl : k = n := by omega
   have E : Hid (r = true) := HR.out.2 ⟨rfl, hU.out⟩
   clear hU
   go_wp2
   go_ret
   exact ⟨by rw [E.out]; rfl, _, rfl⟩

theorem uptoWrite {k : Nat} {F G : Nat → Int} (hU : Hid (Upto (k * 4) F G)) (he : F (k * 4) = G (k * 4) ∧ F (k * 4 + 1) = G (k * 4 + 1) ∧ F (k * 4 + 2) = G (k * 4 + 2) ∧ F (k * 4 + 3) = G (k * 4 + 3)) : Upto ((k + 1) * 4) F G := fun p hp => by
    rcases Nat.lt_or_ge p (k * 4) with h | h
    ·exact hU.out p h
    ·obtain rfl | rfl | rfl | rfl : p = k * 4 ∨ p = k * 4 + 1 ∨ p = k * 4 + 2 ∨ p = k * 4 + 3 := by omega
     ·exact he.1
     ·exact he.2.1
     ·exact he.2.2.1
     ·exact he.2.2.2

set_option maxHeartbeats 1000000 in
theorem equalWrite_any (va vb : Value) (Ba Bb n n' : Nat) (F G : Nat → Int) (r : Bool) (w : World) (ha : Row w Ba 4 n F va) (hb : Row w Bb 4 n' G vb) (hn : n ≤ 1048576) (hn' : n' ≤ 1048576) (hr : r = true ↔ Alike 4 n F n' G) :
  Calls Tryz.prog 60 #[va, vb] w fun e w' => e = .returned (.bool r) ∧ ∃ q, w' = w.drewN q := by
 obtain ⟨ao, ca, rfl⟩ := ha.form
 obtain ⟨bo, cb, rfl⟩ := hb.form
 have HA : Hid (Row w Ba 4 n F (.slice ao n ca)) := ha
 have HB : Hid (Row w Bb 4 n' G (.slice bo n' cb)) := hb
 have HR : Hid (r = true ↔ Alike 4 n F n' G) := hr
 clear ha hb hr
 have hgd : Tryz.prog.eqGuardType Tryz.prog.depth 55 = false := by kernel_rfl
 by_cases hne : n = n'
 case neg =>
  have E : Hid (r = false) := by
   cases r with
   | false => rfl
   | true => exact absurd (HR.out.1 rfl).1 hne
  have d : ((n : Int) != (n' : Int)) = true := bne_iff_ne.2 (by omega)
  clear hne hn hn' hgd HA HB HR
  go_enter Tryz.func60, Tryz.ntmps60
  go_wp2
  go_ret
  exact ⟨by rw [E.out]; rfl, 0, rfl⟩
 subst hne
 go_enter Tryz.func60, Tryz.ntmps60
 go_wp2
 go_loopw [13] (fun i wr => ∃ k q : Nat, k ≤ n ∧ i = .int .i64 k ∧ Hid (Upto (k * 4) F G) ∧ wr = w.drewN q) (fun i _ => n - (intOf i).toNat)
 case atStart => exact ⟨0, 0, Nat.zero_le _, rfl, fun p hp => absurd hp (by omega), rfl⟩
 case round =>
  obtain ⟨k, q, hk, rfl, hU, rfl⟩ := hrel
  by_cases hlt : k < n
  ·obtain ⟨g, o, rfl, _, hg, c0, c1, c2, c3⟩ := HA.out.at4 hlt
   obtain ⟨g', o', rfl, _, hg', d0, d1, d2, d3⟩ := HB.out.at4 hlt
   by_cases he : F (k * 4) = G (k * 4) ∧ F (k * 4 + 1) = G (k * 4 + 1) ∧ F (k * 4 + 2) = G (k * 4 + 2) ∧ F (k * 4 + 3) = G (k * 4 + 3)
   ·have hq := neqWrite (F (k * 4)) (F (k * 4 + 1)) (F (k * 4 + 2)) (F (k * 4 + 3)) (G (k * 4)) (G (k * 4 + 1)) (G (k * 4 + 2)) (G (k * 4 + 3)) true (decide_eq_true he)
    have hU2 : Hid (Upto ((k + 1) * 4) F G) := uptoWrite hU he
    clear he hU
    go_wp2
    go_quiet (fail)
    go_wp2
    go_roundw
    case rel => exact ⟨k + 1, _, by omega, by go_num, hU2, rfl⟩
    case measure => simp [intOf]; omega
   ·have hq := neqWrite (F (k * 4)) (F (k * 4 + 1)) (F (k * 4 + 2)) (F (k * 4 + 3)) (G (k * 4)) (G (k * 4 + 1)) (G (k * 4 + 2)) (G (k * 4 + 3)) false (decide_eq_false he)
    have E : Hid (r = false) := by
     cases r with
     | false => rfl
     | true =>
      have h := (HR.out.1 rfl).2
      exact absurd ⟨h _ (by omega), h _ (by omega), h _ (by omega), h _ (by omega)⟩ he
    clear he hU
    go_wp2
    go_quiet (fail)
    go_wp2
    go_ret
    exact ⟨by rw [E.out]; rfl, _, World.drewN_drewN _ _ _⟩
  ·obtain rfl : k = n := by omega
   have E : Hid (r = true) := HR.out.2 ⟨rfl, hU.out⟩
   clear hU
   go_wp2
   go_ret
   exact ⟨by rw [E.out]; rfl, _, rfl⟩
end Go.Proofs.YtiadbiiiikhfaaaGreatDoor

namespace Go.Proofs.YtiadbiiiikhfaaaGreatDoor
open Go.RowKit
set_option linter.unusedVariables false

def SameS (S T : Sto) : Prop := Alike 3 S.nc S.c T.nc T.c ∧ Alike 5 S.nl S.l T.nl T.l ∧ Alike 4 S.nw S.k T.nw T.k
theorem below_drewN {B : Nat} {a w : World} (h : Below B a w) (q : Nat) : Below B a (w.drewN q) := ⟨h.os, h.tape, h.output, h.size, h.block⟩

set_option maxHeartbeats 1000000 in
theorem implSame_any (S T : Sto) (v0 v1 v2 u0 u1 u2 : Value) (B B' : Nat) (r : Bool) (w : World) (h : St w B S v0 v1 v2) (h' : St w B' T u0 u1 u2) (hc : S.nc ≤ 1048576) (hl : S.nl ≤ 1048576) (hk : S.nw ≤ 1048576) (hc' : T.nc ≤ 1048576) (hl' : T.nl ≤ 1048576) (hk' : T.nw ≤ 1048576) (hr : r = true ↔ SameS S T) :
  Calls Tryz.prog 16 #[.agg #[v0, v1, v2], .agg #[u0, u1, u2]] w fun e w' => e = .returned (.bool r) ∧ Below w.heap.size w w' := by
 obtain ⟨a0, c0, a1, c1, a2, c2, rfl, rfl, rfl⟩ := h.form
 obtain ⟨b0, d0, b1, d1, b2, d2, rfl, rfl, rfl⟩ := h'.form
 have H : Hid (St w B S (.slice a0 S.nc c0) (.slice a1 S.nl c1) (.slice a2 S.nw c2)) := h
 have H' : Hid (St w B' T (.slice b0 T.nc d0) (.slice b1 T.nl d1) (.slice b2 T.nw d2)) := h'
 have HR : Hid (r = true ↔ SameS S T) := hr
 clear h h' hr
 by_cases h0 : Alike 3 S.nc S.c T.nc T.c
 case neg =>
  have E : Hid (r = false) := by
   cases r with
   | false => rfl
   | true => exact absurd (HR.out.1 rfl).1 h0
  have H0 : Hid (¬ Alike 3 S.nc S.c T.nc T.c) := h0
  clear h0
  go_enter Tryz.func16, Tryz.ntmps16
  go_wp2_with fail
  refine (equalCell_any _ _ B B' _ _ _ _ false _ ((H.out.1.alloc _).alloc _) ((H'.out.1.alloc _).alloc _) hc hc' ⟨fun h => absurd h (by decide), fun h => absurd h H0.out⟩).mono ?_
  rintro e w1 ⟨rfl, q, rfl⟩
  go_wp2
  go_ret
  exact ⟨by rw [E.out]; rfl, below_drewN ((below_alloc _ _).alloc (by simp) _) q⟩
 have H0 : Hid (Alike 3 S.nc S.c T.nc T.c) := h0
 clear h0
 by_cases h1 : Alike 5 S.nl S.l T.nl T.l
 case neg =>
  have E : Hid (r = false) := by
   cases r with
   | false => rfl
   | true => exact absurd (HR.out.1 rfl).2.1 h1
  have H1 : Hid (¬ Alike 5 S.nl S.l T.nl T.l) := h1
  clear h1
  go_enter Tryz.func16, Tryz.ntmps16
  go_wp2_with fail
  refine (equalCell_any _ _ B B' _ _ _ _ true _ ((H.out.1.alloc _).alloc _) ((H'.out.1.alloc _).alloc _) hc hc' ⟨fun _ => H0.out, fun _ => rfl⟩).mono ?_
  rintro e w1 ⟨rfl, q, rfl⟩
  go_wp2_with fail
  refine (equalLock_any _ _ B B' _ _ _ _ false _ (((H.out.2.1.alloc _).alloc _).drewN q) (((H'.out.2.1.alloc _).alloc _).drewN q) hl hl' ⟨fun h => absurd h (by decide), fun h => absurd h H1.out⟩).mono ?_
  rintro e w1 ⟨rfl, q2, rfl⟩
  go_wp2
  go_ret
  exact ⟨by rw [E.out]; rfl, by first | exact below_drewN ((below_alloc _ _).alloc (by simp) _) _ | exact below_drewN (below_drewN ((below_alloc _ _).alloc (by simp) _) _) _⟩
 have H1 : Hid (Alike 5 S.nl S.l T.nl T.l) := h1
 clear h1
 have HR3 : Hid (r = true ↔ Alike 4 S.nw S.k T.nw T.k) := ⟨fun h => (HR.out.1 h).2.2, fun h => HR.out.2 ⟨H0.out, H1.out, h⟩⟩
 go_enter Tryz.func16, Tryz.ntmps16
 go_wp2_with fail
 refine (equalCell_any _ _ B B' _ _ _ _ true _ ((H.out.1.alloc _).alloc _) ((H'.out.1.alloc _).alloc _) hc hc' ⟨fun _ => H0.out, fun _ => rfl⟩).mono ?_
 rintro e w1 ⟨rfl, q, rfl⟩
 go_wp2_with fail
 refine (equalLock_any _ _ B B' _ _ _ _ true _ (((H.out.2.1.alloc _).alloc _).drewN q) (((H'.out.2.1.alloc _).alloc _).drewN q) hl hl' ⟨fun _ => H1.out, fun _ => rfl⟩).mono ?_
 rintro e w1 ⟨rfl, q2, rfl⟩
 go_wp2_with fail
 refine (equalWrite_any _ _ B B' _ _ _ _ r _ (((H.out.2.2.alloc _).alloc _).drewN (q + q2)) (((H'.out.2.2.alloc _).alloc _).drewN (q + q2)) hk hk' HR3.out).mono ?_
 rintro e w1 ⟨rfl, q3, rfl⟩
 go_wp2
 go_ret
 exact ⟨rfl, by first | exact below_drewN ((below_alloc _ _).alloc (by simp) _) _ | exact below_drewN (below_drewN ((below_alloc _ _).alloc (by simp) _) _) _ | exact below_drewN (below_drewN (below_drewN ((below_alloc _ _).alloc (by simp) _) _) _) _⟩

end Go.Proofs.YtiadbiiiikhfaaaGreatDoor

namespace Go.Proofs.YtiadbiiiikhfaaaGreatDoor
open Go.RowKit

/-- What the law's draw answers. -/
def DrawnC (w : World) (e : Ending) (w' : World) : Prop := ∃ (S : Sto) (a0 : Option Addr) (c0 : Nat) (a1 : Option Addr) (c1 : Nat) (a2 : Option Addr) (c2 : Nat) (key start c : Int), e = .returned (.tuple #[.agg #[.slice a0 S.nc c0, .slice a1 S.nl c1, .slice a2 S.nw c2], .int .i64 key, .int .i64 start, .int .i64 c]) ∧ St w' 0 S (.slice a0 S.nc c0) (.slice a1 S.nl c1) (.slice a2 S.nw c2) ∧ Below w.heap.size w w'
/-- What stands: besides, what the second commit answered, and the write. -/
def EnP (w : World) (b3 b7 b8 b9 : Nat) (S R : Sto) (v0 v1 v2 r0 r1 r2 s0 s1 s2 s9 : Value) (g9 o9 : Nat) (n0 n1 n2 n3 : Int) (x : World) : Prop := EnU w b3 b7 0 S R v0 v1 v2 r0 r1 r2 x ∧ ResU x b8 0 R s0 s1 s2 ∧ Blk2 x b9 (.int .i64 0) s9 ∧ C4 x g9 o9 n0 n1 n2 n3
theorem EnP.later {w x x' : World} {b3 b7 b8 b9 : Nat} {S R : Sto} {v0 v1 v2 r0 r1 r2 s0 s1 s2 s9 : Value} {g9 o9 : Nat} {n0 n1 n2 n3 : Int} (h : EnP w b3 b7 b8 b9 S R v0 v1 v2 r0 r1 r2 s0 s1 s2 s9 g9 o9 n0 n1 n2 n3 x) (hb : Below x.heap.size x x') : EnP w b3 b7 b8 b9 S R v0 v1 v2 r0 r1 r2 s0 s1 s2 s9 g9 o9 n0 n1 n2 n3 x' := ⟨h.1.later hb, h.2.1.later hb, h.2.2.1.later hb, h.2.2.2.later hb⟩
/-- .. and two answers of what was last written. -/
def EnQ (w : World) (b3 b7 b8 b9 ba bb : Nat) (S R : Sto) (v0 v1 v2 r0 r1 r2 s0 s1 s2 s9 : Value) (g9 o9 : Nat) (n0 n1 n2 n3 : Int) (lc : Int) (sa sb : Value) (x : World) : Prop := EnP w b3 b7 b8 b9 S R v0 v1 v2 r0 r1 r2 s0 s1 s2 s9 g9 o9 n0 n1 n2 n3 x ∧ Blk2 x ba (.int .i64 lc) sa ∧ Blk2 x bb (.int .i64 lc) sb
theorem EnQ.later {w x x' : World} {b3 b7 b8 b9 ba bb : Nat} {S R : Sto} {v0 v1 v2 r0 r1 r2 s0 s1 s2 s9 : Value} {g9 o9 : Nat} {n0 n1 n2 n3 : Int} {lc : Int} {sa sb : Value} (h : EnQ w b3 b7 b8 b9 ba bb S R v0 v1 v2 r0 r1 r2 s0 s1 s2 s9 g9 o9 n0 n1 n2 n3 lc sa sb x) (hb : Below x.heap.size x x') : EnQ w b3 b7 b8 b9 ba bb S R v0 v1 v2 r0 r1 r2 s0 s1 s2 s9 g9 o9 n0 n1 n2 n3 lc sa sb x' := ⟨h.1.later hb, h.2.1.later hb, h.2.2.later hb⟩
set_option maxRecDepth 100000 in
set_option maxHeartbeats 16000000 in
theorem fnCommits_over (o : Option Addr) (len cap : Nat) (w : World) (hL : Laid w) (hl0 : len ≤ maxLen) (hd : len ≤ 1048576 → Calls Tryz.prog 17 #[.slice o len cap] w (DrawnC w)) :
  Calls Tryz.prog 4 #[.slice o len cap] w fun e w' => e = .returned (.bool true) ∧ Below w.heap.size w w' := by
 have HL : Hid (Laid w) := hL
 have hml : maxLen = 9223372036854775807 := rfl
 clear hL
 by_cases hbig : (1048576 : Int) < len
 ·have d : decide ((1048576 : Int) < (len : Int)) = true := decide_eq_true hbig
  go_enter Tryz.func4, Tryz.ntmps4
  go_wp2_with fail
  refine (lwBigW_is _ _ _ _ _ d).mono ?_
  rintro e w9 ⟨rfl, hw9⟩
  obtain rfl := hw9.symm
  go_wp2
  go_ret
  exact ⟨rfl, Below.refl _ _⟩
 have d : decide ((1048576 : Int) < (len : Int)) = false := decide_eq_false hbig
 have HD : Hid (Calls Tryz.prog 17 #[.slice o len cap] w (DrawnC w)) := hd (by omega)
 clear hd hbig hml hl0
 go_enter Tryz.func4, Tryz.ntmps4
 go_wp2_with fail
 refine (lwBigW_is _ _ _ _ _ d).mono ?_
 rintro e w9 ⟨rfl, hw9⟩
 obtain rfl := hw9.symm
 clear hw9
 go_wp2_with fail
 refine HD.out.mono ?_
 rintro e y0 ⟨S, a0, c0, a1, c1, a2, c2, key, start, c, rfl, hst, q1⟩
 have K0 : Hid (Blk3 (y0.alloc (.cells #[.slice a0 S.nc c0, .slice a1 S.nl c1, .slice a2 S.nw c2] 28)) y0.heap.size (.slice a0 S.nc c0) (.slice a1 S.nl c1) (.slice a2 S.nw c2)) := Blk3.new y0 _ _ _ _
 have HB : Hid (Below w.heap.size w (y0.alloc (.cells #[.slice a0 S.nc c0, .slice a1 S.nl c1, .slice a2 S.nw c2] 28)) ∧ St (y0.alloc (.cells #[.slice a0 S.nc c0, .slice a1 S.nl c1, .slice a2 S.nw c2] 28)) 0 S (.slice a0 S.nc c0) (.slice a1 S.nl c1) (.slice a2 S.nw c2)) := ⟨q1.alloc q1.size _, hst.alloc _⟩
 clear hst q1 HD d
 obtain ⟨⟨t0, t1, t2⟩, _⟩ := K0.out
 go_wp2_with fail
 generalize y0.alloc (.cells #[.slice a0 S.nc c0, .slice a1 S.nl c1, .slice a2 S.nw c2] 28) = x0 at HB K0 t0 t1 t2 ⊢
 generalize y0.heap.size = b3 at K0 t0 t1 t2 ⊢
 obtain ⟨r, R, hR, hA⟩ := CommitAns.get S key start c
 have PA : Hid (CommitAns S key start c r R) := hA
 refine (implCommitKey_is S _ _ _ key start c r R 0 _ HB.out.2 (HL.out.later HB.out.1) PA.out).mono ?_
 rintro e y1 ⟨g0, g3, g1, g4, g2, g5, rfl, ⟨st1, _, _⟩, q⟩
 have qa : Below x0.heap.size x0 (y1.alloc (.cells #[.int .i64 r, .slice g0 R.nc g3, .slice g1 R.nl g4, .slice g2 R.nw g5] 32)) := q.alloc q.size _
 have HE : Hid (EnU w b3 y1.heap.size r S R (.slice a0 S.nc c0) (.slice a1 S.nl c1) (.slice a2 S.nw c2) (.slice g0 R.nc g3) (.slice g1 R.nl g4) (.slice g2 R.nw g5) (y1.alloc (.cells #[.int .i64 r, .slice g0 R.nc g3, .slice g1 R.nl g4, .slice g2 R.nw g5] 32))) := ⟨HB.out.1.trans (qa.mono HB.out.1.size), ⟨K0.out.later qa, HB.out.2.later qa⟩, Blk4.new _ _ _ _ _ _, (st1.mono (Nat.zero_le _)).alloc _⟩
 clear HB K0 q qa st1 t0 t1 t2 hR
 go_upto_region 5 with fail
 generalize y1.alloc (.cells #[.int .i64 r, .slice g0 R.nc g3, .slice g1 R.nl g4, .slice g2 R.nw g5] 32) = x1 at HE ⊢
 generalize y1.heap.size = b7 at HE ⊢
 obtain ⟨⟨f0, f1, f2, f3⟩, _⟩ := HE.out.2.2.1
 by_cases hc : r = 0
 case neg =>
  have dn : (r == 0) = false := beq_eq_false_iff_ne.2 hc
  clear hA hc
  go_upto_region 6 with fail
  clear f0 f1 f2 f3
  refine wp_region_held_drew (S := EnU w b3 b7 r S R (.slice a0 S.nc c0) (.slice a1 S.nl c1) (.slice a2 S.nw c2) (.slice g0 R.nc g3) (.slice g1 R.nl g4) (.slice g2 R.nw g5)) (by kernel_rfl) (HE.out.later ((Below.refl _ _).drew)) (fun hS => ?_)
  clear HE
  generalize x1.drew = x2 at hS ⊢
  refine tkH 0 ?_ hS (fun wx hx => ?_) ?_; rotate_left
  ·obtain ⟨_, ⟨⟨⟨e0, e1, e2⟩, _⟩, _⟩, ⟨⟨f0, f1, f2, f3⟩, _⟩, _⟩ := hx; go_simp; try with_reducible rfl
  refine tkH 1 ?_ hS (fun wx hx => ?_) ?_; rotate_left
  ·obtain ⟨_, ⟨⟨⟨e0, e1, e2⟩, _⟩, _⟩, ⟨⟨f0, f1, f2, f3⟩, _⟩, _⟩ := hx; go_simp; try with_reducible rfl
  refine tkH 2 ?_ hS (fun wx hx => ?_) ?_; rotate_left
  ·obtain ⟨_, ⟨⟨⟨e0, e1, e2⟩, _⟩, _⟩, ⟨⟨f0, f1, f2, f3⟩, _⟩, _⟩ := hx; go_simp; try with_reducible rfl
  refine tkH 3 ?_ hS (fun wx hx => ?_) ?_; rotate_left
  ·obtain ⟨_, ⟨⟨⟨e0, e1, e2⟩, _⟩, _⟩, ⟨⟨f0, f1, f2, f3⟩, _⟩, _⟩ := hx; go_simp; try with_reducible rfl
  refine tkH 6 ?_ hS (fun wx hx => ?_) ?_; rotate_left
  ·obtain ⟨_, ⟨⟨⟨e0, e1, e2⟩, _⟩, _⟩, ⟨⟨f0, f1, f2, f3⟩, _⟩, _⟩ := hx; go_simp; try with_reducible rfl
  refine tkH 7 ?_ hS (fun wx hx => ?_) ?_; rotate_left
  ·obtain ⟨_, ⟨⟨⟨e0, e1, e2⟩, _⟩, _⟩, ⟨⟨f0, f1, f2, f3⟩, _⟩, _⟩ := hx; go_simp; try with_reducible rfl
  refine rdH 4 (fun K hK => ?_)
  go_simp
  go_wp2_with fail
  refine (specCommitKey_is S _ _ _ key start c r R 0 _ hS.2.1.2 PA.out).mono ?_
  rintro e x3 ⟨h0, h3, h1, h4, h2, h5, rfl, _, q⟩
  have hS' := hS.later q
  clear q
  go_wp2_with fail
  refine hK.out _ _ hS' (fun hS => ?_)
  clear hK K hS'
  have hfd := fun (w : World) => field_wr0S r h0 h1 h2 R.nc R.nl R.nw h3 h4 h5 w
  refine tkH 5 ?_ hS (fun wx hx => ?_) ?_; rotate_left
  ·obtain ⟨_, ⟨⟨⟨e0, e1, e2⟩, _⟩, _⟩, ⟨⟨f0, f1, f2, f3⟩, _⟩, _⟩ := hx; go_simp; try with_reducible rfl
  clear hfd
  refine tkH 8 ?_ hS (fun wx hx => ?_) ?_; rotate_left
  ·obtain ⟨_, ⟨⟨⟨e0, e1, e2⟩, _⟩, _⟩, ⟨⟨f0, f1, f2, f3⟩, _⟩, _⟩ := hx; go_simp; try with_reducible rfl
  refine tkH 9 ?_ hS (fun wx hx => ?_) ?_; rotate_left
  ·obtain ⟨_, ⟨⟨⟨e0, e1, e2⟩, _⟩, _⟩, ⟨⟨f0, f1, f2, f3⟩, _⟩, _⟩ := hx; go_simp; try with_reducible rfl
  refine wpAnyH_done (by kernel_rfl) ?_ _
  go_simp
  go_wp2
  go_ret
  exact ⟨rfl, hS.1⟩
 case pos =>
 subst hc
 have hz : askF S key = 0 ∧ isT start ∧ isT c ∧ start < c ∧ CommitRes S key start c 0 R := by
  rcases hA with ⟨h1, h2, _⟩ | ⟨_, _, h2, _⟩ | ⟨_, _, _, h2, _⟩ | ⟨_, _, _, _, h2, _⟩ | ⟨h1, h2, h3, h4, h5⟩
  ·exact absurd h2.symm h1
  ·exact absurd h2 (by decide)
  ·exact absurd h2 (by decide)
  ·exact absurd h2 (by decide)
  ·exact ⟨h1, h2, h3, h4, h5⟩
 obtain ⟨hask, hsf, hcf, hlt, hRR⟩ := hz
 obtain ⟨hz0, hfk⟩ := askF_zero hask
 have hs1 : 1 ≤ c := hcf.1
 have hs2 : c ≤ 100000 := hcf.2
 have hr0 : storeF R = 0 := hRR.ok hz0 ⟨hlt, hcf.2⟩
 have HR0 : Hid (storeF R = 0) := hr0
 have HG : Hid (∀ c1 c2 n n' F F', LastWriteAns S key (c - 1) c1 n F → LastWriteAns R key (c - 1) c2 n' F' → c2 = c1 ∧ n' = n ∧ (c1 = 0 → n = 1 ∧ ∀ q, q < 4 → F' q = F q)) := fun c1 c2 n n' F F' h1 h2 => com_last hz0 hr0 hRR h1 h2
 have P2 : Hid (CommitAns R key start c 0 R) := com_again hr0 hfk hsf hcf hlt hRR
 obtain ⟨wc, wn, WF, _, hw⟩ := WriteOfAns.get R key start
 have PW : Hid (WriteOfAns R key start wc wn WF) := hw
 obtain ⟨cc, cv, hcv⟩ := CommAns.get R key start
 have PV : Hid (CommAns R key start cc cv) := hcv
 obtain ⟨rfl, rfl, hw1, hv3⟩ := com_write hr0 hfk hRR hw hcv
 have HV : Hid (cv = c ∨ WF 3 = 4) := hv3
 obtain ⟨gc, gh, gv, hga⟩ := GetAns.get R key c
 have PG : Hid (GetAns R key c gc gh gv) := hga
 have HGV : Hid (WF 3 = 1 → gc ≠ 0 ∨ (gh = true ∧ gv = cellAtV R key start)) := fun h => com_get hr0 hfk hRR hw h hga
 have HCC : Hid (WF 3 = 1 → gc = 0 → True) := fun _ _ => trivial
 have HN : Hid (R.nc ≤ 200 ∧ R.nl ≤ 200 ∧ R.nw ≤ 200) := (storeF_zero hr0).1
 have HW : Hid (Wf start) := wf_small (by have := hsf.1; omega) (by have := hsf.2; omega)
 have HW1 : Hid (WF 1 = c) := hw1
 clear hA hask hz0 hfk hsf hcf hRR hr0 hw hcv hw1 hv3 hga hlt f0 f1 f2 f3 HCC
 obtain ⟨⟨f0, f1, f2, f3⟩, _⟩ := HE.out.2.2.1
 go_wp2_with fail
 refine (implCommitKey_is R _ _ _ key start c 0 R 0 _ HE.out.2.2.2 (HL.out.later HE.out.1) P2.out).mono ?_
 rintro e y2 ⟨s0, s3, s1, s4, s2, s5, rfl, ⟨st1, _, _⟩, q⟩
 have qa : Below x1.heap.size x1 (y2.alloc (.cells #[.int .i64 0, .slice s0 R.nc s3, .slice s1 R.nl s4, .slice s2 R.nw s5] 32)) := q.alloc q.size _
 have K8 : Hid (EnU w b3 b7 0 S R (.slice a0 S.nc c0) (.slice a1 S.nl c1) (.slice a2 S.nw c2) (.slice g0 R.nc g3) (.slice g1 R.nl g4) (.slice g2 R.nw g5) (y2.alloc (.cells #[.int .i64 0, .slice s0 R.nc s3, .slice s1 R.nl s4, .slice s2 R.nw s5] 32)) ∧ ResU (y2.alloc (.cells #[.int .i64 0, .slice s0 R.nc s3, .slice s1 R.nl s4, .slice s2 R.nw s5] 32)) y2.heap.size 0 R (.slice s0 R.nc s3) (.slice s1 R.nl s4) (.slice s2 R.nw s5)) := ⟨HE.out.later qa, Blk4.new _ _ _ _ _ _, (st1.mono (Nat.zero_le _)).alloc _⟩
 clear q qa st1 HE f0 f1 f2 f3
 go_upto_region 8 with fail
 generalize y2.alloc (.cells #[.int .i64 0, .slice s0 R.nc s3, .slice s1 R.nl s4, .slice s2 R.nw s5] 32) = x2 at K8 ⊢
 generalize y2.heap.size = b8 at K8 ⊢
 obtain ⟨⟨f0, f1, f2, f3⟩, _⟩ := K8.out.1.2.2.1
 go_wp2_with fail
 refine (implWriteOf_is R _ _ _ key start 0 1 WF 0 _ K8.out.1.2.2.2 PW.out).mono ?_
 rintro e y3 ⟨w0, p9, rfl, hrow, _, q⟩
 obtain ⟨g9, o9, rfl, _⟩ := hrow.at (k := 0) (by omega)
 have qa : Below x2.heap.size x2 (y3.alloc (.cells #[.int .i64 0, .slice (some ⟨g9, o9, none⟩) 1 p9] 52)) := q.alloc q.size _
 have hfour := (hrow.mono (Nat.zero_le _)).four
 rw [HW1.out] at hfour
 obtain ⟨n0, h0⟩ : ∃ x, WF 0 = x := ⟨_, rfl⟩
 obtain ⟨n2, h2⟩ : ∃ x, WF 2 = x := ⟨_, rfl⟩
 obtain ⟨n3, h3⟩ : ∃ x, WF 3 = x := ⟨_, rfl⟩
 rw [h0, h2, h3] at hfour
 rw [h3] at HV HGV
 have HP : Hid (EnP w b3 b7 b8 y3.heap.size S R (.slice a0 S.nc c0) (.slice a1 S.nl c1) (.slice a2 S.nw c2) (.slice g0 R.nc g3) (.slice g1 R.nl g4) (.slice g2 R.nw g5) (.slice s0 R.nc s3) (.slice s1 R.nl s4) (.slice s2 R.nw s5) (.slice (some ⟨g9, o9, none⟩) 1 p9) g9 o9 n0 c n2 n3 (y3.alloc (.cells #[.int .i64 0, .slice (some ⟨g9, o9, none⟩) 1 p9] 52))) := ⟨K8.out.1.later qa, K8.out.2.later qa, Blk2.new _ _ _ _, hfour.later (below_alloc _ _)⟩
 clear q qa hrow hfour K8 f0 f1 f2 f3 h0 h2 h3 HW1
 go_upto_region 9 with fail
 generalize y3.alloc (.cells #[.int .i64 0, .slice (some ⟨g9, o9, none⟩) 1 p9] 52) = x3 at HP ⊢
 generalize y3.heap.size = b9 at HP ⊢
 go_cut [98] (fun s wx => s = .bool false ∧ Hid (EnP w b3 b7 b8 b9 S R (.slice a0 S.nc c0) (.slice a1 S.nl c1) (.slice a2 S.nw c2) (.slice g0 R.nc g3) (.slice g1 R.nl g4) (.slice g2 R.nw g5) (.slice s0 R.nc s3) (.slice s1 R.nl s4) (.slice s2 R.nw s5) (.slice (some ⟨g9, o9, none⟩) 1 p9) g9 o9 n0 c n2 n3 wx))
 case first =>
  obtain ⟨⟨f0, f1, f2, f3⟩, _⟩ := HP.out.1.2.2.1
  go_wp2_with fail
  refine (implFault_any R _ _ _ 0 _ HP.out.1.2.2.2).mono ?_
  rw [HR0.out]
  rintro e w1 ⟨rfl, q⟩
  have HP : Hid (EnP w b3 b7 b8 b9 S R (.slice a0 S.nc c0) (.slice a1 S.nl c1) (.slice a2 S.nw c2) (.slice g0 R.nc g3) (.slice g1 R.nl g4) (.slice g2 R.nw g5) (.slice s0 R.nc s3) (.slice s1 R.nl s4) (.slice s2 R.nw s5) (.slice (some ⟨g9, o9, none⟩) 1 p9) g9 o9 n0 c n2 n3 w1) := HP.out.later q
  clear q
  try clear e0 e1 e2
  try clear f0 f1 f2 f3
  try clear j0 j1 j2 j3
  try clear m0 m1 k0 k1 k2 k3
  obtain ⟨⟨e0, e1, e2⟩, _⟩ := HP.out.1.2.1.1
  obtain ⟨⟨f0, f1, f2, f3⟩, _⟩ := HP.out.1.2.2.1
  obtain ⟨⟨j0, j1, j2, j3⟩, _⟩ := HP.out.2.1.1
  obtain ⟨⟨m0, m1⟩, _⟩ := HP.out.2.2.1
  obtain ⟨k0, k1, k2, k3⟩ := HP.out.2.2.2
  go_wp2_with fail
  refine (implSame_any R R _ _ _ _ _ _ 0 0 true _ HP.out.2.1.2 HP.out.1.2.2.2 (by have := HN.out; omega) (by have := HN.out; omega) (by have := HN.out; omega) (by have := HN.out; omega) (by have := HN.out; omega) (by have := HN.out; omega) ⟨fun _ => ⟨⟨rfl, fun _ _ => rfl⟩, ⟨rfl, fun _ _ => rfl⟩, ⟨rfl, fun _ _ => rfl⟩⟩, fun _ => rfl⟩).mono ?_
  rintro e w2 ⟨rfl, q⟩
  have HP : Hid (EnP w b3 b7 b8 b9 S R (.slice a0 S.nc c0) (.slice a1 S.nl c1) (.slice a2 S.nw c2) (.slice g0 R.nc g3) (.slice g1 R.nl g4) (.slice g2 R.nw g5) (.slice s0 R.nc s3) (.slice s1 R.nl s4) (.slice s2 R.nw s5) (.slice (some ⟨g9, o9, none⟩) 1 p9) g9 o9 n0 c n2 n3 w2) := HP.out.later q
  clear q
  try clear e0 e1 e2
  try clear f0 f1 f2 f3
  try clear j0 j1 j2 j3
  try clear m0 m1 k0 k1 k2 k3
  obtain ⟨⟨e0, e1, e2⟩, _⟩ := HP.out.1.2.1.1
  obtain ⟨⟨f0, f1, f2, f3⟩, _⟩ := HP.out.1.2.2.1
  obtain ⟨⟨j0, j1, j2, j3⟩, _⟩ := HP.out.2.1.1
  obtain ⟨⟨m0, m1⟩, _⟩ := HP.out.2.2.1
  obtain ⟨k0, k1, k2, k3⟩ := HP.out.2.2.2
  go_wp2_with fail
  refine (implCommitOf_is R _ _ _ key start cc cv 0 _ HP.out.1.2.2.2 PV.out).mono ?_
  rintro e w3 ⟨rfl, q⟩
  have HP : Hid (EnP w b3 b7 b8 b9 S R (.slice a0 S.nc c0) (.slice a1 S.nl c1) (.slice a2 S.nw c2) (.slice g0 R.nc g3) (.slice g1 R.nl g4) (.slice g2 R.nw g5) (.slice s0 R.nc s3) (.slice s1 R.nl s4) (.slice s2 R.nw s5) (.slice (some ⟨g9, o9, none⟩) 1 p9) g9 o9 n0 c n2 n3 w3) := HP.out.later q
  clear q
  try clear e0 e1 e2
  try clear f0 f1 f2 f3
  try clear j0 j1 j2 j3
  try clear m0 m1 k0 k1 k2 k3
  obtain ⟨⟨e0, e1, e2⟩, _⟩ := HP.out.1.2.1.1
  obtain ⟨⟨f0, f1, f2, f3⟩, _⟩ := HP.out.1.2.2.1
  obtain ⟨⟨j0, j1, j2, j3⟩, _⟩ := HP.out.2.1.1
  obtain ⟨⟨m0, m1⟩, _⟩ := HP.out.2.2.1
  obtain ⟨k0, k1, k2, k3⟩ := HP.out.2.2.2
  have hfd := fun (w : World) => field_in1 cc cv w
  by_cases hv : cv = c
  ·subst hv
   go_wp2
   go_meet
   case rel => exact ⟨rfl, HP⟩
  ·have dv : (cv == c) = false := beq_eq_false_iff_ne.2 hv
   have dw : (cv != c) = true := bne_iff_ne.2 hv
   have h4 : n3 = 4 := HV.out.resolve_left hv
   subst h4
   clear hv
   go_wp2
   go_meet
   case rel => exact ⟨rfl, HP⟩
 case rest =>
 obtain ⟨rfl, HP⟩ := hcut
 obtain ⟨lc, ln, LF, _, hL1⟩ := LastWriteAns.get S key (c - 1)
 obtain ⟨lc', ln', LF', _, hL2⟩ := LastWriteAns.get R key (c - 1)
 obtain ⟨z1, z2, hsame⟩ := HG.out _ _ _ _ _ _ hL1 hL2
 obtain rfl := z1.symm
 obtain rfl := z2.symm
 have P1 : Hid (LastWriteAns S key (c - 1) lc ln LF) := hL1
 have P3 : Hid (LastWriteAns R key (c - 1) lc ln LF') := hL2
 have P4 : Hid (lc = 0 → ln = 1 ∧ ∀ q, q < 4 → LF' q = LF q) := hsame
 have hw : IntKind.i64.wrap (c - 1) = c - 1 := by simp [IntKind.wrap, IntKind.bits, IntKind.signed]; omega
 clear hL1 hL2 hsame
 obtain ⟨⟨e0, e1, e2⟩, _⟩ := HP.out.1.2.1.1
 go_wp2_with fail
 refine (implLastWrite_is S _ _ _ key (c - 1) lc ln LF 0 _ HP.out.1.2.1.2 P1.out).mono ?_
 rintro e y4 ⟨l0, l1, rfl, hrow, _, q⟩
 have qa : Below wc.heap.size wc (y4.alloc (.cells #[.int .i64 lc, .slice l0 ln l1] 52)) := q.alloc q.size _
 have K8 : Hid (EnP w b3 b7 b8 b9 S R (.slice a0 S.nc c0) (.slice a1 S.nl c1) (.slice a2 S.nw c2) (.slice g0 R.nc g3) (.slice g1 R.nl g4) (.slice g2 R.nw g5) (.slice s0 R.nc s3) (.slice s1 R.nl s4) (.slice s2 R.nw s5) (.slice (some ⟨g9, o9, none⟩) 1 p9) g9 o9 n0 c n2 n3 (y4.alloc (.cells #[.int .i64 lc, .slice l0 ln l1] 52)) ∧ Blk2 (y4.alloc (.cells #[.int .i64 lc, .slice l0 ln l1] 52)) y4.heap.size (.int .i64 lc) (.slice l0 ln l1) ∧ Row (y4.alloc (.cells #[.int .i64 lc, .slice l0 ln l1] 52)) 0 4 ln LF (.slice l0 ln l1)) := ⟨HP.out.later qa, Blk2.new _ _ _ _, (hrow.mono (Nat.zero_le _)).later (below_alloc _ _)⟩
 clear q qa hrow HP e0 e1 e2
 go_upto_region 12 with fail
 generalize y4.alloc (.cells #[.int .i64 lc, .slice l0 ln l1] 52) = x4 at K8 ⊢
 generalize y4.heap.size = ba at K8 ⊢
 obtain ⟨⟨f0, f1, f2, f3⟩, _⟩ := K8.out.1.1.2.2.1
 go_wp2_with fail
 refine (implLastWrite_is R _ _ _ key (c - 1) lc ln LF' 0 _ K8.out.1.1.2.2.2 P3.out).mono ?_
 rintro e y5 ⟨r0, r1, rfl, hrow, _, q⟩
 have qa : Below x4.heap.size x4 (y5.alloc (.cells #[.int .i64 lc, .slice r0 ln r1] 52)) := q.alloc q.size _
 have K9 : Hid (EnQ w b3 b7 b8 b9 ba y5.heap.size S R (.slice a0 S.nc c0) (.slice a1 S.nl c1) (.slice a2 S.nw c2) (.slice g0 R.nc g3) (.slice g1 R.nl g4) (.slice g2 R.nw g5) (.slice s0 R.nc s3) (.slice s1 R.nl s4) (.slice s2 R.nw s5) (.slice (some ⟨g9, o9, none⟩) 1 p9) g9 o9 n0 c n2 n3 lc (.slice l0 ln l1) (.slice r0 ln r1) (y5.alloc (.cells #[.int .i64 lc, .slice r0 ln r1] 52)) ∧ Row (y5.alloc (.cells #[.int .i64 lc, .slice r0 ln r1] 52)) 0 4 ln LF (.slice l0 ln l1) ∧ Row (y5.alloc (.cells #[.int .i64 lc, .slice r0 ln r1] 52)) 0 4 ln LF' (.slice r0 ln r1)) := ⟨⟨K8.out.1.later qa, K8.out.2.1.later qa, Blk2.new _ _ _ _⟩, K8.out.2.2.later qa, (hrow.mono (Nat.zero_le _)).later (below_alloc _ _)⟩
 clear q qa hrow K8 f0 f1 f2 f3 hw
 go_upto_region 13 with fail
 generalize y5.alloc (.cells #[.int .i64 lc, .slice r0 ln r1] 52) = x5 at K9 ⊢
 generalize y5.heap.size = bb at K9 ⊢
 go_cut [130] (fun s wx => s = .bool false ∧ Hid (EnP w b3 b7 b8 b9 S R (.slice a0 S.nc c0) (.slice a1 S.nl c1) (.slice a2 S.nw c2) (.slice g0 R.nc g3) (.slice g1 R.nl g4) (.slice g2 R.nw g5) (.slice s0 R.nc s3) (.slice s1 R.nl s4) (.slice s2 R.nw s5) (.slice (some ⟨g9, o9, none⟩) 1 p9) g9 o9 n0 c n2 n3 wx))
 case first =>
  by_cases h0 : lc = 0
  ·obtain ⟨hn1, hF⟩ := P4.out h0
   subst h0 hn1
   obtain ⟨g8, o8, rfl, _⟩ := K9.out.2.1.at (k := 0) (by omega)
   obtain ⟨gb, ob, rfl, _⟩ := K9.out.2.2.at (k := 0) (by omega)
   have k8 := K9.out.2.1.four
   have k9 := K9.out.2.2.four
   rw [hF 0 (by omega), hF 1 (by omega), hF 2 (by omega), hF 3 (by omega)] at k9
   obtain ⟨u0, h0⟩ : ∃ x, LF 0 = x := ⟨_, rfl⟩
   obtain ⟨u1, h1⟩ : ∃ x, LF 1 = x := ⟨_, rfl⟩
   obtain ⟨u2, h2⟩ : ∃ x, LF 2 = x := ⟨_, rfl⟩
   obtain ⟨u3, h3⟩ : ∃ x, LF 3 = x := ⟨_, rfl⟩
   rw [h0, h1, h2, h3] at k8 k9
   have KY : Hid (EnQ w b3 b7 b8 b9 ba bb S R (.slice a0 S.nc c0) (.slice a1 S.nl c1) (.slice a2 S.nw c2) (.slice g0 R.nc g3) (.slice g1 R.nl g4) (.slice g2 R.nw g5) (.slice s0 R.nc s3) (.slice s1 R.nl s4) (.slice s2 R.nw s5) (.slice (some ⟨g9, o9, none⟩) 1 p9) g9 o9 n0 c n2 n3 0 (.slice (some ⟨g8, o8, none⟩) 1 l1) (.slice (some ⟨gb, ob, none⟩) 1 r1) x5 ∧ C4 x5 g8 o8 u0 u1 u2 u3 ∧ C4 x5 gb ob u0 u1 u2 u3) := ⟨K9.out.1, k8, k9⟩
   clear K9 k8 k9 h0 h1 h2 h3 hF
   refine wp_region_held_drew (S := fun x => EnQ w b3 b7 b8 b9 ba bb S R (.slice a0 S.nc c0) (.slice a1 S.nl c1) (.slice a2 S.nw c2) (.slice g0 R.nc g3) (.slice g1 R.nl g4) (.slice g2 R.nw g5) (.slice s0 R.nc s3) (.slice s1 R.nl s4) (.slice s2 R.nw s5) (.slice (some ⟨g9, o9, none⟩) 1 p9) g9 o9 n0 c n2 n3 0 (.slice (some ⟨g8, o8, none⟩) 1 l1) (.slice (some ⟨gb, ob, none⟩) 1 r1) x ∧ C4 x g8 o8 u0 u1 u2 u3 ∧ C4 x gb ob u0 u1 u2 u3) (by kernel_rfl) ⟨KY.out.1.later ((Below.refl _ _).drew), KY.out.2.1.later ((Below.refl _ _).drew), KY.out.2.2.later ((Below.refl _ _).drew)⟩ (fun hS => ?_)
   clear KY
   generalize x5.drew = z0 at hS ⊢
   refine tkH 0 ?_ hS (fun wx hx => ?_) ?_; rotate_left
   ·obtain ⟨⟨⟨⟨_, ⟨⟨⟨e0, e1, e2⟩, _⟩, _⟩, ⟨⟨f0, f1, f2, f3⟩, _⟩, _⟩, ⟨⟨⟨j0, j1, j2, j3⟩, _⟩, _⟩, ⟨⟨m0, m1⟩, _⟩, ⟨k0, k1, k2, k3⟩⟩, ⟨⟨p0, p1⟩, _⟩, ⟨⟨q0, q1⟩, _⟩⟩, ⟨x0, x1, x2, x3⟩, ⟨y0, y1, y2, y3⟩⟩ := hx; go_simp; try with_reducible rfl
   refine tkH 1 ?_ hS (fun wx hx => ?_) ?_; rotate_left
   ·obtain ⟨⟨⟨⟨_, ⟨⟨⟨e0, e1, e2⟩, _⟩, _⟩, ⟨⟨f0, f1, f2, f3⟩, _⟩, _⟩, ⟨⟨⟨j0, j1, j2, j3⟩, _⟩, _⟩, ⟨⟨m0, m1⟩, _⟩, ⟨k0, k1, k2, k3⟩⟩, ⟨⟨p0, p1⟩, _⟩, ⟨⟨q0, q1⟩, _⟩⟩, ⟨x0, x1, x2, x3⟩, ⟨y0, y1, y2, y3⟩⟩ := hx; go_simp; try with_reducible rfl
   refine tkH 2 ?_ hS (fun wx hx => ?_) ?_; rotate_left
   ·obtain ⟨⟨⟨⟨_, ⟨⟨⟨e0, e1, e2⟩, _⟩, _⟩, ⟨⟨f0, f1, f2, f3⟩, _⟩, _⟩, ⟨⟨⟨j0, j1, j2, j3⟩, _⟩, _⟩, ⟨⟨m0, m1⟩, _⟩, ⟨k0, k1, k2, k3⟩⟩, ⟨⟨p0, p1⟩, _⟩, ⟨⟨q0, q1⟩, _⟩⟩, ⟨x0, x1, x2, x3⟩, ⟨y0, y1, y2, y3⟩⟩ := hx; go_simp; try with_reducible rfl
   try simp only [Act.put, List.getElem_toArray, List.getElem_cons_zero, List.getElem_cons_succ, List.setIfInBounds_toArray, List.set_cons_succ, List.set_cons_zero]
   refine tkH 3 ?_ hS (fun wx hx => ?_) ?_; rotate_left
   ·obtain ⟨⟨⟨⟨_, ⟨⟨⟨e0, e1, e2⟩, _⟩, _⟩, ⟨⟨f0, f1, f2, f3⟩, _⟩, _⟩, ⟨⟨⟨j0, j1, j2, j3⟩, _⟩, _⟩, ⟨⟨m0, m1⟩, _⟩, ⟨k0, k1, k2, k3⟩⟩, ⟨⟨p0, p1⟩, _⟩, ⟨⟨q0, q1⟩, _⟩⟩, ⟨x0, x1, x2, x3⟩, ⟨y0, y1, y2, y3⟩⟩ := hx; go_simp; try with_reducible rfl
   refine tkH 4 ?_ hS (fun wx hx => ?_) ?_; rotate_left
   ·obtain ⟨⟨⟨⟨_, ⟨⟨⟨e0, e1, e2⟩, _⟩, _⟩, ⟨⟨f0, f1, f2, f3⟩, _⟩, _⟩, ⟨⟨⟨j0, j1, j2, j3⟩, _⟩, _⟩, ⟨⟨m0, m1⟩, _⟩, ⟨k0, k1, k2, k3⟩⟩, ⟨⟨p0, p1⟩, _⟩, ⟨⟨q0, q1⟩, _⟩⟩, ⟨x0, x1, x2, x3⟩, ⟨y0, y1, y2, y3⟩⟩ := hx; go_simp; try with_reducible rfl
   refine tkH 5 ?_ hS (fun wx hx => ?_) ?_; rotate_left
   ·obtain ⟨⟨⟨⟨_, ⟨⟨⟨e0, e1, e2⟩, _⟩, _⟩, ⟨⟨f0, f1, f2, f3⟩, _⟩, _⟩, ⟨⟨⟨j0, j1, j2, j3⟩, _⟩, _⟩, ⟨⟨m0, m1⟩, _⟩, ⟨k0, k1, k2, k3⟩⟩, ⟨⟨p0, p1⟩, _⟩, ⟨⟨q0, q1⟩, _⟩⟩, ⟨x0, x1, x2, x3⟩, ⟨y0, y1, y2, y3⟩⟩ := hx; go_simp; try with_reducible rfl
   try simp only [Act.put, List.getElem_toArray, List.getElem_cons_zero, List.getElem_cons_succ, List.setIfInBounds_toArray, List.set_cons_succ, List.set_cons_zero]
   refine tkH 6 ?_ hS (fun wx hx => ?_) ?_; rotate_left
   ·obtain ⟨⟨⟨⟨_, ⟨⟨⟨e0, e1, e2⟩, _⟩, _⟩, ⟨⟨f0, f1, f2, f3⟩, _⟩, _⟩, ⟨⟨⟨j0, j1, j2, j3⟩, _⟩, _⟩, ⟨⟨m0, m1⟩, _⟩, ⟨k0, k1, k2, k3⟩⟩, ⟨⟨p0, p1⟩, _⟩, ⟨⟨q0, q1⟩, _⟩⟩, ⟨x0, x1, x2, x3⟩, ⟨y0, y1, y2, y3⟩⟩ := hx; go_simp; try with_reducible rfl
   refine tkH 7 ?_ hS (fun wx hx => ?_) ?_; rotate_left
   ·obtain ⟨⟨⟨⟨_, ⟨⟨⟨e0, e1, e2⟩, _⟩, _⟩, ⟨⟨f0, f1, f2, f3⟩, _⟩, _⟩, ⟨⟨⟨j0, j1, j2, j3⟩, _⟩, _⟩, ⟨⟨m0, m1⟩, _⟩, ⟨k0, k1, k2, k3⟩⟩, ⟨⟨p0, p1⟩, _⟩, ⟨⟨q0, q1⟩, _⟩⟩, ⟨x0, x1, x2, x3⟩, ⟨y0, y1, y2, y3⟩⟩ := hx; go_simp; try with_reducible rfl
   refine tkH 8 ?_ hS (fun wx hx => ?_) ?_; rotate_left
   ·obtain ⟨⟨⟨⟨_, ⟨⟨⟨e0, e1, e2⟩, _⟩, _⟩, ⟨⟨f0, f1, f2, f3⟩, _⟩, _⟩, ⟨⟨⟨j0, j1, j2, j3⟩, _⟩, _⟩, ⟨⟨m0, m1⟩, _⟩, ⟨k0, k1, k2, k3⟩⟩, ⟨⟨p0, p1⟩, _⟩, ⟨⟨q0, q1⟩, _⟩⟩, ⟨x0, x1, x2, x3⟩, ⟨y0, y1, y2, y3⟩⟩ := hx; go_simp; try with_reducible rfl
   try simp only [Act.put, List.getElem_toArray, List.getElem_cons_zero, List.getElem_cons_succ, List.setIfInBounds_toArray, List.set_cons_succ, List.set_cons_zero]
   refine tkH 9 ?_ hS (fun wx hx => ?_) ?_; rotate_left
   ·obtain ⟨⟨⟨⟨_, ⟨⟨⟨e0, e1, e2⟩, _⟩, _⟩, ⟨⟨f0, f1, f2, f3⟩, _⟩, _⟩, ⟨⟨⟨j0, j1, j2, j3⟩, _⟩, _⟩, ⟨⟨m0, m1⟩, _⟩, ⟨k0, k1, k2, k3⟩⟩, ⟨⟨p0, p1⟩, _⟩, ⟨⟨q0, q1⟩, _⟩⟩, ⟨x0, x1, x2, x3⟩, ⟨y0, y1, y2, y3⟩⟩ := hx; go_simp; try with_reducible rfl
   refine tkH 10 ?_ hS (fun wx hx => ?_) ?_; rotate_left
   ·obtain ⟨⟨⟨⟨_, ⟨⟨⟨e0, e1, e2⟩, _⟩, _⟩, ⟨⟨f0, f1, f2, f3⟩, _⟩, _⟩, ⟨⟨⟨j0, j1, j2, j3⟩, _⟩, _⟩, ⟨⟨m0, m1⟩, _⟩, ⟨k0, k1, k2, k3⟩⟩, ⟨⟨p0, p1⟩, _⟩, ⟨⟨q0, q1⟩, _⟩⟩, ⟨x0, x1, x2, x3⟩, ⟨y0, y1, y2, y3⟩⟩ := hx; go_simp; try with_reducible rfl
   refine tkH 11 ?_ hS (fun wx hx => ?_) ?_; rotate_left
   ·obtain ⟨⟨⟨⟨_, ⟨⟨⟨e0, e1, e2⟩, _⟩, _⟩, ⟨⟨f0, f1, f2, f3⟩, _⟩, _⟩, ⟨⟨⟨j0, j1, j2, j3⟩, _⟩, _⟩, ⟨⟨m0, m1⟩, _⟩, ⟨k0, k1, k2, k3⟩⟩, ⟨⟨p0, p1⟩, _⟩, ⟨⟨q0, q1⟩, _⟩⟩, ⟨x0, x1, x2, x3⟩, ⟨y0, y1, y2, y3⟩⟩ := hx; go_simp; try with_reducible rfl
   try simp only [Act.put, List.getElem_toArray, List.getElem_cons_zero, List.getElem_cons_succ, List.setIfInBounds_toArray, List.set_cons_succ, List.set_cons_zero]
   refine tkH 12 ?_ hS (fun wx hx => ?_) ?_; rotate_left
   ·obtain ⟨⟨⟨⟨_, ⟨⟨⟨e0, e1, e2⟩, _⟩, _⟩, ⟨⟨f0, f1, f2, f3⟩, _⟩, _⟩, ⟨⟨⟨j0, j1, j2, j3⟩, _⟩, _⟩, ⟨⟨m0, m1⟩, _⟩, ⟨k0, k1, k2, k3⟩⟩, ⟨⟨p0, p1⟩, _⟩, ⟨⟨q0, q1⟩, _⟩⟩, ⟨x0, x1, x2, x3⟩, ⟨y0, y1, y2, y3⟩⟩ := hx; go_simp; try with_reducible rfl
   refine tkH 13 ?_ hS (fun wx hx => ?_) ?_; rotate_left
   ·obtain ⟨⟨⟨⟨_, ⟨⟨⟨e0, e1, e2⟩, _⟩, _⟩, ⟨⟨f0, f1, f2, f3⟩, _⟩, _⟩, ⟨⟨⟨j0, j1, j2, j3⟩, _⟩, _⟩, ⟨⟨m0, m1⟩, _⟩, ⟨k0, k1, k2, k3⟩⟩, ⟨⟨p0, p1⟩, _⟩, ⟨⟨q0, q1⟩, _⟩⟩, ⟨x0, x1, x2, x3⟩, ⟨y0, y1, y2, y3⟩⟩ := hx; go_simp; try with_reducible rfl
   refine tkH 14 ?_ hS (fun wx hx => ?_) ?_; rotate_left
   ·obtain ⟨⟨⟨⟨_, ⟨⟨⟨e0, e1, e2⟩, _⟩, _⟩, ⟨⟨f0, f1, f2, f3⟩, _⟩, _⟩, ⟨⟨⟨j0, j1, j2, j3⟩, _⟩, _⟩, ⟨⟨m0, m1⟩, _⟩, ⟨k0, k1, k2, k3⟩⟩, ⟨⟨p0, p1⟩, _⟩, ⟨⟨q0, q1⟩, _⟩⟩, ⟨x0, x1, x2, x3⟩, ⟨y0, y1, y2, y3⟩⟩ := hx; go_simp; try with_reducible rfl
   try simp only [Act.put, List.getElem_toArray, List.getElem_cons_zero, List.getElem_cons_succ, List.setIfInBounds_toArray, List.set_cons_succ, List.set_cons_zero]
   refine tkH 15 ?_ hS (fun wx hx => ?_) ?_; rotate_left
   ·obtain ⟨⟨⟨⟨_, ⟨⟨⟨e0, e1, e2⟩, _⟩, _⟩, ⟨⟨f0, f1, f2, f3⟩, _⟩, _⟩, ⟨⟨⟨j0, j1, j2, j3⟩, _⟩, _⟩, ⟨⟨m0, m1⟩, _⟩, ⟨k0, k1, k2, k3⟩⟩, ⟨⟨p0, p1⟩, _⟩, ⟨⟨q0, q1⟩, _⟩⟩, ⟨x0, x1, x2, x3⟩, ⟨y0, y1, y2, y3⟩⟩ := hx; go_simp; try with_reducible rfl
   refine tkH 16 ?_ hS (fun wx hx => ?_) ?_; rotate_left
   ·obtain ⟨⟨⟨⟨_, ⟨⟨⟨e0, e1, e2⟩, _⟩, _⟩, ⟨⟨f0, f1, f2, f3⟩, _⟩, _⟩, ⟨⟨⟨j0, j1, j2, j3⟩, _⟩, _⟩, ⟨⟨m0, m1⟩, _⟩, ⟨k0, k1, k2, k3⟩⟩, ⟨⟨p0, p1⟩, _⟩, ⟨⟨q0, q1⟩, _⟩⟩, ⟨x0, x1, x2, x3⟩, ⟨y0, y1, y2, y3⟩⟩ := hx; go_simp; try with_reducible rfl
   refine tkH 17 ?_ hS (fun wx hx => ?_) ?_; rotate_left
   ·obtain ⟨⟨⟨⟨_, ⟨⟨⟨e0, e1, e2⟩, _⟩, _⟩, ⟨⟨f0, f1, f2, f3⟩, _⟩, _⟩, ⟨⟨⟨j0, j1, j2, j3⟩, _⟩, _⟩, ⟨⟨m0, m1⟩, _⟩, ⟨k0, k1, k2, k3⟩⟩, ⟨⟨p0, p1⟩, _⟩, ⟨⟨q0, q1⟩, _⟩⟩, ⟨x0, x1, x2, x3⟩, ⟨y0, y1, y2, y3⟩⟩ := hx; go_simp; try with_reducible rfl
   try simp only [Act.put, List.getElem_toArray, List.getElem_cons_zero, List.getElem_cons_succ, List.setIfInBounds_toArray, List.set_cons_succ, List.set_cons_zero]
   have hnq := neqWriteB u0 u1 u2 u3
   refine tkH 18 ?_ hS (fun wx hx => ?_) ?_; rotate_left
   ·obtain ⟨⟨⟨⟨_, ⟨⟨⟨e0, e1, e2⟩, _⟩, _⟩, ⟨⟨f0, f1, f2, f3⟩, _⟩, _⟩, ⟨⟨⟨j0, j1, j2, j3⟩, _⟩, _⟩, ⟨⟨m0, m1⟩, _⟩, ⟨k0, k1, k2, k3⟩⟩, ⟨⟨p0, p1⟩, _⟩, ⟨⟨q0, q1⟩, _⟩⟩, ⟨x0, x1, x2, x3⟩, ⟨y0, y1, y2, y3⟩⟩ := hx; go_simp; try with_reducible rfl
   clear hnq
   refine tkH 19 ?_ hS (fun wx hx => ?_) ?_; rotate_left
   ·obtain ⟨⟨⟨⟨_, ⟨⟨⟨e0, e1, e2⟩, _⟩, _⟩, ⟨⟨f0, f1, f2, f3⟩, _⟩, _⟩, ⟨⟨⟨j0, j1, j2, j3⟩, _⟩, _⟩, ⟨⟨m0, m1⟩, _⟩, ⟨k0, k1, k2, k3⟩⟩, ⟨⟨p0, p1⟩, _⟩, ⟨⟨q0, q1⟩, _⟩⟩, ⟨x0, x1, x2, x3⟩, ⟨y0, y1, y2, y3⟩⟩ := hx; go_simp; try with_reducible rfl
   refine tkH 20 ?_ hS (fun wx hx => ?_) ?_; rotate_left
   ·obtain ⟨⟨⟨⟨_, ⟨⟨⟨e0, e1, e2⟩, _⟩, _⟩, ⟨⟨f0, f1, f2, f3⟩, _⟩, _⟩, ⟨⟨⟨j0, j1, j2, j3⟩, _⟩, _⟩, ⟨⟨m0, m1⟩, _⟩, ⟨k0, k1, k2, k3⟩⟩, ⟨⟨p0, p1⟩, _⟩, ⟨⟨q0, q1⟩, _⟩⟩, ⟨x0, x1, x2, x3⟩, ⟨y0, y1, y2, y3⟩⟩ := hx; go_simp; try with_reducible rfl
   refine wpAnyH_done (by kernel_rfl) ?_ _
   have HP : Hid (EnP w b3 b7 b8 b9 S R (.slice a0 S.nc c0) (.slice a1 S.nl c1) (.slice a2 S.nw c2) (.slice g0 R.nc g3) (.slice g1 R.nl g4) (.slice g2 R.nw g5) (.slice s0 R.nc s3) (.slice s1 R.nl s4) (.slice s2 R.nw s5) (.slice (some ⟨g9, o9, none⟩) 1 p9) g9 o9 n0 c n2 n3 z0) := hS.1.1
   clear hS
   go_simp
   go_wp2
   go_meet
   case rel => exact ⟨rfl, HP⟩
  ·have dn : (lc == 0) = false := beq_eq_false_iff_ne.2 h0
   clear h0
   refine wp_region_held_drew (S := EnQ w b3 b7 b8 b9 ba bb S R (.slice a0 S.nc c0) (.slice a1 S.nl c1) (.slice a2 S.nw c2) (.slice g0 R.nc g3) (.slice g1 R.nl g4) (.slice g2 R.nw g5) (.slice s0 R.nc s3) (.slice s1 R.nl s4) (.slice s2 R.nw s5) (.slice (some ⟨g9, o9, none⟩) 1 p9) g9 o9 n0 c n2 n3 lc (.slice l0 ln l1) (.slice r0 ln r1)) (by kernel_rfl) (K9.out.1.later ((Below.refl _ _).drew)) (fun hS => ?_)
   clear K9
   generalize x5.drew = z0 at hS ⊢
   refine tkH 0 ?_ hS (fun wx hx => ?_) ?_; rotate_left
   ·obtain ⟨⟨⟨_, ⟨⟨⟨e0, e1, e2⟩, _⟩, _⟩, ⟨⟨f0, f1, f2, f3⟩, _⟩, _⟩, ⟨⟨⟨j0, j1, j2, j3⟩, _⟩, _⟩, ⟨⟨m0, m1⟩, _⟩, ⟨k0, k1, k2, k3⟩⟩, ⟨⟨p0, p1⟩, _⟩, ⟨⟨q0, q1⟩, _⟩⟩ := hx; go_simp; try with_reducible rfl
   refine tkH 1 ?_ hS (fun wx hx => ?_) ?_; rotate_left
   ·obtain ⟨⟨⟨_, ⟨⟨⟨e0, e1, e2⟩, _⟩, _⟩, ⟨⟨f0, f1, f2, f3⟩, _⟩, _⟩, ⟨⟨⟨j0, j1, j2, j3⟩, _⟩, _⟩, ⟨⟨m0, m1⟩, _⟩, ⟨k0, k1, k2, k3⟩⟩, ⟨⟨p0, p1⟩, _⟩, ⟨⟨q0, q1⟩, _⟩⟩ := hx; go_simp; try with_reducible rfl
   refine tkH 2 ?_ hS (fun wx hx => ?_) ?_; rotate_left
   ·obtain ⟨⟨⟨_, ⟨⟨⟨e0, e1, e2⟩, _⟩, _⟩, ⟨⟨f0, f1, f2, f3⟩, _⟩, _⟩, ⟨⟨⟨j0, j1, j2, j3⟩, _⟩, _⟩, ⟨⟨m0, m1⟩, _⟩, ⟨k0, k1, k2, k3⟩⟩, ⟨⟨p0, p1⟩, _⟩, ⟨⟨q0, q1⟩, _⟩⟩ := hx; go_simp; try with_reducible rfl
   try simp only [Act.put, List.getElem_toArray, List.getElem_cons_zero, List.getElem_cons_succ, List.setIfInBounds_toArray, List.set_cons_succ, List.set_cons_zero]
   refine tkH 3 ?_ hS (fun wx hx => ?_) ?_; rotate_left
   ·obtain ⟨⟨⟨_, ⟨⟨⟨e0, e1, e2⟩, _⟩, _⟩, ⟨⟨f0, f1, f2, f3⟩, _⟩, _⟩, ⟨⟨⟨j0, j1, j2, j3⟩, _⟩, _⟩, ⟨⟨m0, m1⟩, _⟩, ⟨k0, k1, k2, k3⟩⟩, ⟨⟨p0, p1⟩, _⟩, ⟨⟨q0, q1⟩, _⟩⟩ := hx; go_simp; try with_reducible rfl
   refine tkH 4 ?_ hS (fun wx hx => ?_) ?_; rotate_left
   ·obtain ⟨⟨⟨_, ⟨⟨⟨e0, e1, e2⟩, _⟩, _⟩, ⟨⟨f0, f1, f2, f3⟩, _⟩, _⟩, ⟨⟨⟨j0, j1, j2, j3⟩, _⟩, _⟩, ⟨⟨m0, m1⟩, _⟩, ⟨k0, k1, k2, k3⟩⟩, ⟨⟨p0, p1⟩, _⟩, ⟨⟨q0, q1⟩, _⟩⟩ := hx; go_simp; try with_reducible rfl
   refine tkH 5 ?_ hS (fun wx hx => ?_) ?_; rotate_left
   ·obtain ⟨⟨⟨_, ⟨⟨⟨e0, e1, e2⟩, _⟩, _⟩, ⟨⟨f0, f1, f2, f3⟩, _⟩, _⟩, ⟨⟨⟨j0, j1, j2, j3⟩, _⟩, _⟩, ⟨⟨m0, m1⟩, _⟩, ⟨k0, k1, k2, k3⟩⟩, ⟨⟨p0, p1⟩, _⟩, ⟨⟨q0, q1⟩, _⟩⟩ := hx; go_simp; try with_reducible rfl
   try simp only [Act.put, List.getElem_toArray, List.getElem_cons_zero, List.getElem_cons_succ, List.setIfInBounds_toArray, List.set_cons_succ, List.set_cons_zero]
   refine tkH 6 ?_ hS (fun wx hx => ?_) ?_; rotate_left
   ·obtain ⟨⟨⟨_, ⟨⟨⟨e0, e1, e2⟩, _⟩, _⟩, ⟨⟨f0, f1, f2, f3⟩, _⟩, _⟩, ⟨⟨⟨j0, j1, j2, j3⟩, _⟩, _⟩, ⟨⟨m0, m1⟩, _⟩, ⟨k0, k1, k2, k3⟩⟩, ⟨⟨p0, p1⟩, _⟩, ⟨⟨q0, q1⟩, _⟩⟩ := hx; go_simp; try with_reducible rfl
   refine tkH 7 ?_ hS (fun wx hx => ?_) ?_; rotate_left
   ·obtain ⟨⟨⟨_, ⟨⟨⟨e0, e1, e2⟩, _⟩, _⟩, ⟨⟨f0, f1, f2, f3⟩, _⟩, _⟩, ⟨⟨⟨j0, j1, j2, j3⟩, _⟩, _⟩, ⟨⟨m0, m1⟩, _⟩, ⟨k0, k1, k2, k3⟩⟩, ⟨⟨p0, p1⟩, _⟩, ⟨⟨q0, q1⟩, _⟩⟩ := hx; go_simp; try with_reducible rfl
   refine tkH 8 ?_ hS (fun wx hx => ?_) ?_; rotate_left
   ·obtain ⟨⟨⟨_, ⟨⟨⟨e0, e1, e2⟩, _⟩, _⟩, ⟨⟨f0, f1, f2, f3⟩, _⟩, _⟩, ⟨⟨⟨j0, j1, j2, j3⟩, _⟩, _⟩, ⟨⟨m0, m1⟩, _⟩, ⟨k0, k1, k2, k3⟩⟩, ⟨⟨p0, p1⟩, _⟩, ⟨⟨q0, q1⟩, _⟩⟩ := hx; go_simp; try with_reducible rfl
   try simp only [Act.put, List.getElem_toArray, List.getElem_cons_zero, List.getElem_cons_succ, List.setIfInBounds_toArray, List.set_cons_succ, List.set_cons_zero]
   refine tkH 9 ?_ hS (fun wx hx => ?_) ?_; rotate_left
   ·obtain ⟨⟨⟨_, ⟨⟨⟨e0, e1, e2⟩, _⟩, _⟩, ⟨⟨f0, f1, f2, f3⟩, _⟩, _⟩, ⟨⟨⟨j0, j1, j2, j3⟩, _⟩, _⟩, ⟨⟨m0, m1⟩, _⟩, ⟨k0, k1, k2, k3⟩⟩, ⟨⟨p0, p1⟩, _⟩, ⟨⟨q0, q1⟩, _⟩⟩ := hx; go_simp; try with_reducible rfl
   refine noH 10 hS ?_
   refine noH 11 hS ?_
   refine noH 12 hS ?_
   refine noH 13 hS ?_
   refine noH 14 hS ?_
   refine noH 15 hS ?_
   refine noH 16 hS ?_
   refine noH 17 hS ?_
   refine noH 18 hS ?_
   refine tkH 19 ?_ hS (fun wx hx => ?_) ?_; rotate_left
   ·obtain ⟨⟨⟨_, ⟨⟨⟨e0, e1, e2⟩, _⟩, _⟩, ⟨⟨f0, f1, f2, f3⟩, _⟩, _⟩, ⟨⟨⟨j0, j1, j2, j3⟩, _⟩, _⟩, ⟨⟨m0, m1⟩, _⟩, ⟨k0, k1, k2, k3⟩⟩, ⟨⟨p0, p1⟩, _⟩, ⟨⟨q0, q1⟩, _⟩⟩ := hx; go_simp; try with_reducible rfl
   refine tkH 20 ?_ hS (fun wx hx => ?_) ?_; rotate_left
   ·obtain ⟨⟨⟨_, ⟨⟨⟨e0, e1, e2⟩, _⟩, _⟩, ⟨⟨f0, f1, f2, f3⟩, _⟩, _⟩, ⟨⟨⟨j0, j1, j2, j3⟩, _⟩, _⟩, ⟨⟨m0, m1⟩, _⟩, ⟨k0, k1, k2, k3⟩⟩, ⟨⟨p0, p1⟩, _⟩, ⟨⟨q0, q1⟩, _⟩⟩ := hx; go_simp; try with_reducible rfl
   refine wpAnyH_done (by kernel_rfl) ?_ _
   have HP : Hid (EnP w b3 b7 b8 b9 S R (.slice a0 S.nc c0) (.slice a1 S.nl c1) (.slice a2 S.nw c2) (.slice g0 R.nc g3) (.slice g1 R.nl g4) (.slice g2 R.nw g5) (.slice s0 R.nc s3) (.slice s1 R.nl s4) (.slice s2 R.nw s5) (.slice (some ⟨g9, o9, none⟩) 1 p9) g9 o9 n0 c n2 n3 z0) := hS.1
   clear hS
   go_simp
   go_wp2
   go_meet
   case rel => exact ⟨rfl, HP⟩
 case rest =>
 obtain ⟨rfl, HP⟩ := hcut
 clear K9 HG P1 P2 P3 P4 PA PW PV
 obtain ⟨⟨f0, f1, f2, f3⟩, _⟩ := HP.out.1.2.2.1
 go_wp2_with fail
 refine (implGetAt_is R _ _ _ key c gc gh gv 0 _ HP.out.1.2.2.2 (HL.out.later HP.out.1.1) PG.out).mono ?_
 rintro e y6 ⟨rfl, q⟩
 have qa : Below wc.heap.size wc (y6.alloc (.cells #[.int .i64 gc, .bool gh, .int .i64 gv] 45)) := q.alloc q.size _
 have KG : Hid (EnP w b3 b7 b8 b9 S R (.slice a0 S.nc c0) (.slice a1 S.nl c1) (.slice a2 S.nw c2) (.slice g0 R.nc g3) (.slice g1 R.nl g4) (.slice g2 R.nw g5) (.slice s0 R.nc s3) (.slice s1 R.nl s4) (.slice s2 R.nw s5) (.slice (some ⟨g9, o9, none⟩) 1 p9) g9 o9 n0 c n2 n3 (y6.alloc (.cells #[.int .i64 gc, .bool gh, .int .i64 gv] 45)) ∧ Blk3 (y6.alloc (.cells #[.int .i64 gc, .bool gh, .int .i64 gv] 45)) y6.heap.size (.int .i64 gc) (.bool gh) (.int .i64 gv)) := ⟨HP.out.later qa, Blk3.new _ _ _ _ _⟩
 clear q qa HP f0 f1 f2 f3
 go_upto_region 16 with fail
 generalize y6.alloc (.cells #[.int .i64 gc, .bool gh, .int .i64 gv] 45) = x6 at KG ⊢
 generalize y6.heap.size = bg at KG ⊢
 refine wp_region_held_drew (S := fun x => EnP w b3 b7 b8 b9 S R (.slice a0 S.nc c0) (.slice a1 S.nl c1) (.slice a2 S.nw c2) (.slice g0 R.nc g3) (.slice g1 R.nl g4) (.slice g2 R.nw g5) (.slice s0 R.nc s3) (.slice s1 R.nl s4) (.slice s2 R.nw s5) (.slice (some ⟨g9, o9, none⟩) 1 p9) g9 o9 n0 c n2 n3 x ∧ Blk3 x bg (.int .i64 gc) (.bool gh) (.int .i64 gv)) (by kernel_rfl) ⟨KG.out.1.later ((Below.refl _ _).drew), KG.out.2.later ((Below.refl _ _).drew)⟩ (fun hS => ?_)
 clear KG
 generalize x6.drew = z0 at hS ⊢
 refine tkH 0 ?_ hS (fun wx hx => ?_) ?_; rotate_left
 ·obtain ⟨⟨⟨_, ⟨⟨⟨e0, e1, e2⟩, _⟩, _⟩, ⟨⟨f0, f1, f2, f3⟩, _⟩, _⟩, ⟨⟨⟨j0, j1, j2, j3⟩, _⟩, _⟩, ⟨⟨m0, m1⟩, _⟩, ⟨k0, k1, k2, k3⟩⟩, ⟨⟨h0, h1, h2⟩, _⟩⟩ := hx; go_simp; try with_reducible rfl
 refine tkH 1 ?_ hS (fun wx hx => ?_) ?_; rotate_left
 ·obtain ⟨⟨⟨_, ⟨⟨⟨e0, e1, e2⟩, _⟩, _⟩, ⟨⟨f0, f1, f2, f3⟩, _⟩, _⟩, ⟨⟨⟨j0, j1, j2, j3⟩, _⟩, _⟩, ⟨⟨m0, m1⟩, _⟩, ⟨k0, k1, k2, k3⟩⟩, ⟨⟨h0, h1, h2⟩, _⟩⟩ := hx; go_simp; try with_reducible rfl
 refine tkH 2 ?_ hS (fun wx hx => ?_) ?_; rotate_left
 ·obtain ⟨⟨⟨_, ⟨⟨⟨e0, e1, e2⟩, _⟩, _⟩, ⟨⟨f0, f1, f2, f3⟩, _⟩, _⟩, ⟨⟨⟨j0, j1, j2, j3⟩, _⟩, _⟩, ⟨⟨m0, m1⟩, _⟩, ⟨k0, k1, k2, k3⟩⟩, ⟨⟨h0, h1, h2⟩, _⟩⟩ := hx; go_simp; try with_reducible rfl
 try simp only [Act.put, List.getElem_toArray, List.getElem_cons_zero, List.getElem_cons_succ, List.setIfInBounds_toArray, List.set_cons_succ, List.set_cons_zero]
 refine tkH 3 ?_ hS (fun wx hx => ?_) ?_; rotate_left
 ·obtain ⟨⟨⟨_, ⟨⟨⟨e0, e1, e2⟩, _⟩, _⟩, ⟨⟨f0, f1, f2, f3⟩, _⟩, _⟩, ⟨⟨⟨j0, j1, j2, j3⟩, _⟩, _⟩, ⟨⟨m0, m1⟩, _⟩, ⟨k0, k1, k2, k3⟩⟩, ⟨⟨h0, h1, h2⟩, _⟩⟩ := hx; go_simp; try with_reducible rfl
 refine tkH 4 ?_ hS (fun wx hx => ?_) ?_; rotate_left
 ·obtain ⟨⟨⟨_, ⟨⟨⟨e0, e1, e2⟩, _⟩, _⟩, ⟨⟨f0, f1, f2, f3⟩, _⟩, _⟩, ⟨⟨⟨j0, j1, j2, j3⟩, _⟩, _⟩, ⟨⟨m0, m1⟩, _⟩, ⟨k0, k1, k2, k3⟩⟩, ⟨⟨h0, h1, h2⟩, _⟩⟩ := hx; go_simp; try with_reducible rfl
 by_cases h3 : n3 = 1
 focus
  have d3 : (n3 == 1) = true := by rw [h3]; rfl
  have d4 : (n3 != 1) = false := by rw [h3]; rfl
  have HX := HGV.out h3
  clear h3
  by_cases hg : gc = 0
  focus
   subst hg
   obtain ⟨rfl, rfl⟩ := HX.resolve_left (fun q => q rfl)
   refine tkH 5 ?_ hS (fun wx hx => ?_) ?_; rotate_left
   ·obtain ⟨⟨⟨_, ⟨⟨⟨e0, e1, e2⟩, _⟩, _⟩, ⟨⟨f0, f1, f2, f3⟩, _⟩, _⟩, ⟨⟨⟨j0, j1, j2, j3⟩, _⟩, _⟩, ⟨⟨m0, m1⟩, _⟩, ⟨k0, k1, k2, k3⟩⟩, ⟨⟨h0, h1, h2⟩, _⟩⟩ := hx; go_simp; try with_reducible rfl
   refine tkH 6 ?_ hS (fun wx hx => ?_) ?_; rotate_left
   ·obtain ⟨⟨⟨_, ⟨⟨⟨e0, e1, e2⟩, _⟩, _⟩, ⟨⟨f0, f1, f2, f3⟩, _⟩, _⟩, ⟨⟨⟨j0, j1, j2, j3⟩, _⟩, _⟩, ⟨⟨m0, m1⟩, _⟩, ⟨k0, k1, k2, k3⟩⟩, ⟨⟨h0, h1, h2⟩, _⟩⟩ := hx; go_simp; try with_reducible rfl
   refine tkH 7 ?_ hS (fun wx hx => ?_) ?_; rotate_left
   ·obtain ⟨⟨⟨_, ⟨⟨⟨e0, e1, e2⟩, _⟩, _⟩, ⟨⟨f0, f1, f2, f3⟩, _⟩, _⟩, ⟨⟨⟨j0, j1, j2, j3⟩, _⟩, _⟩, ⟨⟨m0, m1⟩, _⟩, ⟨k0, k1, k2, k3⟩⟩, ⟨⟨h0, h1, h2⟩, _⟩⟩ := hx; go_simp; try with_reducible rfl
   try simp only [Act.put, List.getElem_toArray, List.getElem_cons_zero, List.getElem_cons_succ, List.setIfInBounds_toArray, List.set_cons_succ, List.set_cons_zero]
   refine tkH 8 ?_ hS (fun wx hx => ?_) ?_; rotate_left
   ·obtain ⟨⟨⟨_, ⟨⟨⟨e0, e1, e2⟩, _⟩, _⟩, ⟨⟨f0, f1, f2, f3⟩, _⟩, _⟩, ⟨⟨⟨j0, j1, j2, j3⟩, _⟩, _⟩, ⟨⟨m0, m1⟩, _⟩, ⟨k0, k1, k2, k3⟩⟩, ⟨⟨h0, h1, h2⟩, _⟩⟩ := hx; go_simp; try with_reducible rfl
   refine tkH 9 ?_ hS (fun wx hx => ?_) ?_; rotate_left
   ·obtain ⟨⟨⟨_, ⟨⟨⟨e0, e1, e2⟩, _⟩, _⟩, ⟨⟨f0, f1, f2, f3⟩, _⟩, _⟩, ⟨⟨⟨j0, j1, j2, j3⟩, _⟩, _⟩, ⟨⟨m0, m1⟩, _⟩, ⟨k0, k1, k2, k3⟩⟩, ⟨⟨h0, h1, h2⟩, _⟩⟩ := hx; go_simp; try with_reducible rfl
   refine tkH 10 ?_ hS (fun wx hx => ?_) ?_; rotate_left
   ·obtain ⟨⟨⟨_, ⟨⟨⟨e0, e1, e2⟩, _⟩, _⟩, ⟨⟨f0, f1, f2, f3⟩, _⟩, _⟩, ⟨⟨⟨j0, j1, j2, j3⟩, _⟩, _⟩, ⟨⟨m0, m1⟩, _⟩, ⟨k0, k1, k2, k3⟩⟩, ⟨⟨h0, h1, h2⟩, _⟩⟩ := hx; go_simp; try with_reducible rfl
   try simp only [Act.put, List.getElem_toArray, List.getElem_cons_zero, List.getElem_cons_succ, List.setIfInBounds_toArray, List.set_cons_succ, List.set_cons_zero]
   refine tkH 11 ?_ hS (fun wx hx => ?_) ?_; rotate_left
   ·obtain ⟨⟨⟨_, ⟨⟨⟨e0, e1, e2⟩, _⟩, _⟩, ⟨⟨f0, f1, f2, f3⟩, _⟩, _⟩, ⟨⟨⟨j0, j1, j2, j3⟩, _⟩, _⟩, ⟨⟨m0, m1⟩, _⟩, ⟨k0, k1, k2, k3⟩⟩, ⟨⟨h0, h1, h2⟩, _⟩⟩ := hx; go_simp; try with_reducible rfl
   refine tkH 12 ?_ hS (fun wx hx => ?_) ?_; rotate_left
   ·obtain ⟨⟨⟨_, ⟨⟨⟨e0, e1, e2⟩, _⟩, _⟩, ⟨⟨f0, f1, f2, f3⟩, _⟩, _⟩, ⟨⟨⟨j0, j1, j2, j3⟩, _⟩, _⟩, ⟨⟨m0, m1⟩, _⟩, ⟨k0, k1, k2, k3⟩⟩, ⟨⟨h0, h1, h2⟩, _⟩⟩ := hx; go_simp; try with_reducible rfl
   refine tkH 13 ?_ hS (fun wx hx => ?_) ?_; rotate_left
   ·obtain ⟨⟨⟨_, ⟨⟨⟨e0, e1, e2⟩, _⟩, _⟩, ⟨⟨f0, f1, f2, f3⟩, _⟩, _⟩, ⟨⟨⟨j0, j1, j2, j3⟩, _⟩, _⟩, ⟨⟨m0, m1⟩, _⟩, ⟨k0, k1, k2, k3⟩⟩, ⟨⟨h0, h1, h2⟩, _⟩⟩ := hx; go_simp; try with_reducible rfl
   try simp only [Act.put, List.getElem_toArray, List.getElem_cons_zero, List.getElem_cons_succ, List.setIfInBounds_toArray, List.set_cons_succ, List.set_cons_zero]
   refine tkH 14 ?_ hS (fun wx hx => ?_) ?_; rotate_left
   ·obtain ⟨⟨⟨_, ⟨⟨⟨e0, e1, e2⟩, _⟩, _⟩, ⟨⟨f0, f1, f2, f3⟩, _⟩, _⟩, ⟨⟨⟨j0, j1, j2, j3⟩, _⟩, _⟩, ⟨⟨m0, m1⟩, _⟩, ⟨k0, k1, k2, k3⟩⟩, ⟨⟨h0, h1, h2⟩, _⟩⟩ := hx; go_simp; try with_reducible rfl
   refine tkH 15 ?_ hS (fun wx hx => ?_) ?_; rotate_left
   ·obtain ⟨⟨⟨_, ⟨⟨⟨e0, e1, e2⟩, _⟩, _⟩, ⟨⟨f0, f1, f2, f3⟩, _⟩, _⟩, ⟨⟨⟨j0, j1, j2, j3⟩, _⟩, _⟩, ⟨⟨m0, m1⟩, _⟩, ⟨k0, k1, k2, k3⟩⟩, ⟨⟨h0, h1, h2⟩, _⟩⟩ := hx; go_simp; try with_reducible rfl
   refine tkH 16 ?_ hS (fun wx hx => ?_) ?_; rotate_left
   ·obtain ⟨⟨⟨_, ⟨⟨⟨e0, e1, e2⟩, _⟩, _⟩, ⟨⟨f0, f1, f2, f3⟩, _⟩, _⟩, ⟨⟨⟨j0, j1, j2, j3⟩, _⟩, _⟩, ⟨⟨m0, m1⟩, _⟩, ⟨k0, k1, k2, k3⟩⟩, ⟨⟨h0, h1, h2⟩, _⟩⟩ := hx; go_simp; try with_reducible rfl
   try simp only [Act.put, List.getElem_toArray, List.getElem_cons_zero, List.getElem_cons_succ, List.setIfInBounds_toArray, List.set_cons_succ, List.set_cons_zero]
   refine tkH 17 ?_ hS (fun wx hx => ?_) ?_; rotate_left
   ·obtain ⟨⟨⟨_, ⟨⟨⟨e0, e1, e2⟩, _⟩, _⟩, ⟨⟨f0, f1, f2, f3⟩, _⟩, _⟩, ⟨⟨⟨j0, j1, j2, j3⟩, _⟩, _⟩, ⟨⟨m0, m1⟩, _⟩, ⟨k0, k1, k2, k3⟩⟩, ⟨⟨h0, h1, h2⟩, _⟩⟩ := hx; go_simp; try with_reducible rfl
   refine tkH 18 ?_ hS (fun wx hx => ?_) ?_; rotate_left
   ·obtain ⟨⟨⟨_, ⟨⟨⟨e0, e1, e2⟩, _⟩, _⟩, ⟨⟨f0, f1, f2, f3⟩, _⟩, _⟩, ⟨⟨⟨j0, j1, j2, j3⟩, _⟩, _⟩, ⟨⟨m0, m1⟩, _⟩, ⟨k0, k1, k2, k3⟩⟩, ⟨⟨h0, h1, h2⟩, _⟩⟩ := hx; go_simp; try with_reducible rfl
   refine tkH 19 ?_ hS (fun wx hx => ?_) ?_; rotate_left
   ·obtain ⟨⟨⟨_, ⟨⟨⟨e0, e1, e2⟩, _⟩, _⟩, ⟨⟨f0, f1, f2, f3⟩, _⟩, _⟩, ⟨⟨⟨j0, j1, j2, j3⟩, _⟩, _⟩, ⟨⟨m0, m1⟩, _⟩, ⟨k0, k1, k2, k3⟩⟩, ⟨⟨h0, h1, h2⟩, _⟩⟩ := hx; go_simp; try with_reducible rfl
   try simp only [Act.put, List.getElem_toArray, List.getElem_cons_zero, List.getElem_cons_succ, List.setIfInBounds_toArray, List.set_cons_succ, List.set_cons_zero]
   refine tkH 20 ?_ hS (fun wx hx => ?_) ?_; rotate_left
   ·obtain ⟨⟨⟨_, ⟨⟨⟨e0, e1, e2⟩, _⟩, _⟩, ⟨⟨f0, f1, f2, f3⟩, _⟩, _⟩, ⟨⟨⟨j0, j1, j2, j3⟩, _⟩, _⟩, ⟨⟨m0, m1⟩, _⟩, ⟨k0, k1, k2, k3⟩⟩, ⟨⟨h0, h1, h2⟩, _⟩⟩ := hx; go_simp; try with_reducible rfl
   refine rdH 21 (fun K hK => ?_)
   go_simp
   go_wp2_with fail
   refine (implCellAt_any R _ _ _ key start 0 _ hS.1.1.2.2.2 (fun _ => HW.out)).mono ?_
   obtain ⟨ca, hca⟩ : ∃ x, cellAtC R key start = x := ⟨_, rfl⟩
   obtain ⟨cb, hcb⟩ : ∃ x, cellAtV R key start = x := ⟨_, rfl⟩
   rw [hca, hcb]
   rw [hcb] at hS
   rintro e z1 ⟨rfl, q⟩
   have hS' : EnP w b3 b7 b8 b9 S R (.slice a0 S.nc c0) (.slice a1 S.nl c1) (.slice a2 S.nw c2) (.slice g0 R.nc g3) (.slice g1 R.nl g4) (.slice g2 R.nw g5) (.slice s0 R.nc s3) (.slice s1 R.nl s4) (.slice s2 R.nw s5) (.slice (some ⟨g9, o9, none⟩) 1 p9) g9 o9 n0 c n2 n3 z1 ∧ Blk3 z1 bg (.int .i64 0) (.bool true) (.int .i64 cb) := ⟨hS.1.later q, hS.2.later q⟩
   clear q
   go_wp2_with fail
   refine hK.out _ _ (by rw [hcb]; exact hS') (fun hS => ?_)
   clear hK K hS'
   have hfd := fun (w : World) => field_in1 ca cb w
   refine tkH 22 ?_ hS (fun wx hx => ?_) ?_; rotate_left
   ·obtain ⟨⟨⟨_, ⟨⟨⟨e0, e1, e2⟩, _⟩, _⟩, ⟨⟨f0, f1, f2, f3⟩, _⟩, _⟩, ⟨⟨⟨j0, j1, j2, j3⟩, _⟩, _⟩, ⟨⟨m0, m1⟩, _⟩, ⟨k0, k1, k2, k3⟩⟩, ⟨⟨h0, h1, h2⟩, _⟩⟩ := hx; go_simp; try with_reducible rfl
   clear hfd
   refine tkH 23 ?_ hS (fun wx hx => ?_) ?_; rotate_left
   ·obtain ⟨⟨⟨_, ⟨⟨⟨e0, e1, e2⟩, _⟩, _⟩, ⟨⟨f0, f1, f2, f3⟩, _⟩, _⟩, ⟨⟨⟨j0, j1, j2, j3⟩, _⟩, _⟩, ⟨⟨m0, m1⟩, _⟩, ⟨k0, k1, k2, k3⟩⟩, ⟨⟨h0, h1, h2⟩, _⟩⟩ := hx; go_simp; try with_reducible rfl
   refine tkH 24 ?_ hS (fun wx hx => ?_) ?_; rotate_left
   ·obtain ⟨⟨⟨_, ⟨⟨⟨e0, e1, e2⟩, _⟩, _⟩, ⟨⟨f0, f1, f2, f3⟩, _⟩, _⟩, ⟨⟨⟨j0, j1, j2, j3⟩, _⟩, _⟩, ⟨⟨m0, m1⟩, _⟩, ⟨k0, k1, k2, k3⟩⟩, ⟨⟨h0, h1, h2⟩, _⟩⟩ := hx; go_simp; try with_reducible rfl
  rotate_left
  focus
   have dg : (gc == 0) = false := beq_eq_false_iff_ne.2 hg
   have dh : (gc != 0) = true := bne_iff_ne.2 hg
   clear HX hg
   refine tkH 5 ?_ hS (fun wx hx => ?_) ?_; rotate_left
   ·obtain ⟨⟨⟨_, ⟨⟨⟨e0, e1, e2⟩, _⟩, _⟩, ⟨⟨f0, f1, f2, f3⟩, _⟩, _⟩, ⟨⟨⟨j0, j1, j2, j3⟩, _⟩, _⟩, ⟨⟨m0, m1⟩, _⟩, ⟨k0, k1, k2, k3⟩⟩, ⟨⟨h0, h1, h2⟩, _⟩⟩ := hx; go_simp; try with_reducible rfl
   refine tkH 6 ?_ hS (fun wx hx => ?_) ?_; rotate_left
   ·obtain ⟨⟨⟨_, ⟨⟨⟨e0, e1, e2⟩, _⟩, _⟩, ⟨⟨f0, f1, f2, f3⟩, _⟩, _⟩, ⟨⟨⟨j0, j1, j2, j3⟩, _⟩, _⟩, ⟨⟨m0, m1⟩, _⟩, ⟨k0, k1, k2, k3⟩⟩, ⟨⟨h0, h1, h2⟩, _⟩⟩ := hx; go_simp; try with_reducible rfl
   refine tkH 7 ?_ hS (fun wx hx => ?_) ?_; rotate_left
   ·obtain ⟨⟨⟨_, ⟨⟨⟨e0, e1, e2⟩, _⟩, _⟩, ⟨⟨f0, f1, f2, f3⟩, _⟩, _⟩, ⟨⟨⟨j0, j1, j2, j3⟩, _⟩, _⟩, ⟨⟨m0, m1⟩, _⟩, ⟨k0, k1, k2, k3⟩⟩, ⟨⟨h0, h1, h2⟩, _⟩⟩ := hx; go_simp; try with_reducible rfl
   try simp only [Act.put, List.getElem_toArray, List.getElem_cons_zero, List.getElem_cons_succ, List.setIfInBounds_toArray, List.set_cons_succ, List.set_cons_zero]
   refine tkH 8 ?_ hS (fun wx hx => ?_) ?_; rotate_left
   ·obtain ⟨⟨⟨_, ⟨⟨⟨e0, e1, e2⟩, _⟩, _⟩, ⟨⟨f0, f1, f2, f3⟩, _⟩, _⟩, ⟨⟨⟨j0, j1, j2, j3⟩, _⟩, _⟩, ⟨⟨m0, m1⟩, _⟩, ⟨k0, k1, k2, k3⟩⟩, ⟨⟨h0, h1, h2⟩, _⟩⟩ := hx; go_simp; try with_reducible rfl
   refine tkH 9 ?_ hS (fun wx hx => ?_) ?_; rotate_left
   ·obtain ⟨⟨⟨_, ⟨⟨⟨e0, e1, e2⟩, _⟩, _⟩, ⟨⟨f0, f1, f2, f3⟩, _⟩, _⟩, ⟨⟨⟨j0, j1, j2, j3⟩, _⟩, _⟩, ⟨⟨m0, m1⟩, _⟩, ⟨k0, k1, k2, k3⟩⟩, ⟨⟨h0, h1, h2⟩, _⟩⟩ := hx; go_simp; try with_reducible rfl
   refine tkH 10 ?_ hS (fun wx hx => ?_) ?_; rotate_left
   ·obtain ⟨⟨⟨_, ⟨⟨⟨e0, e1, e2⟩, _⟩, _⟩, ⟨⟨f0, f1, f2, f3⟩, _⟩, _⟩, ⟨⟨⟨j0, j1, j2, j3⟩, _⟩, _⟩, ⟨⟨m0, m1⟩, _⟩, ⟨k0, k1, k2, k3⟩⟩, ⟨⟨h0, h1, h2⟩, _⟩⟩ := hx; go_simp; try with_reducible rfl
   try simp only [Act.put, List.getElem_toArray, List.getElem_cons_zero, List.getElem_cons_succ, List.setIfInBounds_toArray, List.set_cons_succ, List.set_cons_zero]
   refine tkH 11 ?_ hS (fun wx hx => ?_) ?_; rotate_left
   ·obtain ⟨⟨⟨_, ⟨⟨⟨e0, e1, e2⟩, _⟩, _⟩, ⟨⟨f0, f1, f2, f3⟩, _⟩, _⟩, ⟨⟨⟨j0, j1, j2, j3⟩, _⟩, _⟩, ⟨⟨m0, m1⟩, _⟩, ⟨k0, k1, k2, k3⟩⟩, ⟨⟨h0, h1, h2⟩, _⟩⟩ := hx; go_simp; try with_reducible rfl
   refine noH 12 hS ?_
   refine noH 13 hS ?_
   refine noH 14 hS ?_
   refine noH 15 hS ?_
   refine noH 16 hS ?_
   refine noH 17 hS ?_
   refine noH 18 hS ?_
   refine noH 19 hS ?_
   refine noH 20 hS ?_
   refine noH 21 hS ?_
   refine noH 22 hS ?_
   refine noH 23 hS ?_
   refine noH 24 hS ?_
  rotate_left
 rotate_left 2
 focus
  have d3 : (n3 == 1) = false := beq_eq_false_iff_ne.2 h3
  have d4 : (n3 != 1) = true := bne_iff_ne.2 h3
  clear h3
  refine tkH 5 ?_ hS (fun wx hx => ?_) ?_; rotate_left
  ·obtain ⟨⟨⟨_, ⟨⟨⟨e0, e1, e2⟩, _⟩, _⟩, ⟨⟨f0, f1, f2, f3⟩, _⟩, _⟩, ⟨⟨⟨j0, j1, j2, j3⟩, _⟩, _⟩, ⟨⟨m0, m1⟩, _⟩, ⟨k0, k1, k2, k3⟩⟩, ⟨⟨h0, h1, h2⟩, _⟩⟩ := hx; go_simp; try with_reducible rfl
  refine tkH 6 ?_ hS (fun wx hx => ?_) ?_; rotate_left
  ·obtain ⟨⟨⟨_, ⟨⟨⟨e0, e1, e2⟩, _⟩, _⟩, ⟨⟨f0, f1, f2, f3⟩, _⟩, _⟩, ⟨⟨⟨j0, j1, j2, j3⟩, _⟩, _⟩, ⟨⟨m0, m1⟩, _⟩, ⟨k0, k1, k2, k3⟩⟩, ⟨⟨h0, h1, h2⟩, _⟩⟩ := hx; go_simp; try with_reducible rfl
  refine noH 7 hS ?_
  refine noH 8 hS ?_
  refine noH 9 hS ?_
  refine tkH 10 ?_ hS (fun wx hx => ?_) ?_; rotate_left
  ·obtain ⟨⟨⟨_, ⟨⟨⟨e0, e1, e2⟩, _⟩, _⟩, ⟨⟨f0, f1, f2, f3⟩, _⟩, _⟩, ⟨⟨⟨j0, j1, j2, j3⟩, _⟩, _⟩, ⟨⟨m0, m1⟩, _⟩, ⟨k0, k1, k2, k3⟩⟩, ⟨⟨h0, h1, h2⟩, _⟩⟩ := hx; go_simp; try with_reducible rfl
  refine tkH 11 ?_ hS (fun wx hx => ?_) ?_; rotate_left
  ·obtain ⟨⟨⟨_, ⟨⟨⟨e0, e1, e2⟩, _⟩, _⟩, ⟨⟨f0, f1, f2, f3⟩, _⟩, _⟩, ⟨⟨⟨j0, j1, j2, j3⟩, _⟩, _⟩, ⟨⟨m0, m1⟩, _⟩, ⟨k0, k1, k2, k3⟩⟩, ⟨⟨h0, h1, h2⟩, _⟩⟩ := hx; go_simp; try with_reducible rfl
  refine noH 12 hS ?_
  refine noH 13 hS ?_
  refine noH 14 hS ?_
  refine noH 15 hS ?_
  refine noH 16 hS ?_
  refine noH 17 hS ?_
  refine noH 18 hS ?_
  refine noH 19 hS ?_
  refine noH 20 hS ?_
  refine noH 21 hS ?_
  refine noH 22 hS ?_
  refine noH 23 hS ?_
  refine noH 24 hS ?_
 rotate_left
 all_goals
  refine tkH 25 ?_ hS (fun wx hx => ?_) ?_; rotate_left
  ·obtain ⟨⟨⟨_, ⟨⟨⟨e0, e1, e2⟩, _⟩, _⟩, ⟨⟨f0, f1, f2, f3⟩, _⟩, _⟩, ⟨⟨⟨j0, j1, j2, j3⟩, _⟩, _⟩, ⟨⟨m0, m1⟩, _⟩, ⟨k0, k1, k2, k3⟩⟩, ⟨⟨h0, h1, h2⟩, _⟩⟩ := hx; go_simp; try with_reducible rfl
  refine tkH 26 ?_ hS (fun wx hx => ?_) ?_; rotate_left
  ·obtain ⟨⟨⟨_, ⟨⟨⟨e0, e1, e2⟩, _⟩, _⟩, ⟨⟨f0, f1, f2, f3⟩, _⟩, _⟩, ⟨⟨⟨j0, j1, j2, j3⟩, _⟩, _⟩, ⟨⟨m0, m1⟩, _⟩, ⟨k0, k1, k2, k3⟩⟩, ⟨⟨h0, h1, h2⟩, _⟩⟩ := hx; go_simp; try with_reducible rfl
  refine wpAnyH_done (by kernel_rfl) ?_ _
  go_simp
  go_wp2
  go_ret
  exact ⟨rfl, hS.1.1.1⟩
end Go.Proofs.YtiadbiiiikhfaaaGreatDoor

namespace Go.Proofs.YtiadbiiiikhfaaaGreatDoor
open Go.RowKit

/-- What stands: the result's box, the box of the store that was drawn. -/
def DcE (w : World) (b : Nat) (S : Sto) (v0 v1 v2 : Value) (x : World) : Prop := Below w.heap.size w x ∧ Blk3 x w.heap.size (.slice none 0 0) (.slice none 0 0) (.slice none 0 0) ∧ Blk3 x b v0 v1 v2 ∧ St x (w.heap.size + 1) S v0 v1 v2 ∧ w.heap.size < b
theorem DcE.later {w x x' : World} {b : Nat} {S : Sto} {v0 v1 v2 : Value} (h : DcE w b S v0 v1 v2 x) (hb : Below x.heap.size x x') : DcE w b S v0 v1 v2 x' := ⟨h.1.trans (hb.mono h.1.size), h.2.1.later hb, h.2.2.1.later hb, h.2.2.2.1.later hb, h.2.2.2.2⟩
set_option maxRecDepth 100000 in
set_option maxHeartbeats 4000000 in
theorem drawCommitKey_any (w : World) (o : Option Addr) (len cap : Nat) (h : Code w o len) (hl : len ≤ 1048576) :
  Calls Tryz.prog 17 #[.slice o len cap] w (DrawnC w) := by
 have H : Hid (Code w o len) := h
 have HR : Hid (Blk3 (w.alloc (.cells #[.slice none 0 0, .slice none 0 0, .slice none 0 0] 28)) w.heap.size (.slice none 0 0) (.slice none 0 0) (.slice none 0 0)) := Blk3.new w _ _ _ _
 have hsz : Hid ((w.alloc (.cells #[.slice none 0 0, .slice none 0 0, .slice none 0 0] 28)).heap.size = w.heap.size + 1) := World.size_alloc _ _
 clear h
 go_enter Tryz.func17, Tryz.ntmps17
 go_wp2_with fail
 try dsimp only
 refine (l3With_any _ o len cap (H.out.later (below_alloc _ _)) hl).mono ?_
 rintro e y0 ⟨S, a0, c0, a1, c1, a2, c2, key, ts, rfl, _, hst, q, _⟩
 have HE : Hid (DcE w y0.heap.size S (.slice a0 S.nc c0) (.slice a1 S.nl c1) (.slice a2 S.nw c2) (y0.alloc (.cells #[.slice a0 S.nc c0, .slice a1 S.nl c1, .slice a2 S.nw c2] 28))) := by
  have hb : Below w.heap.size w y0 := (below_alloc w _).trans (q.mono (by rw [hsz.out]; omega))
  have hs := q.size
  rw [hsz.out] at hst hs
  exact ⟨hb.alloc hb.size _, (HR.out.later q).alloc _, Blk3.new _ _ _ _ _, hst.alloc _, by omega⟩
 clear hst q HR hsz
 go_upto_region 2 with fail
 generalize y0.alloc (.cells #[.slice a0 S.nc c0, .slice a1 S.nl c1, .slice a2 S.nw c2] 28) = x0 at HE ⊢
 generalize y0.heap.size = b6 at HE ⊢
 have hg : (x0.alloc (.cells #[.int .u8 3] 5)).heap[x0.heap.size]? = some (.cells #[.int .u8 3] 5 (0, 0)) := by
  unfold World.alloc
  exact Array.getElem?_push_size
 go_wp2_with (at_builtin; refine wpList_codeA rfl _ _ rfl _ x0.heap.size 3 rfl hg ⟨by decide, by decide⟩ o len cap rfl (H.out.later (HE.out.1.alloc HE.out.1.size _)) hl ?_)
 intro ao cp x2 hc hgr
 have q2 : Below x0.heap.size x0 x2 := ((Below.refl x0.heap.size x0).alloc (Nat.le_refl _) _).grown hgr (by rw [World.size_alloc]; omega) (fun j e => by cases e; exact Nat.le_refl _)
 have HE2 : Hid (DcE w b6 S (.slice a0 S.nc c0) (.slice a1 S.nl c1) (.slice a2 S.nw c2) x2) := HE.out.later q2
 clear HE hg hgr q2
 go_wp2_with fail
 refine (l1Source_any _ ao (1 + len) cp hc).mono ?_
 rintro e x3 ⟨rfl, hS, hb, _⟩
 have HQ : Hid (Below x2.heap.size x2 x3 ∧ Src x3 x2.heap.size ao (1 + len) cp 0) := ⟨hb, hS⟩
 have HN : Hid (w.heap.size < b6 ∧ b6 < x2.heap.size) := ⟨HE2.out.2.2.2.2, HE2.out.2.2.1.lt⟩
 clear hS hb hc
 go_upto_region 3 with fail
 obtain ⟨bs, hbs⟩ : ∃ bs, x2.heap.size = bs := ⟨_, rfl⟩
 have HZ : Hid (x2.heap.size = bs) := hbs
 rw [hbs] at HQ HN ⊢
 clear hbs
 have HB : ∀ {x : World}, Below bs x2 x → Blk3 x b6 (.slice a0 S.nc c0) (.slice a1 S.nl c1) (.slice a2 S.nw c2) := fun q => HE2.out.2.2.1.later (by rw [HZ.out]; exact q)
 have HBH : Hid (∀ {x : World}, Below bs x2 x → Blk3 x b6 (.slice a0 S.nc c0) (.slice a1 S.nl c1) (.slice a2 S.nw c2)) := HB
 clear HB
 refine wp_region_held_drew (S := fun x => Blk3 x b6 (.slice a0 S.nc c0) (.slice a1 S.nl c1) (.slice a2 S.nw c2)) (by kernel_rfl) (HBH.out HQ.out.1.drew) (fun hS => ?_)
 have HQ4 : Hid (Below bs x2 x3.drew ∧ Src x3.drew bs ao (1 + len) cp 0) := ⟨HQ.out.1.drew, HQ.out.2.later ((Below.refl _ _).drew)⟩
 clear HQ
 generalize x3.drew = x4 at hS HQ4 ⊢
 refine tkH 0 ?_ hS (fun wx hx => ?_) ?_; rotate_left
 ·obtain ⟨⟨t0, t1, t2⟩, _⟩ := hx; go_simp; try with_reducible rfl
 refine tkH 1 ?_ hS (fun wx hx => ?_) ?_; rotate_left
 ·obtain ⟨⟨t0, t1, t2⟩, _⟩ := hx; go_simp; try with_reducible rfl
 refine tkH 2 ?_ hS (fun wx hx => ?_) ?_; rotate_left
 ·obtain ⟨⟨t0, t1, t2⟩, _⟩ := hx; go_simp; try with_reducible rfl
 refine tkH 3 ?_ hS (fun wx hx => ?_) ?_; rotate_left
 ·obtain ⟨⟨t0, t1, t2⟩, _⟩ := hx; go_simp; try with_reducible rfl
 refine tkH 4 ?_ hS (fun wx hx => ?_) ?_; rotate_left
 ·obtain ⟨⟨t0, t1, t2⟩, _⟩ := hx; go_simp; try with_reducible rfl
 refine rdH 5 (fun K hK => ?_)
 go_simp
 have hlt : bs < x4.heap.size := HQ4.out.2.lt
 have HQ5 : Hid (Below bs x2 (x4.alloc (.cells #[.int .i64 1, .int .i64 2, .int .i64 5, .int .i64 0] 2)) ∧ Src (x4.alloc (.cells #[.int .i64 1, .int .i64 2, .int .i64 5, .int .i64 0] 2)) bs ao (1 + len) cp 0) := ⟨HQ4.out.1.alloc (Nat.le_of_lt hlt) _, HQ4.out.2.alloc _⟩
 have hI : Ints (x4.alloc (.cells #[.int .i64 1, .int .i64 2, .int .i64 5, .int .i64 0] 2)) x4.heap.size (.slice (some ⟨x4.heap.size, 0, none⟩) 4 4) [1, 2, 5, 0] := World.ownsRow_lit x4 #[.int .i64 1, .int .i64 2, .int .i64 5, .int .i64 0] 4 (Nat.le_refl _) (by decide) rfl
 refine hK.out _ _ (HBH.out HQ5.out.1) (fun hS => ?_)
 clear hK K HQ4
 refine rdH 6 (fun K hK => ?_)
 go_simp
 go_wp2_with fail
 refine (l1Pick_anyX _ bs ao (1 + len) cp 0 _ x4.heap.size [1, 2, 5, 0] HQ5.out.2 (by omega) (by omega) hI hlt (by simp) (by simp)).mono ?_
 rintro e x5 ⟨m, rfl, _, _, hT⟩
 have q5 : Below bs x2 x5 := HQ5.out.1.grown hT (by have := HQ5.out.2.lt; omega) (fun j e => by cases e; exact Nat.le_refl _)
 have HE6 : Hid (DcE w b6 S (.slice a0 S.nc c0) (.slice a1 S.nl c1) (.slice a2 S.nw c2) x5) := HE2.out.later (by rw [HZ.out]; exact q5)
 clear HQ5 hI hlt hT q5 HBH HE2 HZ
 go_wp2_with fail
 refine hK.out _ _ HE6.out.2.2.1 (fun hS => ?_)
 clear hK K
 refine tkH 7 ?_ hS (fun wx hx => ?_) ?_; rotate_left
 ·obtain ⟨⟨t0, t1, t2⟩, _⟩ := hx; go_simp; try with_reducible rfl
 refine rdH 8 (fun K hK => ?_)
 obtain ⟨⟨r0, r1, r2⟩, fr0, fr1, fr2⟩ := HE6.out.2.1
 have HB7 := hid_mk (((HE6.out.2.1.set0 (.slice a0 S.nc c0)).set1 (.slice a1 S.nl c1)).set2 (.slice a2 S.nw c2))
 have hb : b6 ≠ w.heap.size := Nat.ne_of_gt HN.out.1
 have hf : ∀ j, (⟨w.heap.size, j, none⟩ : Addr).block < w.heap.size + 1 := fun j => by show w.heap.size < w.heap.size + 1; omega
 have HX : Hid (St (((x5.setCell ⟨w.heap.size, 0, none⟩ (.slice a0 S.nc c0)).setCell ⟨w.heap.size, 1, none⟩ (.slice a1 S.nl c1)).setCell ⟨w.heap.size, 2, none⟩ (.slice a2 S.nw c2)) 0 S (.slice a0 S.nc c0) (.slice a1 S.nl c1) (.slice a2 S.nw c2) ∧ Below w.heap.size w (((x5.setCell ⟨w.heap.size, 0, none⟩ (.slice a0 S.nc c0)).setCell ⟨w.heap.size, 1, none⟩ (.slice a1 S.nl c1)).setCell ⟨w.heap.size, 2, none⟩ (.slice a2 S.nw c2))) := ⟨(((HE6.out.2.2.2.1.far (hf 0) _).far (hf 1) _).far (hf 2) _).mono (Nat.zero_le _), ((HE6.out.1.setCell (Nat.le_refl _) _).setCell (Nat.le_refl _) _).setCell (Nat.le_refl _) _⟩
 go_simp
 refine hK.out _ _ (((HE6.out.2.2.1.kept (Below.heap_setCell _ ⟨w.heap.size, 0, none⟩ _ _ hb)).kept (Below.heap_setCell _ ⟨w.heap.size, 1, none⟩ _ _ hb)).kept (Below.heap_setCell _ ⟨w.heap.size, 2, none⟩ _ _ hb)) (fun hS => ?_)
 clear hK K HE6 hb hf r0 r1 r2 fr0 fr1 fr2
 generalize (((x5.setCell ⟨w.heap.size, 0, none⟩ (.slice a0 S.nc c0)).setCell ⟨w.heap.size, 1, none⟩ (.slice a1 S.nl c1)).setCell ⟨w.heap.size, 2, none⟩ (.slice a2 S.nw c2)) = x6 at HX HB7 hS ⊢
 refine tkH 9 ?_ hS (fun wx hx => ?_) ?_; rotate_left
 ·obtain ⟨⟨t0, t1, t2⟩, _⟩ := hx; go_simp; try with_reducible rfl
 refine tkH 10 ?_ hS (fun wx hx => ?_) ?_; rotate_left
 ·obtain ⟨⟨t0, t1, t2⟩, _⟩ := hx; go_simp; try with_reducible rfl
 refine tkH 11 ?_ hS (fun wx hx => ?_) ?_; rotate_left
 ·obtain ⟨⟨t0, t1, t2⟩, _⟩ := hx; go_simp; try with_reducible rfl
 refine wpAnyH_done (by kernel_rfl) ?_ _
 go_simp
 go_wp2
 obtain ⟨⟨p0, p1, p2⟩, _⟩ := HB7.out
 exact bodyPost_ret (v := .tuple #[.agg #[.slice a0 S.nc c0, .slice a1 S.nl c1, .slice a2 S.nw c2], .int .i64 key, .int .i64 ts, .int .i64 (IntKind.i64.wrap (ts + m))]) (by simp [results, Tryz.results17, go_sem, p0, p1, p2]) rfl ⟨S, a0, c0, a1, c1, a2, c2, key, ts, _, rfl, HX.out⟩
end Go.Proofs.YtiadbiiiikhfaaaGreatDoor

namespace Go.Proofs.YtiadbiiiikhfaaaGreatDoor
open Go.RowKit

theorem fnCommits_walk (o : Option Addr) (len cap : Nat) (w : World) (hL : Laid w) (h : Code w o len) (hl0 : len ≤ maxLen) :
  Calls Tryz.prog 4 #[.slice o len cap] w fun e w' => e = .returned (.bool true) ∧ Below w.heap.size w w' :=
 fnCommits_over o len cap w hL hl0 (fun hl => drawCommitKey_any w o len cap h hl)
end Go.Proofs.YtiadbiiiikhfaaaGreatDoor

