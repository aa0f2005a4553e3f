/-
  Own text. What WriteOf and LastWrite answer, the program's and the model's: a code, and a new row of one write or of none.
-/
import Derived.Test.YtjhloobjbbdmcahStorL
namespace Go.Proofs.Ytjhloobjbbdmcah
open Go.RowKit

theorem row_one4 (w : World) (x0 x1 x2 x3 : Int) (t : TypeId) (F : Nat → Int) (h0 : F 0 = x0) (h1 : F 1 = x1) (h2 : F 2 = x2) (h3 : F 3 = x3) :
    Row (w.alloc (.cells #[.int .i64 x0, .int .i64 x1, .int .i64 x2, .int .i64 x3] t)) w.heap.size 4 1 F (.slice (some ⟨w.heap.size, 0, none⟩) 1 1) ∧ Free (w.alloc (.cells #[.int .i64 x0, .int .i64 x1, .int .i64 x2, .int .i64 x3] t)) (1 * 4) (.slice (some ⟨w.heap.size, 0, none⟩) 1 1) := by
  refine ⟨⟨_, _, rfl, fun _ => ⟨_, _, rfl, Nat.le_refl _, by simp, fun p hp => ?_⟩⟩, ?_⟩
  · rw [Nat.zero_add]
    match p, hp with
    | 0, _ => rw [h0]; exact World.cell?_alloc_mark w _ _ _ 0
    | 1, _ => rw [h1]; exact World.cell?_alloc_mark w _ _ _ 1
    | 2, _ => rw [h2]; exact World.cell?_alloc_mark w _ _ _ 2
    | 3, _ => rw [h3]; exact World.cell?_alloc_mark w _ _ _ 3
  · intro g o n c hv p hp
    simp only [Value.slice.injEq, Option.some.injEq, Addr.mk.injEq] at hv
    obtain ⟨⟨rfl, rfl, _⟩, _, _⟩ := hv
    simp
theorem row_none4 (w : World) (B : Nat) (F : Nat → Int) : Row w B 4 0 F (.slice none 0 0) ∧ Free w (0 * 4) (.slice none 0 0) := ⟨⟨_, _, rfl, fun q => absurd q (Nat.lt_irrefl 0)⟩, by rw [Nat.zero_mul]; exact Free.of0 _ _⟩
set_option maxHeartbeats 1000000 in
theorem writeAlone_no (F : Nat → Int) (x0 x1 x2 x3 : Int) (w : World) :
    Calls Try.prog 50 #[.agg #[.int .i64 x0, .int .i64 x1, .int .i64 x2, .int .i64 x3], .bool false] w (ResRow 4 w 4 0 F) := by
  unfold ResRow
  go_enter Try.func50, Try.ntmps50
  go_wp2
  exact bodyPost_ret (v := .agg #[.int .i64 4, .slice none 0 0]) (by simp [results, Try.results50, go_sem]) rfl ⟨none, 0, rfl, (row_none4 _ _ _).1, (row_none4 _ w.heap.size F).2, (below_alloc _ _).alloc (by simp) _⟩
set_option maxHeartbeats 1000000 in
theorem writeAlone_yes (F : Nat → Int) (x0 x1 x2 x3 : Int) (h0 : F 0 = x0) (h1 : F 1 = x1) (h2 : F 2 = x2) (h3 : F 3 = x3) (w : World) :
    Calls Try.prog 50 #[.agg #[.int .i64 x0, .int .i64 x1, .int .i64 x2, .int .i64 x3], .bool true] w (ResRow 4 w 0 1 F) := by
  have HH : Hid (F 0 = x0 ∧ F 1 = x1 ∧ F 2 = x2 ∧ F 3 = x3) := ⟨h0, h1, h2, h3⟩
  clear h0 h1 h2 h3
  unfold ResRow
  go_enter Try.func50, Try.ntmps50
  go_wp2
  have hO := row_one4 ((w.alloc (.cells #[.int .i64 x0, .int .i64 x1, .int .i64 x2, .int .i64 x3] 87)).alloc (.cells #[.int .i64 0, .slice (some ⟨w.heap.size + 1 + 1, 0, none⟩) 1 1] 48)) x0 x1 x2 x3 87 F HH.out.1 HH.out.2.1 HH.out.2.2.1 HH.out.2.2.2
  simp only [World.size_alloc] at hO
  exact bodyPost_ret (v := .agg #[.int .i64 0, .slice (some ⟨w.heap.size + 1 + 1, 0, none⟩) 1 1]) (by simp [results, Try.results50, go_sem]) rfl ⟨_, _, rfl, hO.1.mono (by omega), hO.2, ((below_alloc _ _).alloc (by simp) _).alloc (by simp; omega) _⟩
/-- What is answered of one write: a code, and a row of it or of none. -/
def WAns (S : Sto) (key : Int) (q : Nat → Prop) (c : Int) (n : Nat) (F : Nat → Int) : Prop :=
  (askF S key ≠ 0 ∧ c = askF S key ∧ n = 0) ∨ (askF S key = 0 ∧ (∀ i, ¬ q i) ∧ c = 4 ∧ n = 0) ∨ (askF S key = 0 ∧ ∃ i, i < S.nw ∧ q i ∧ c = 0 ∧ n = 1 ∧ F = fun p => S.k (i * 4 + p))
theorem WAns.get (S : Sto) (key : Int) (q : Nat → Prop) (hq : ∀ i, q i → i < S.nw) : ∃ c n F, n ≤ 1000 ∧ WAns S key q c n F := by
  by_cases hz : askF S key = 0
  · by_cases he : ∃ i, q i
    · obtain ⟨i, hi⟩ := he
      exact ⟨0, 1, _, by omega, Or.inr (Or.inr ⟨hz, i, hq i hi, hi, rfl, rfl, rfl⟩)⟩
    · exact ⟨4, 0, fun _ => 0, by omega, Or.inr (Or.inl ⟨hz, fun i hi => he ⟨i, hi⟩, rfl, rfl⟩)⟩
  · exact ⟨_, 0, fun _ => 0, by omega, Or.inl ⟨hz, rfl, rfl⟩⟩
def WriteOfAns (S : Sto) (key start c : Int) (n : Nat) (F : Nat → Int) : Prop := WAns S key (firstW S.k S.nw key start) c n F
def LastWriteAns (S : Sto) (key ts c : Int) (n : Nat) (F : Nat → Int) : Prop := WAns S key (lastW S.k S.nw key ts) c n F
theorem WriteOfAns.get (S : Sto) (key start : Int) : ∃ c n F, n ≤ 1000 ∧ WriteOfAns S key start c n F := WAns.get S key _ (fun _ h => h.1)
theorem LastWriteAns.get (S : Sto) (key ts : Int) : ∃ c n F, n ≤ 1000 ∧ LastWriteAns S key ts c n F := WAns.get S key _ (fun _ h => h.1)
set_option maxRecDepth 100000 in
set_option maxHeartbeats 2000000 in
theorem l2One_no (F : Nat → Int) (b : Nat) (w : World) :
    Calls Try.prog 48 #[.pointer (some ⟨b, 0, none⟩), .int .i64 (-1)] w (ResRow 4 w 4 0 F) := by
  unfold ResRow
  go_enter Try.func48, Try.ntmps48
  go_wp2
  exact bodyPost_ret (v := .agg #[.int .i64 4, .slice none 0 0]) (by simp [results, Try.results48, go_sem]) rfl ⟨none, 0, rfl, (row_none4 _ _ _).1, (row_none4 _ w.heap.size F).2, below_alloc _ _⟩
set_option maxRecDepth 100000 in
set_option maxHeartbeats 2000000 in
theorem l2One_yes (S : Sto) (b : Nat) (v0 v1 v2 : Value) (i : Nat) (w : World) (h : Lies w b S v0 v1 v2) (hi : i < S.nw) :
    Calls Try.prog 48 #[.pointer (some ⟨b, 0, none⟩), .int .i64 i] w (ResRow 4 w 0 1 (fun p => S.k (i * 4 + p))) := by
  obtain ⟨a0, c0, a1, c1, a2, c2, rfl, rfl, rfl⟩ := h.2.form
  have p2 := h.1.2.2
  have hb := h.lt
  obtain ⟨g, o, rfl, _, hg, x0, x1, x2, x3⟩ := h.2.2.2.at4 hi
  obtain ⟨n0, N0⟩ : ∃ x, S.k (i * 4) = x := ⟨_, rfl⟩
  rw [N0] at x0
  obtain ⟨n1, N1⟩ : ∃ x, S.k (i * 4 + 1) = x := ⟨_, rfl⟩
  rw [N1] at x1
  obtain ⟨n2, N2⟩ : ∃ x, S.k (i * 4 + 2) = x := ⟨_, rfl⟩
  rw [N2] at x2
  obtain ⟨n3, N3⟩ : ∃ x, S.k (i * 4 + 3) = x := ⟨_, rfl⟩
  rw [N3] at x3
  have NN : Hid (S.k (i * 4) = n0 ∧ S.k (i * 4 + 1) = n1 ∧ S.k (i * 4 + 2) = n2 ∧ S.k (i * 4 + 3) = n3) := ⟨N0, N1, N2, N3⟩
  have hin : (i : Int) < (S.nw : Int) := by omega
  clear N0 N1 N2 N3 h
  unfold ResRow
  go_enter Try.func48, Try.ntmps48
  go_wp2
  have hO := row_one4 (w.alloc (.cells #[.int .i64 0, .slice (some ⟨w.heap.size + 1, 0, none⟩) 1 1] 48)) n0 n1 n2 n3 87 (fun p => S.k (i * 4 + p)) NN.out.1 NN.out.2.1 NN.out.2.2.1 NN.out.2.2.2
  simp only [World.size_alloc] at hO
  exact bodyPost_ret (v := .agg #[.int .i64 0, .slice (some ⟨w.heap.size + 1, 0, none⟩) 1 1]) (by simp [results, Try.results48, go_sem]) rfl ⟨_, _, rfl, hO.1.mono (by omega), hO.2, (below_alloc _ _).alloc (by simp) _⟩
theorem l2Write_no (S : Sto) (b : Nat) (v0 v1 v2 : Value) (key start : Int) (w : World) (h : Lies w b S v0 v1 v2) (hn : S.nw ≤ 200) (hq : ∀ i, ¬ firstW S.k S.nw key start i) :
    Calls Try.prog 53 #[.pointer (some ⟨b, 0, none⟩), .int .i64 key, .int .i64 start] w fun e w' => e = .returned (.int .i64 (-1)) ∧ Below w.heap.size w w' := by
  obtain ⟨r, hr⟩ := FirstAt.get (writeIs S.k key start) S.nw
  refine (l2Write_is S b v0 v1 v2 key start r w h hn hr).mono fun e w' ⟨he, hw⟩ => ⟨?_, by rw [hw]; exact Below.refl _ _⟩
  rcases hr with ⟨rfl, _⟩ | ⟨i, h1, _, h2, h3⟩
  · exact he
  · exact absurd ⟨h1, h2, h3⟩ (hq i)
theorem l2Write_yes (S : Sto) (b : Nat) (v0 v1 v2 : Value) (key start : Int) (i : Nat) (w : World) (h : Lies w b S v0 v1 v2) (hn : S.nw ≤ 200) (hq : firstW S.k S.nw key start i) :
    Calls Try.prog 53 #[.pointer (some ⟨b, 0, none⟩), .int .i64 key, .int .i64 start] w fun e w' => e = .returned (.int .i64 i) ∧ Below w.heap.size w w' :=
  (l2Write_is S b v0 v1 v2 key start i w h hn (Or.inr ⟨i, hq.1, rfl, hq.2.1, hq.2.2⟩)).mono fun e w' ⟨he, hw⟩ => ⟨he, by rw [hw]; exact Below.refl _ _⟩
set_option maxRecDepth 100000 in
set_option maxHeartbeats 4000000 in
theorem implWriteOf_is (S : Sto) (v0 v1 v2 : Value) (key start c : Int) (n : Nat) (F : Nat → Int) (B : Nat) (w : World) (h : St w B S v0 v1 v2) (hA : WriteOfAns S key start c n F) :
    Calls Try.prog 26 #[.agg #[v0, v1, v2], .int .i64 key, .int .i64 start] w (ResRow 4 w c n F) := by
  obtain ⟨a0, c0, a1, c1, a2, c2, rfl, rfl, rfl⟩ := h.form
  have HE : Hid (CallEnv w B S (.slice a0 S.nc c0) (.slice a1 S.nl c1) (.slice a2 S.nw c2) (.int .i64 0) (.slice none 0 0) ((w.alloc (.cells #[.slice a0 S.nc c0, .slice a1 S.nl c1, .slice a2 S.nw c2] 35)).alloc (.cells #[.int .i64 0, .slice none 0 0] 48))) := CallEnv.new h _ _ _ _
  clear h
  unfold ResRow
  rcases hA with ⟨hz, rfl, rfl⟩ | ⟨hz, hno, rfl, rfl⟩ | ⟨hz, i, hi, hp, rfl, rfl, rfl⟩
  · obtain ⟨f, hf⟩ : ∃ f, askF S key = f := ⟨_, rfl⟩
    have HF : Hid (askF S key = f) := hf
    have hfn : (f == 0) = false := beq_eq_false_iff_ne.2 (by rw [← hf]; exact hz)
    rw [hf]
    clear hz hf
    go_enter Try.func26, Try.ntmps26
    go_wp2_with fail
    refine (askFault_any S _ _ _ key B _ HE.out.2.2.1).mono ?_
    rw [HF.out]
    rintro e w1 ⟨rfl, q1⟩
    have HE : Hid (CallEnv w B S (.slice a0 S.nc c0) (.slice a1 S.nl c1) (.slice a2 S.nw c2) (.int .i64 0) (.slice none 0 0) w1) := HE.out.later q1
    obtain ⟨⟨⟨p0, p1, p2⟩, _⟩, ⟨⟨r0, r1⟩, f0, f1⟩, _⟩ := HE.out
    clear q1
    go_wp2
    refine bodyPost_ret (v := .agg #[.int .i64 f, .slice none 0 0]) (by simp [results, Try.results26, go_sem, r0, r1]) rfl ⟨none, 0, rfl, (row_none4 _ _ _).1, (row_none4 _ w.heap.size F).2, (HE.out.2.2.2.setCell (Nat.le_succ _) _).setCell (Nat.le_succ _) _⟩
  · have Z := storeF_zero (askF_zero hz).1
    have HZ : Hid (scan (cellF S.c) S.nc = 0 ∧ (S.nc ≤ 200 ∧ S.nl ≤ 200 ∧ S.nw ≤ 200)) := ⟨Z.2.1, Z.1⟩
    have HK : Hid (∀ i, i < S.nw → 1 ≤ S.k (i * 4 + 3)) := fun i hi => (writeF_zero (scan_zero Z.2.2.2.1 i hi)).2.2.2.2.2.1
    have HA : Hid (askF S key = 0) := hz
    have HN : Hid (∀ i, ¬ firstW S.k S.nw key start i) := hno
    clear Z hz hno
    go_enter Try.func26, Try.ntmps26
    go_wp2_with fail
    refine (askFault_any S _ _ _ key B _ HE.out.2.2.1).mono ?_
    rw [HA.out]
    rintro e w1 ⟨rfl, q1⟩
    have HE : Hid (CallEnv w B S (.slice a0 S.nc c0) (.slice a1 S.nl c1) (.slice a2 S.nw c2) (.int .i64 0) (.slice none 0 0) w1) := HE.out.later q1
    obtain ⟨⟨⟨p0, p1, p2⟩, _⟩, ⟨⟨r0, r1⟩, f0, f1⟩, _⟩ := HE.out
    clear q1
    go_wp2_with fail
    refine (columnsOf_any S B _ _ _ _ HE.out.2.2.1 HZ.out.2.1 HZ.out.2.2.1 HZ.out.2.2.2 HZ.out.1).mono ?_
    rintro e w2 ⟨b, g, u1, u2, rfl, HC, q1⟩
    clear p0 p1 p2 r0 r1 f0 f1
    have HE : Hid (CallEnv w B S (.slice a0 S.nc c0) (.slice a1 S.nl c1) (.slice a2 S.nw c2) (.int .i64 0) (.slice none 0 0) w2) := HE.out.later q1
    clear q1
    go_wp2_with fail
    refine (writeOf_any _ b _ _ _ _ S.nw S.k g u1 u2 key start _ HC HZ.out.2.2.2 ).mono ?_
    rintro e w3 ⟨v, rfl, hT, q1⟩
    obtain rfl : v = .tuple #[.agg #[.int .i64 0, .int .i64 0, .int .i64 0, .int .i64 0], .bool false] := by
      rcases hT with ⟨i, hi, _⟩ | ⟨_, e⟩
      · exact absurd hi (HN.out i)
      · exact e
    have HE : Hid (CallEnv w B S (.slice a0 S.nc c0) (.slice a1 S.nl c1) (.slice a2 S.nw c2) (.int .i64 0) (.slice none 0 0) w3) := HE.out.later q1
    clear q1 hT HC
    go_wp2_with fail
    refine (writeAlone_no F 0 0 0 0 _).mono ?_
    rintro e w4 ⟨ao, cp, rfl, ro, fo, q1⟩
    have HO : Hid (Row w4 (w.heap.size + 2) 4 0 F (.slice ao 0 cp) ∧ Free w4 (0 * 4) (.slice ao 0 cp)) := ⟨ro.mono (by have := HE.out.2.1.lt; omega), fo⟩
    have HE : Hid (CallEnv w B S (.slice a0 S.nc c0) (.slice a1 S.nl c1) (.slice a2 S.nw c2) (.int .i64 0) (.slice none 0 0) w4) := HE.out.later q1
    have z9 := HE.out.2.1.lt
    obtain ⟨_, ⟨⟨r0, r1⟩, f0, f1⟩, _⟩ := HE.out
    clear q1 ro fo
    go_wp2
    refine bodyPost_ret (v := .agg #[.int .i64 4, .slice ao 0 cp]) (by simp [results, Try.results26, go_sem, r0, r1]) rfl ⟨ao, cp, rfl, ((HO.out.1.far (Or.inl (by simp)) _).far (Or.inl (by simp)) _).mono (by omega), (HO.out.2.far _ _).far _ _, (HE.out.2.2.2.setCell (Nat.le_succ _) _).setCell (Nat.le_succ _) _⟩
  · have Z := storeF_zero (askF_zero hz).1
    have HZ : Hid (scan (cellF S.c) S.nc = 0 ∧ (S.nc ≤ 200 ∧ S.nl ≤ 200 ∧ S.nw ≤ 200)) := ⟨Z.2.1, Z.1⟩
    have HK : Hid (∀ i, i < S.nw → 1 ≤ S.k (i * 4 + 3)) := fun i hi => (writeF_zero (scan_zero Z.2.2.2.1 i hi)).2.2.2.2.2.1
    have HA : Hid (askF S key = 0) := hz
    have HN : Hid (firstW S.k S.nw key start i) := hp
    clear Z hz hp
    obtain ⟨n0, N0⟩ : ∃ x, S.k (i * 4) = x := ⟨_, rfl⟩
    obtain ⟨n1, N1⟩ : ∃ x, S.k (i * 4 + 1) = x := ⟨_, rfl⟩
    obtain ⟨n2, N2⟩ : ∃ x, S.k (i * 4 + 2) = x := ⟨_, rfl⟩
    obtain ⟨n3, N3⟩ : ∃ x, S.k (i * 4 + 3) = x := ⟨_, rfl⟩
    have NN : Hid (S.k (i * 4) = n0 ∧ S.k (i * 4 + 1) = n1 ∧ S.k (i * 4 + 2) = n2 ∧ S.k (i * 4 + 3) = n3) := ⟨N0, N1, N2, N3⟩
    clear N0 N1 N2 N3
    go_enter Try.func26, Try.ntmps26
    go_wp2_with fail
    refine (askFault_any S _ _ _ key B _ HE.out.2.2.1).mono ?_
    rw [HA.out]
    rintro e w1 ⟨rfl, q1⟩
    have HE : Hid (CallEnv w B S (.slice a0 S.nc c0) (.slice a1 S.nl c1) (.slice a2 S.nw c2) (.int .i64 0) (.slice none 0 0) w1) := HE.out.later q1
    obtain ⟨⟨⟨p0, p1, p2⟩, _⟩, ⟨⟨r0, r1⟩, f0, f1⟩, _⟩ := HE.out
    clear q1
    go_wp2_with fail
    refine (columnsOf_any S B _ _ _ _ HE.out.2.2.1 HZ.out.2.1 HZ.out.2.2.1 HZ.out.2.2.2 HZ.out.1).mono ?_
    rintro e w2 ⟨b, g, u1, u2, rfl, HC, q1⟩
    clear p0 p1 p2 r0 r1 f0 f1
    have HE : Hid (CallEnv w B S (.slice a0 S.nc c0) (.slice a1 S.nl c1) (.slice a2 S.nw c2) (.int .i64 0) (.slice none 0 0) w2) := HE.out.later q1
    clear q1
    go_wp2_with fail
    refine (writeOf_any _ b _ _ _ _ S.nw S.k g u1 u2 key start _ HC HZ.out.2.2.2 ).mono ?_
    rintro e w3 ⟨v, rfl, hT, q1⟩
    obtain rfl : v = .tuple #[.agg #[.int .i64 n0, .int .i64 n1, .int .i64 n2, .int .i64 n3], .bool true] := by
      rcases hT with ⟨j, hj, e⟩ | ⟨h, _⟩
      · obtain rfl := hj.one HN.out
        rw [e, NN.out.1, NN.out.2.1, NN.out.2.2.1, NN.out.2.2.2]
      · exact absurd HN.out (h i)
    have HE : Hid (CallEnv w B S (.slice a0 S.nc c0) (.slice a1 S.nl c1) (.slice a2 S.nw c2) (.int .i64 0) (.slice none 0 0) w3) := HE.out.later q1
    clear q1 hT HC
    go_wp2_with fail
    refine (writeAlone_yes (fun p => S.k (i * 4 + p)) n0 n1 n2 n3 NN.out.1 NN.out.2.1 NN.out.2.2.1 NN.out.2.2.2 _).mono ?_
    rintro e w4 ⟨ao, cp, rfl, ro, fo, q1⟩
    have HO : Hid (Row w4 (w.heap.size + 2) 4 1 (fun p => S.k (i * 4 + p)) (.slice ao 1 cp) ∧ Free w4 (1 * 4) (.slice ao 1 cp)) := ⟨ro.mono (by have := HE.out.2.1.lt; omega), fo⟩
    have HE : Hid (CallEnv w B S (.slice a0 S.nc c0) (.slice a1 S.nl c1) (.slice a2 S.nw c2) (.int .i64 0) (.slice none 0 0) w4) := HE.out.later q1
    have z9 := HE.out.2.1.lt
    obtain ⟨_, ⟨⟨r0, r1⟩, f0, f1⟩, _⟩ := HE.out
    clear q1 ro fo
    go_wp2
    refine bodyPost_ret (v := .agg #[.int .i64 0, .slice ao 1 cp]) (by simp [results, Try.results26, go_sem, r0, r1]) rfl ⟨ao, cp, rfl, ((HO.out.1.far (Or.inl (by simp)) _).far (Or.inl (by simp)) _).mono (by omega), (HO.out.2.far _ _).far _ _, (HE.out.2.2.2.setCell (Nat.le_succ _) _).setCell (Nat.le_succ _) _⟩
set_option maxRecDepth 100000 in
set_option maxHeartbeats 4000000 in
theorem implLastWrite_is (S : Sto) (v0 v1 v2 : Value) (key ts c : Int) (n : Nat) (F : Nat → Int) (B : Nat) (w : World) (h : St w B S v0 v1 v2) (hA : LastWriteAns S key ts c n F) :
    Calls Try.prog 21 #[.agg #[v0, v1, v2], .int .i64 key, .int .i64 ts] w (ResRow 4 w c n F) := by
  obtain ⟨a0, c0, a1, c1, a2, c2, rfl, rfl, rfl⟩ := h.form
  have HE : Hid (CallEnv w B S (.slice a0 S.nc c0) (.slice a1 S.nl c1) (.slice a2 S.nw c2) (.int .i64 0) (.slice none 0 0) ((w.alloc (.cells #[.slice a0 S.nc c0, .slice a1 S.nl c1, .slice a2 S.nw c2] 35)).alloc (.cells #[.int .i64 0, .slice none 0 0] 48))) := CallEnv.new h _ _ _ _
  clear h
  unfold ResRow
  rcases hA with ⟨hz, rfl, rfl⟩ | ⟨hz, hno, rfl, rfl⟩ | ⟨hz, i, hi, hp, rfl, rfl, rfl⟩
  · obtain ⟨f, hf⟩ : ∃ f, askF S key = f := ⟨_, rfl⟩
    have HF : Hid (askF S key = f) := hf
    have hfn : (f == 0) = false := beq_eq_false_iff_ne.2 (by rw [← hf]; exact hz)
    rw [hf]
    clear hz hf
    go_enter Try.func21, Try.ntmps21
    go_wp2_with fail
    refine (askFault_any S _ _ _ key B _ HE.out.2.2.1).mono ?_
    rw [HF.out]
    rintro e w1 ⟨rfl, q1⟩
    have HE : Hid (CallEnv w B S (.slice a0 S.nc c0) (.slice a1 S.nl c1) (.slice a2 S.nw c2) (.int .i64 0) (.slice none 0 0) w1) := HE.out.later q1
    obtain ⟨⟨⟨p0, p1, p2⟩, _⟩, ⟨⟨r0, r1⟩, f0, f1⟩, _⟩ := HE.out
    clear q1
    go_wp2
    refine bodyPost_ret (v := .agg #[.int .i64 f, .slice none 0 0]) (by simp [results, Try.results21, go_sem, r0, r1]) rfl ⟨none, 0, rfl, (row_none4 _ _ _).1, (row_none4 _ w.heap.size F).2, (HE.out.2.2.2.setCell (Nat.le_succ _) _).setCell (Nat.le_succ _) _⟩
  · have Z := storeF_zero (askF_zero hz).1
    have HZ : Hid (scan (cellF S.c) S.nc = 0 ∧ (S.nc ≤ 200 ∧ S.nl ≤ 200 ∧ S.nw ≤ 200)) := ⟨Z.2.1, Z.1⟩
    have HK : Hid (∀ i, i < S.nw → 1 ≤ S.k (i * 4 + 3)) := fun i hi => (writeF_zero (scan_zero Z.2.2.2.1 i hi)).2.2.2.2.2.1
    have HA : Hid (askF S key = 0) := hz
    have HN : Hid (∀ i, ¬ lastW S.k S.nw key ts i) := hno
    clear Z hz hno
    go_enter Try.func21, Try.ntmps21
    go_wp2_with fail
    refine (askFault_any S _ _ _ key B _ HE.out.2.2.1).mono ?_
    rw [HA.out]
    rintro e w1 ⟨rfl, q1⟩
    have HE : Hid (CallEnv w B S (.slice a0 S.nc c0) (.slice a1 S.nl c1) (.slice a2 S.nw c2) (.int .i64 0) (.slice none 0 0) w1) := HE.out.later q1
    obtain ⟨⟨⟨p0, p1, p2⟩, _⟩, ⟨⟨r0, r1⟩, f0, f1⟩, _⟩ := HE.out
    clear q1
    go_wp2_with fail
    refine (columnsOf_any S B _ _ _ _ HE.out.2.2.1 HZ.out.2.1 HZ.out.2.2.1 HZ.out.2.2.2 HZ.out.1).mono ?_
    rintro e w2 ⟨b, g, u1, u2, rfl, HC, q1⟩
    clear p0 p1 p2 r0 r1 f0 f1
    have HE : Hid (CallEnv w B S (.slice a0 S.nc c0) (.slice a1 S.nl c1) (.slice a2 S.nw c2) (.int .i64 0) (.slice none 0 0) w2) := HE.out.later q1
    clear q1
    go_wp2_with fail
    refine (lastWrite_any _ b _ _ _ _ S.nw S.k g u1 u2 key ts _ HC HZ.out.2.2.2 HK.out).mono ?_
    rintro e w3 ⟨v, rfl, hT, q1⟩
    obtain rfl : v = .tuple #[.agg #[.int .i64 0, .int .i64 0, .int .i64 0, .int .i64 0], .bool false] := by
      rcases hT with ⟨i, hi, _⟩ | ⟨_, e⟩
      · exact absurd hi (HN.out i)
      · exact e
    have HE : Hid (CallEnv w B S (.slice a0 S.nc c0) (.slice a1 S.nl c1) (.slice a2 S.nw c2) (.int .i64 0) (.slice none 0 0) w3) := HE.out.later q1
    clear q1 hT HC
    go_wp2_with fail
    refine (writeAlone_no F 0 0 0 0 _).mono ?_
    rintro e w4 ⟨ao, cp, rfl, ro, fo, q1⟩
    have HO : Hid (Row w4 (w.heap.size + 2) 4 0 F (.slice ao 0 cp) ∧ Free w4 (0 * 4) (.slice ao 0 cp)) := ⟨ro.mono (by have := HE.out.2.1.lt; omega), fo⟩
    have HE : Hid (CallEnv w B S (.slice a0 S.nc c0) (.slice a1 S.nl c1) (.slice a2 S.nw c2) (.int .i64 0) (.slice none 0 0) w4) := HE.out.later q1
    have z9 := HE.out.2.1.lt
    obtain ⟨_, ⟨⟨r0, r1⟩, f0, f1⟩, _⟩ := HE.out
    clear q1 ro fo
    go_wp2
    refine bodyPost_ret (v := .agg #[.int .i64 4, .slice ao 0 cp]) (by simp [results, Try.results21, go_sem, r0, r1]) rfl ⟨ao, cp, rfl, ((HO.out.1.far (Or.inl (by simp)) _).far (Or.inl (by simp)) _).mono (by omega), (HO.out.2.far _ _).far _ _, (HE.out.2.2.2.setCell (Nat.le_succ _) _).setCell (Nat.le_succ _) _⟩
  · have Z := storeF_zero (askF_zero hz).1
    have HZ : Hid (scan (cellF S.c) S.nc = 0 ∧ (S.nc ≤ 200 ∧ S.nl ≤ 200 ∧ S.nw ≤ 200)) := ⟨Z.2.1, Z.1⟩
    have HK : Hid (∀ i, i < S.nw → 1 ≤ S.k (i * 4 + 3)) := fun i hi => (writeF_zero (scan_zero Z.2.2.2.1 i hi)).2.2.2.2.2.1
    have HA : Hid (askF S key = 0) := hz
    have HN : Hid (lastW S.k S.nw key ts i) := hp
    clear Z hz hp
    obtain ⟨n0, N0⟩ : ∃ x, S.k (i * 4) = x := ⟨_, rfl⟩
    obtain ⟨n1, N1⟩ : ∃ x, S.k (i * 4 + 1) = x := ⟨_, rfl⟩
    obtain ⟨n2, N2⟩ : ∃ x, S.k (i * 4 + 2) = x := ⟨_, rfl⟩
    obtain ⟨n3, N3⟩ : ∃ x, S.k (i * 4 + 3) = x := ⟨_, rfl⟩
    have NN : Hid (S.k (i * 4) = n0 ∧ S.k (i * 4 + 1) = n1 ∧ S.k (i * 4 + 2) = n2 ∧ S.k (i * 4 + 3) = n3) := ⟨N0, N1, N2, N3⟩
    clear N0 N1 N2 N3
    go_enter Try.func21, Try.ntmps21
    go_wp2_with fail
    refine (askFault_any S _ _ _ key B _ HE.out.2.2.1).mono ?_
    rw [HA.out]
    rintro e w1 ⟨rfl, q1⟩
    have HE : Hid (CallEnv w B S (.slice a0 S.nc c0) (.slice a1 S.nl c1) (.slice a2 S.nw c2) (.int .i64 0) (.slice none 0 0) w1) := HE.out.later q1
    obtain ⟨⟨⟨p0, p1, p2⟩, _⟩, ⟨⟨r0, r1⟩, f0, f1⟩, _⟩ := HE.out
    clear q1
    go_wp2_with fail
    refine (columnsOf_any S B _ _ _ _ HE.out.2.2.1 HZ.out.2.1 HZ.out.2.2.1 HZ.out.2.2.2 HZ.out.1).mono ?_
    rintro e w2 ⟨b, g, u1, u2, rfl, HC, q1⟩
    clear p0 p1 p2 r0 r1 f0 f1
    have HE : Hid (CallEnv w B S (.slice a0 S.nc c0) (.slice a1 S.nl c1) (.slice a2 S.nw c2) (.int .i64 0) (.slice none 0 0) w2) := HE.out.later q1
    clear q1
    go_wp2_with fail
    refine (lastWrite_any _ b _ _ _ _ S.nw S.k g u1 u2 key ts _ HC HZ.out.2.2.2 HK.out).mono ?_
    rintro e w3 ⟨v, rfl, hT, q1⟩
    obtain rfl : v = .tuple #[.agg #[.int .i64 n0, .int .i64 n1, .int .i64 n2, .int .i64 n3], .bool true] := by
      rcases hT with ⟨j, hj, e⟩ | ⟨h, _⟩
      · obtain rfl := hj.one HN.out
        rw [e, NN.out.1, NN.out.2.1, NN.out.2.2.1, NN.out.2.2.2]
      · exact absurd HN.out (h i)
    have HE : Hid (CallEnv w B S (.slice a0 S.nc c0) (.slice a1 S.nl c1) (.slice a2 S.nw c2) (.int .i64 0) (.slice none 0 0) w3) := HE.out.later q1
    clear q1 hT HC
    go_wp2_with fail
    refine (writeAlone_yes (fun p => S.k (i * 4 + p)) n0 n1 n2 n3 NN.out.1 NN.out.2.1 NN.out.2.2.1 NN.out.2.2.2 _).mono ?_
    rintro e w4 ⟨ao, cp, rfl, ro, fo, q1⟩
    have HO : Hid (Row w4 (w.heap.size + 2) 4 1 (fun p => S.k (i * 4 + p)) (.slice ao 1 cp) ∧ Free w4 (1 * 4) (.slice ao 1 cp)) := ⟨ro.mono (by have := HE.out.2.1.lt; omega), fo⟩
    have HE : Hid (CallEnv w B S (.slice a0 S.nc c0) (.slice a1 S.nl c1) (.slice a2 S.nw c2) (.int .i64 0) (.slice none 0 0) w4) := HE.out.later q1
    have z9 := HE.out.2.1.lt
    obtain ⟨_, ⟨⟨r0, r1⟩, f0, f1⟩, _⟩ := HE.out
    clear q1 ro fo
    go_wp2
    refine bodyPost_ret (v := .agg #[.int .i64 0, .slice ao 1 cp]) (by simp [results, Try.results21, go_sem, r0, r1]) rfl ⟨ao, cp, rfl, ((HO.out.1.far (Or.inl (by simp)) _).far (Or.inl (by simp)) _).mono (by omega), (HO.out.2.far _ _).far _ _, (HE.out.2.2.2.setCell (Nat.le_succ _) _).setCell (Nat.le_succ _) _⟩
set_option maxRecDepth 100000 in
set_option maxHeartbeats 4000000 in
theorem specWriteOf_is (S : Sto) (v0 v1 v2 : Value) (key start c : Int) (n : Nat) (F : Nat → Int) (B : Nat) (w : World) (h : St w B S v0 v1 v2) (hA : WriteOfAns S key start c n F) :
    Calls Try.prog 25 #[.agg #[v0, v1, v2], .int .i64 key, .int .i64 start] w (ResRow 4 w c n F) := by
  obtain ⟨a0, c0, a1, c1, a2, c2, rfl, rfl, rfl⟩ := h.form
  have HE : Hid (CallEnv w B S (.slice a0 S.nc c0) (.slice a1 S.nl c1) (.slice a2 S.nw c2) (.int .i64 0) (.slice none 0 0) ((w.alloc (.cells #[.slice a0 S.nc c0, .slice a1 S.nl c1, .slice a2 S.nw c2] 35)).alloc (.cells #[.int .i64 0, .slice none 0 0] 48))) := CallEnv.new h _ _ _ _
  clear h
  unfold ResRow
  rcases hA with ⟨hz, rfl, rfl⟩ | ⟨hz, hno, rfl, rfl⟩ | ⟨hz, i, hi, hp, rfl, rfl, rfl⟩
  · obtain ⟨f, hf⟩ : ∃ f, askF S key = f := ⟨_, rfl⟩
    have HF : Hid (askF S key = f) := hf
    have hfn : (f == 0) = false := beq_eq_false_iff_ne.2 (by rw [← hf]; exact hz)
    rw [hf]
    clear hz hf
    go_enter Try.func25, Try.ntmps25
    go_wp2_with fail
    refine (asked_any S w.heap.size _ _ _ key _ ⟨HE.out.1.1, HE.out.2.2.1.mono (Nat.zero_le _)⟩).mono ?_
    rw [HF.out]
    rintro e w1 ⟨rfl, q1⟩
    have HE : Hid (CallEnv w B S (.slice a0 S.nc c0) (.slice a1 S.nl c1) (.slice a2 S.nw c2) (.int .i64 0) (.slice none 0 0) w1) := HE.out.later q1
    obtain ⟨⟨⟨p0, p1, p2⟩, _⟩, ⟨⟨r0, r1⟩, f0, f1⟩, _⟩ := HE.out
    clear q1
    go_wp2
    refine bodyPost_ret (v := .agg #[.int .i64 f, .slice none 0 0]) (by simp [results, Try.results25, go_sem, r0, r1]) rfl ⟨none, 0, rfl, (row_none4 _ _ _).1, (row_none4 _ w.heap.size F).2, (HE.out.2.2.2.setCell (Nat.le_succ _) _).setCell (Nat.le_succ _) _⟩
  · have HZ : Hid (S.nw ≤ 200) := (storeF_zero (askF_zero hz).1).1.2.2
    have HA : Hid (askF S key = 0) := hz
    have HN : Hid (∀ i, ¬ firstW S.k S.nw key start i) := hno
    clear hz hno
    go_enter Try.func25, Try.ntmps25
    go_wp2_with fail
    refine (asked_any S w.heap.size _ _ _ key _ ⟨HE.out.1.1, HE.out.2.2.1.mono (Nat.zero_le _)⟩).mono ?_
    rw [HA.out]
    rintro e w1 ⟨rfl, q1⟩
    have HE : Hid (CallEnv w B S (.slice a0 S.nc c0) (.slice a1 S.nl c1) (.slice a2 S.nw c2) (.int .i64 0) (.slice none 0 0) w1) := HE.out.later q1
    obtain ⟨⟨⟨p0, p1, p2⟩, _⟩, ⟨⟨r0, r1⟩, f0, f1⟩, _⟩ := HE.out
    clear q1
    go_wp2_with fail
    refine (l2Write_no S w.heap.size _ _ _ key start _ ⟨HE.out.1.1, HE.out.2.2.1.mono (Nat.zero_le _)⟩ HZ.out HN.out).mono ?_
    rintro e w2 ⟨rfl, q1⟩
    clear p0 p1 p2 r0 r1 f0 f1
    have HE : Hid (CallEnv w B S (.slice a0 S.nc c0) (.slice a1 S.nl c1) (.slice a2 S.nw c2) (.int .i64 0) (.slice none 0 0) w2) := HE.out.later q1
    clear q1
    go_wp2_with fail
    refine (l2One_no F w.heap.size _).mono ?_
    rintro e w4 ⟨ao, cp, rfl, ro, fo, q1⟩
    have HO : Hid (Row w4 (w.heap.size + 2) 4 0 F (.slice ao 0 cp) ∧ Free w4 (0 * 4) (.slice ao 0 cp)) := ⟨ro.mono (by have := HE.out.2.1.lt; omega), fo⟩
    have HE : Hid (CallEnv w B S (.slice a0 S.nc c0) (.slice a1 S.nl c1) (.slice a2 S.nw c2) (.int .i64 0) (.slice none 0 0) w4) := HE.out.later q1
    have z9 := HE.out.2.1.lt
    obtain ⟨_, ⟨⟨r0, r1⟩, f0, f1⟩, _⟩ := HE.out
    clear q1 ro fo
    go_wp2
    refine bodyPost_ret (v := .agg #[.int .i64 4, .slice ao 0 cp]) (by simp [results, Try.results25, go_sem, r0, r1]) rfl ⟨ao, cp, rfl, ((HO.out.1.far (Or.inl (by simp)) _).far (Or.inl (by simp)) _).mono (by omega), (HO.out.2.far _ _).far _ _, (HE.out.2.2.2.setCell (Nat.le_succ _) _).setCell (Nat.le_succ _) _⟩
  · have HZ : Hid (S.nw ≤ 200) := (storeF_zero (askF_zero hz).1).1.2.2
    have HA : Hid (askF S key = 0) := hz
    have HN : Hid (firstW S.k S.nw key start i) := hp
    clear hz hp
    go_enter Try.func25, Try.ntmps25
    go_wp2_with fail
    refine (asked_any S w.heap.size _ _ _ key _ ⟨HE.out.1.1, HE.out.2.2.1.mono (Nat.zero_le _)⟩).mono ?_
    rw [HA.out]
    rintro e w1 ⟨rfl, q1⟩
    have HE : Hid (CallEnv w B S (.slice a0 S.nc c0) (.slice a1 S.nl c1) (.slice a2 S.nw c2) (.int .i64 0) (.slice none 0 0) w1) := HE.out.later q1
    obtain ⟨⟨⟨p0, p1, p2⟩, _⟩, ⟨⟨r0, r1⟩, f0, f1⟩, _⟩ := HE.out
    clear q1
    go_wp2_with fail
    refine (l2Write_yes S w.heap.size _ _ _ key start i _ ⟨HE.out.1.1, HE.out.2.2.1.mono (Nat.zero_le _)⟩ HZ.out HN.out).mono ?_
    rintro e w2 ⟨rfl, q1⟩
    clear p0 p1 p2 r0 r1 f0 f1
    have HE : Hid (CallEnv w B S (.slice a0 S.nc c0) (.slice a1 S.nl c1) (.slice a2 S.nw c2) (.int .i64 0) (.slice none 0 0) w2) := HE.out.later q1
    clear q1
    go_wp2_with fail
    refine (l2One_yes S w.heap.size _ _ _ i _ ⟨HE.out.1.1, HE.out.2.2.1.mono (Nat.zero_le _)⟩ hi).mono ?_
    rintro e w4 ⟨ao, cp, rfl, ro, fo, q1⟩
    have HO : Hid (Row w4 (w.heap.size + 2) 4 1 (fun p => S.k (i * 4 + p)) (.slice ao 1 cp) ∧ Free w4 (1 * 4) (.slice ao 1 cp)) := ⟨ro.mono (by have := HE.out.2.1.lt; omega), fo⟩
    have HE : Hid (CallEnv w B S (.slice a0 S.nc c0) (.slice a1 S.nl c1) (.slice a2 S.nw c2) (.int .i64 0) (.slice none 0 0) w4) := HE.out.later q1
    have z9 := HE.out.2.1.lt
    obtain ⟨_, ⟨⟨r0, r1⟩, f0, f1⟩, _⟩ := HE.out
    clear q1 ro fo
    go_wp2
    refine bodyPost_ret (v := .agg #[.int .i64 0, .slice ao 1 cp]) (by simp [results, Try.results25, go_sem, r0, r1]) rfl ⟨ao, cp, rfl, ((HO.out.1.far (Or.inl (by simp)) _).far (Or.inl (by simp)) _).mono (by omega), (HO.out.2.far _ _).far _ _, (HE.out.2.2.2.setCell (Nat.le_succ _) _).setCell (Nat.le_succ _) _⟩
set_option maxRecDepth 100000 in
set_option maxHeartbeats 4000000 in
theorem specLastWrite_is (S : Sto) (v0 v1 v2 : Value) (key ts c : Int) (n : Nat) (F : Nat → Int) (B : Nat) (w : World) (h : St w B S v0 v1 v2) (hA : LastWriteAns S key ts c n F) :
    Calls Try.prog 20 #[.agg #[v0, v1, v2], .int .i64 key, .int .i64 ts] w (ResRow 4 w c n F) := by
  obtain ⟨a0, c0, a1, c1, a2, c2, rfl, rfl, rfl⟩ := h.form
  have HE : Hid (CallEnv w B S (.slice a0 S.nc c0) (.slice a1 S.nl c1) (.slice a2 S.nw c2) (.int .i64 0) (.slice none 0 0) ((w.alloc (.cells #[.slice a0 S.nc c0, .slice a1 S.nl c1, .slice a2 S.nw c2] 35)).alloc (.cells #[.int .i64 0, .slice none 0 0] 48))) := CallEnv.new h _ _ _ _
  clear h
  unfold ResRow
  rcases hA with ⟨hz, rfl, rfl⟩ | ⟨hz, hno, rfl, rfl⟩ | ⟨hz, i, hi, hp, rfl, rfl, rfl⟩
  · obtain ⟨f, hf⟩ : ∃ f, askF S key = f := ⟨_, rfl⟩
    have HF : Hid (askF S key = f) := hf
    have hfn : (f == 0) = false := beq_eq_false_iff_ne.2 (by rw [← hf]; exact hz)
    rw [hf]
    clear hz hf
    go_enter Try.func20, Try.ntmps20
    go_wp2_with fail
    refine (asked_any S w.heap.size _ _ _ key _ ⟨HE.out.1.1, HE.out.2.2.1.mono (Nat.zero_le _)⟩).mono ?_
    rw [HF.out]
    rintro e w1 ⟨rfl, q1⟩
    have HE : Hid (CallEnv w B S (.slice a0 S.nc c0) (.slice a1 S.nl c1) (.slice a2 S.nw c2) (.int .i64 0) (.slice none 0 0) w1) := HE.out.later q1
    obtain ⟨⟨⟨p0, p1, p2⟩, _⟩, ⟨⟨r0, r1⟩, f0, f1⟩, _⟩ := HE.out
    clear q1
    go_wp2
    refine bodyPost_ret (v := .agg #[.int .i64 f, .slice none 0 0]) (by simp [results, Try.results20, go_sem, r0, r1]) rfl ⟨none, 0, rfl, (row_none4 _ _ _).1, (row_none4 _ w.heap.size F).2, (HE.out.2.2.2.setCell (Nat.le_succ _) _).setCell (Nat.le_succ _) _⟩
  · have HZ : Hid (S.nw ≤ 200) := (storeF_zero (askF_zero hz).1).1.2.2
    have HA : Hid (askF S key = 0) := hz
    have HN : Hid (∀ i, ¬ lastW S.k S.nw key ts i) := hno
    clear hz hno
    go_enter Try.func20, Try.ntmps20
    go_wp2_with fail
    refine (asked_any S w.heap.size _ _ _ key _ ⟨HE.out.1.1, HE.out.2.2.1.mono (Nat.zero_le _)⟩).mono ?_
    rw [HA.out]
    rintro e w1 ⟨rfl, q1⟩
    have HE : Hid (CallEnv w B S (.slice a0 S.nc c0) (.slice a1 S.nl c1) (.slice a2 S.nw c2) (.int .i64 0) (.slice none 0 0) w1) := HE.out.later q1
    obtain ⟨⟨⟨p0, p1, p2⟩, _⟩, ⟨⟨r0, r1⟩, f0, f1⟩, _⟩ := HE.out
    clear q1
    go_wp2_with fail
    refine (l2Last_no S w.heap.size _ _ _ key ts _ ⟨HE.out.1.1, HE.out.2.2.1.mono (Nat.zero_le _)⟩ HZ.out HN.out).mono ?_
    rintro e w2 ⟨rfl, q1⟩
    clear p0 p1 p2 r0 r1 f0 f1
    have HE : Hid (CallEnv w B S (.slice a0 S.nc c0) (.slice a1 S.nl c1) (.slice a2 S.nw c2) (.int .i64 0) (.slice none 0 0) w2) := HE.out.later q1
    clear q1
    go_wp2_with fail
    refine (l2One_no F w.heap.size _).mono ?_
    rintro e w4 ⟨ao, cp, rfl, ro, fo, q1⟩
    have HO : Hid (Row w4 (w.heap.size + 2) 4 0 F (.slice ao 0 cp) ∧ Free w4 (0 * 4) (.slice ao 0 cp)) := ⟨ro.mono (by have := HE.out.2.1.lt; omega), fo⟩
    have HE : Hid (CallEnv w B S (.slice a0 S.nc c0) (.slice a1 S.nl c1) (.slice a2 S.nw c2) (.int .i64 0) (.slice none 0 0) w4) := HE.out.later q1
    have z9 := HE.out.2.1.lt
    obtain ⟨_, ⟨⟨r0, r1⟩, f0, f1⟩, _⟩ := HE.out
    clear q1 ro fo
    go_wp2
    refine bodyPost_ret (v := .agg #[.int .i64 4, .slice ao 0 cp]) (by simp [results, Try.results20, go_sem, r0, r1]) rfl ⟨ao, cp, rfl, ((HO.out.1.far (Or.inl (by simp)) _).far (Or.inl (by simp)) _).mono (by omega), (HO.out.2.far _ _).far _ _, (HE.out.2.2.2.setCell (Nat.le_succ _) _).setCell (Nat.le_succ _) _⟩
  · have HZ : Hid (S.nw ≤ 200) := (storeF_zero (askF_zero hz).1).1.2.2
    have HA : Hid (askF S key = 0) := hz
    have HN : Hid (lastW S.k S.nw key ts i) := hp
    clear hz hp
    go_enter Try.func20, Try.ntmps20
    go_wp2_with fail
    refine (asked_any S w.heap.size _ _ _ key _ ⟨HE.out.1.1, HE.out.2.2.1.mono (Nat.zero_le _)⟩).mono ?_
    rw [HA.out]
    rintro e w1 ⟨rfl, q1⟩
    have HE : Hid (CallEnv w B S (.slice a0 S.nc c0) (.slice a1 S.nl c1) (.slice a2 S.nw c2) (.int .i64 0) (.slice none 0 0) w1) := HE.out.later q1
    obtain ⟨⟨⟨p0, p1, p2⟩, _⟩, ⟨⟨r0, r1⟩, f0, f1⟩, _⟩ := HE.out
    clear q1
    go_wp2_with fail
    refine (l2Last_yes S w.heap.size _ _ _ key ts i _ ⟨HE.out.1.1, HE.out.2.2.1.mono (Nat.zero_le _)⟩ HZ.out HN.out).mono ?_
    rintro e w2 ⟨rfl, q1⟩
    clear p0 p1 p2 r0 r1 f0 f1
    have HE : Hid (CallEnv w B S (.slice a0 S.nc c0) (.slice a1 S.nl c1) (.slice a2 S.nw c2) (.int .i64 0) (.slice none 0 0) w2) := HE.out.later q1
    clear q1
    go_wp2_with fail
    refine (l2One_yes S w.heap.size _ _ _ i _ ⟨HE.out.1.1, HE.out.2.2.1.mono (Nat.zero_le _)⟩ hi).mono ?_
    rintro e w4 ⟨ao, cp, rfl, ro, fo, q1⟩
    have HO : Hid (Row w4 (w.heap.size + 2) 4 1 (fun p => S.k (i * 4 + p)) (.slice ao 1 cp) ∧ Free w4 (1 * 4) (.slice ao 1 cp)) := ⟨ro.mono (by have := HE.out.2.1.lt; omega), fo⟩
    have HE : Hid (CallEnv w B S (.slice a0 S.nc c0) (.slice a1 S.nl c1) (.slice a2 S.nw c2) (.int .i64 0) (.slice none 0 0) w4) := HE.out.later q1
    have z9 := HE.out.2.1.lt
    obtain ⟨_, ⟨⟨r0, r1⟩, f0, f1⟩, _⟩ := HE.out
    clear q1 ro fo
    go_wp2
    refine bodyPost_ret (v := .agg #[.int .i64 0, .slice ao 1 cp]) (by simp [results, Try.results20, go_sem, r0, r1]) rfl ⟨ao, cp, rfl, ((HO.out.1.far (Or.inl (by simp)) _).far (Or.inl (by simp)) _).mono (by omega), (HO.out.2.far _ _).far _ _, (HE.out.2.2.2.setCell (Nat.le_succ _) _).setCell (Nat.le_succ _) _⟩
end Go.Proofs.Ytjhloobjbbdmcah
