/-
  Own text. What CountWrites and OldestLock answer, the program's and the model's.
-/
import Derived.Test.YtjhloobjbbdmcajStorB
import Derived.Test.YtjhloobjbbdmcajStatD
import Derived.Test.YtjhloobjbbdmcajLawI
namespace Go.Proofs.Ytjhloobjbbdmcaj
open Go.RowKit

def CntAns (S : Sto) (key c v : Int) : Prop := (askF S key ≠ 0 ∧ c = askF S key ∧ v = 0) ∨ (askF S key = 0 ∧ c = 0 ∧ v = cntW S.k key S.nw)
theorem CntAns.get (S : Sto) (key : Int) : ∃ c v, CntAns S key c v := by
  by_cases h : askF S key = 0
  · exact ⟨_, _, Or.inr ⟨h, rfl, rfl⟩⟩
  · exact ⟨_, _, Or.inl ⟨h, rfl, rfl⟩⟩
set_option maxRecDepth 100000 in
set_option maxHeartbeats 4000000 in
theorem implCountWrites_is (S : Sto) (v0 v1 v2 : Value) (key c v : Int) (B : Nat) (w : World) (h : St w B S v0 v1 v2) (hA : CntAns S key c v) :
    Calls Try.prog 21 #[.agg #[v0, v1, v2], .int .i64 key] w (ResInt w c v) := by
  obtain ⟨a0, c0, a1, c1, a2, c2, rfl, rfl, rfl⟩ := h.form
  have HE : Hid (CallEnv w B S (.slice a0 S.nc c0) (.slice a1 S.nl c1) (.slice a2 S.nw c2) (.int .i64 0) (.int .i64 0) ((w.alloc (.cells #[.slice a0 S.nc c0, .slice a1 S.nl c1, .slice a2 S.nw c2] 33)).alloc (.cells #[.int .i64 0, .int .i64 0] 38))) := CallEnv.new h _ _ _ _
  clear h
  unfold ResInt
  rcases hA with ⟨hz, rfl, rfl⟩ | ⟨hz, rfl, rfl⟩
  · obtain ⟨f, hf⟩ : ∃ f, askF S key = f := ⟨_, rfl⟩
    rw [hf]
    have HF : Hid (askF S key = f) := hf
    have hfn : (f == 0) = false := beq_eq_false_iff_ne.2 (by rw [← hf]; exact hz)
    clear hz hf
    go_enter Try.func21, Try.ntmps21
    go_wp2_with fail
    refine (askFault_any S _ _ _ key B _ HE.out.2.2.1).mono ?_
    rw [HF.out]
    rintro e w1 ⟨rfl, q1⟩
    have HE : Hid (CallEnv w B S (.slice a0 S.nc c0) (.slice a1 S.nl c1) (.slice a2 S.nw c2) (.int .i64 0) (.int .i64 0) w1) := HE.out.later q1
    obtain ⟨⟨⟨p0, p1, p2⟩, _⟩, ⟨⟨r0, r1⟩, f0, f1⟩, _⟩ := HE.out
    clear q1
    go_wp2
    exact bodyPost_ret (v := .agg #[.int .i64 f, .int .i64 0]) (by simp [results, Try.results21, go_sem, r0, r1]) rfl ⟨rfl, (HE.out.2.2.2.setCell (Nat.le_succ _) _).setCell (Nat.le_succ _) _⟩
  · have Z := storeF_zero (askF_zero hz).1
    have HZ : Hid (scan (cellF S.c) S.nc = 0 ∧ (S.nc ≤ 200 ∧ S.nl ≤ 200 ∧ S.nw ≤ 200)) := ⟨Z.2.1, Z.1⟩
    have HA : Hid (askF S key = 0) := hz
    clear Z hz
    go_enter Try.func21, Try.ntmps21
    go_wp2_with fail
    refine (askFault_any S _ _ _ key B _ HE.out.2.2.1).mono ?_
    rw [HA.out]
    rintro e w1 ⟨rfl, q1⟩
    have HE : Hid (CallEnv w B S (.slice a0 S.nc c0) (.slice a1 S.nl c1) (.slice a2 S.nw c2) (.int .i64 0) (.int .i64 0) w1) := HE.out.later q1
    obtain ⟨⟨⟨p0, p1, p2⟩, _⟩, ⟨⟨r0, r1⟩, f0, f1⟩, _⟩ := HE.out
    clear q1
    go_wp2_with fail
    refine (columnsOf_any S B _ _ _ _ HE.out.2.2.1 HZ.out.2.1 HZ.out.2.2.1 HZ.out.2.2.2 HZ.out.1).mono ?_
    rintro e w2 ⟨b, g, u1, u2, rfl, hC, q1⟩
    clear p0 p1 p2 r0 r1 f0 f1
    have HC : Hid (Cols w2 w1.heap.size b S.nc (cellM S S.nc) S.nl S.l S.nw S.k g u1 u2) := hC
    have HE : Hid (CallEnv w B S (.slice a0 S.nc c0) (.slice a1 S.nl c1) (.slice a2 S.nw c2) (.int .i64 0) (.int .i64 0) w2) := HE.out.later q1
    clear q1 hC
    go_wp2_with fail
    refine (countWrites_is _ b _ _ _ _ _ _ g u1 u2 key _ HC.out HZ.out.2.2.2).mono ?_
    rintro e w3 ⟨rfl, q1⟩
    have HE : Hid (CallEnv w B S (.slice a0 S.nc c0) (.slice a1 S.nl c1) (.slice a2 S.nw c2) (.int .i64 0) (.int .i64 0) w3) := HE.out.later q1
    obtain ⟨⟨⟨p0, p1, p2⟩, _⟩, ⟨⟨r0, r1⟩, f0, f1⟩, _⟩ := HE.out
    clear q1
    go_wp2
    exact bodyPost_ret (v := .agg #[.int .i64 0, .int .i64 (cntW S.k key S.nw)]) (by simp [results, Try.results21, go_sem, r0, r1]) rfl ⟨rfl, (HE.out.2.2.2.setCell (Nat.le_succ _) _).setCell (Nat.le_succ _) _⟩
set_option maxRecDepth 100000 in
set_option maxHeartbeats 4000000 in
theorem specCountWrites_is (S : Sto) (v0 v1 v2 : Value) (key c v : Int) (B : Nat) (w : World) (h : St w B S v0 v1 v2) (hA : CntAns S key c v) :
    Calls Try.prog 20 #[.agg #[v0, v1, v2], .int .i64 key] w (ResInt w c v) := by
  obtain ⟨a0, c0, a1, c1, a2, c2, rfl, rfl, rfl⟩ := h.form
  have HE : Hid (CallEnv w B S (.slice a0 S.nc c0) (.slice a1 S.nl c1) (.slice a2 S.nw c2) (.int .i64 0) (.int .i64 0) ((w.alloc (.cells #[.slice a0 S.nc c0, .slice a1 S.nl c1, .slice a2 S.nw c2] 33)).alloc (.cells #[.int .i64 0, .int .i64 0] 38))) := CallEnv.new h _ _ _ _
  clear h
  unfold ResInt
  rcases hA with ⟨hz, rfl, rfl⟩ | ⟨hz, rfl, rfl⟩
  · obtain ⟨f, hf⟩ : ∃ f, askF S key = f := ⟨_, rfl⟩
    rw [hf]
    have HF : Hid (askF S key = f) := hf
    have hfn : (f == 0) = false := beq_eq_false_iff_ne.2 (by rw [← hf]; exact hz)
    clear hz hf
    go_enter Try.func20, Try.ntmps20
    go_wp2_with fail
    refine (asked_any S w.heap.size _ _ _ key _ ⟨HE.out.1.1, HE.out.2.2.1.mono (Nat.zero_le _)⟩).mono ?_
    rw [HF.out]
    rintro e w1 ⟨rfl, q1⟩
    have HE : Hid (CallEnv w B S (.slice a0 S.nc c0) (.slice a1 S.nl c1) (.slice a2 S.nw c2) (.int .i64 0) (.int .i64 0) w1) := HE.out.later q1
    obtain ⟨⟨⟨p0, p1, p2⟩, _⟩, ⟨⟨r0, r1⟩, f0, f1⟩, _⟩ := HE.out
    clear q1
    go_wp2
    exact bodyPost_ret (v := .agg #[.int .i64 f, .int .i64 0]) (by simp [results, Try.results20, go_sem, r0, r1]) rfl ⟨rfl, (HE.out.2.2.2.setCell (Nat.le_succ _) _).setCell (Nat.le_succ _) _⟩
  · have Z := storeF_zero (askF_zero hz).1
    have HZ : Hid (scan (cellF S.c) S.nc = 0 ∧ (S.nc ≤ 200 ∧ S.nl ≤ 200 ∧ S.nw ≤ 200)) := ⟨Z.2.1, Z.1⟩
    have HA : Hid (askF S key = 0) := hz
    clear Z hz
    go_enter Try.func20, Try.ntmps20
    go_wp2_with fail
    refine (asked_any S w.heap.size _ _ _ key _ ⟨HE.out.1.1, HE.out.2.2.1.mono (Nat.zero_le _)⟩).mono ?_
    rw [HA.out]
    rintro e w1 ⟨rfl, q1⟩
    have HE : Hid (CallEnv w B S (.slice a0 S.nc c0) (.slice a1 S.nl c1) (.slice a2 S.nw c2) (.int .i64 0) (.int .i64 0) w1) := HE.out.later q1
    obtain ⟨⟨⟨p0, p1, p2⟩, _⟩, ⟨⟨r0, r1⟩, f0, f1⟩, _⟩ := HE.out
    clear q1
    have hn := HZ.out.2.2.2
    go_wp2
    go_loopw [6, 7] (fun n i wr => ∃ q : Nat, q ≤ S.nw ∧ i = .int .i64 q ∧ n = .int .i64 (cntW S.k key q) ∧ Hid (wr = w1)) (fun _ i _ => S.nw - (intOf i).toNat)
    case atStart => exact ⟨0, Nat.zero_le _, rfl, rfl, rfl⟩
    case round =>
      obtain ⟨q, hq, rfl, rfl, HW⟩ := hrel
      obtain rfl := HW.out
      by_cases hlt : q < S.nw
      case neg =>
        obtain rfl : q = S.nw := by omega
        go_wp2
        exact bodyPost_ret (v := .agg #[.int .i64 0, .int .i64 (cntW S.k key S.nw)]) (by simp [results, Try.results20, go_sem, r0, r1]) rfl ⟨rfl, (HE.out.2.2.2.setCell (Nat.le_succ _) _).setCell (Nat.le_succ _) _⟩
      obtain ⟨g', o, rfl, _, hg, x0, x1, x2, x3⟩ := HE.out.2.2.1.2.2.at4 hlt
      obtain ⟨n0, N0⟩ : ∃ x, S.k (q * 4) = x := ⟨_, rfl⟩
      rw [N0] at x0
      have hle := cntW_le S.k key q
      by_cases h0 : n0 = key
      · have EH : Hid (cntW S.k key (q + 1) = cntW S.k key q + 1) := cntW_yes (N0.trans h0)
        obtain ⟨cc, hcc⟩ : ∃ cc, cntW S.k key q = cc := ⟨_, rfl⟩
        rw [hcc] at EH hle
        rw [hcc]
        have ew : IntKind.i64.wrap ((cc : Int) + 1) = (cc : Int) + 1 := by
          simp [IntKind.wrap, IntKind.bits, IntKind.signed]
          omega
        clear N0 hcc
        subst h0
        go_wp2
        go_roundw
        case rel => exact ⟨q + 1, by omega, by go_num, by rw [EH.out]; rfl, trivial⟩
        case measure => simp [intOf]; omega
      · have E : Hid (cntW S.k key (q + 1) = cntW S.k key q) := cntW_no (fun e => h0 (N0.symm.trans e))
        have d0 : (n0 == key) = false := beq_eq_false_iff_ne.2 h0
        clear N0 h0
        go_wp2
        go_roundw
        case rel => exact ⟨q + 1, by omega, by go_num, by rw [E.out], trivial⟩
        case measure => simp [intOf]; omega
theorem countWrites_ans (S : Sto) (key : Int) : ∃ c v, (∀ y0 y1 y2 x, St x 0 S y0 y1 y2 → Calls Try.prog 20 #[.agg #[y0, y1, y2], .int .i64 key] x (ResInt x c v)) ∧
      (∀ y0 y1 y2 x, St x 0 S y0 y1 y2 → Calls Try.prog 21 #[.agg #[y0, y1, y2], .int .i64 key] x (ResInt x c v)) := by
  obtain ⟨c, v, hA⟩ := CntAns.get S key
  exact ⟨c, v, fun y0 y1 y2 x hx => specCountWrites_is S y0 y1 y2 key c v 0 x hx hA, fun y0 y1 y2 x hx => implCountWrites_is S y0 y1 y2 key c v 0 x hx hA⟩
def OldAns (S : Sto) (c v : Int) : Prop := (storeF S ≠ 0 ∧ c = storeF S ∧ v = 0) ∨ (storeF S = 0 ∧ ((S.nl = 0 ∧ c = 4 ∧ v = 0) ∨ (0 < S.nl ∧ c = 0 ∧ v = lowL S.l S.nl)))
theorem OldAns.get (S : Sto) : ∃ c v, OldAns S c v := by
  by_cases h : storeF S = 0
  · rcases Nat.eq_zero_or_pos S.nl with e | e
    · exact ⟨_, _, Or.inr ⟨h, Or.inl ⟨e, rfl, rfl⟩⟩⟩
    · exact ⟨_, _, Or.inr ⟨h, Or.inr ⟨e, rfl, rfl⟩⟩⟩
  · exact ⟨_, _, Or.inl ⟨h, rfl, rfl⟩⟩
set_option maxRecDepth 100000 in
set_option maxHeartbeats 4000000 in
theorem implOldestLock_is (S : Sto) (v0 v1 v2 : Value) (c v : Int) (B : Nat) (w : World) (h : St w B S v0 v1 v2) (hA : OldAns S c v) :
    Calls Try.prog 19 #[.agg #[v0, v1, v2]] w (ResInt w c v) := by
  obtain ⟨a0, c0, a1, c1, a2, c2, rfl, rfl, rfl⟩ := h.form
  have HE : Hid (CallEnv w B S (.slice a0 S.nc c0) (.slice a1 S.nl c1) (.slice a2 S.nw c2) (.int .i64 0) (.int .i64 0) ((w.alloc (.cells #[.slice a0 S.nc c0, .slice a1 S.nl c1, .slice a2 S.nw c2] 33)).alloc (.cells #[.int .i64 0, .int .i64 0] 38))) := CallEnv.new h _ _ _ _
  clear h
  unfold ResInt
  rcases hA with ⟨hz, rfl, rfl⟩ | ⟨hz, ⟨h0, rfl, rfl⟩ | ⟨h0, rfl, rfl⟩⟩
  · obtain ⟨f, hf⟩ : ∃ f, storeF S = f := ⟨_, rfl⟩
    rw [hf]
    have HF : Hid (storeF S = f) := hf
    have hfn : (f == 0) = false := beq_eq_false_iff_ne.2 (by rw [← hf]; exact hz)
    clear hz hf
    go_enter Try.func19, Try.ntmps19
    go_wp2_with fail
    refine (implFault_any S _ _ _ B _ HE.out.2.2.1).mono ?_
    rw [HF.out]
    rintro e w1 ⟨rfl, q1⟩
    have HE : Hid (CallEnv w B S (.slice a0 S.nc c0) (.slice a1 S.nl c1) (.slice a2 S.nw c2) (.int .i64 0) (.int .i64 0) w1) := HE.out.later q1
    obtain ⟨⟨⟨p0, p1, p2⟩, _⟩, ⟨⟨r0, r1⟩, f0, f1⟩, _⟩ := HE.out
    clear q1
    go_wp2
    exact bodyPost_ret (v := .agg #[.int .i64 f, .int .i64 0]) (by simp [results, Try.results19, go_sem, r0, r1]) rfl ⟨rfl, (HE.out.2.2.2.setCell (Nat.le_succ _) _).setCell (Nat.le_succ _) _⟩
  · have Z := storeF_zero hz
    have HZ : Hid (scan (cellF S.c) S.nc = 0 ∧ (S.nc ≤ 200 ∧ S.nl ≤ 200 ∧ S.nw ≤ 200)) := ⟨Z.2.1, Z.1⟩
    have HA : Hid (storeF S = 0) := hz
    clear Z hz
    have HO : Hid (decide (0 < S.nl) = false) := decide_eq_false (by omega)
    clear h0
    go_enter Try.func19, Try.ntmps19
    go_wp2_with fail
    refine (implFault_any S _ _ _ B _ HE.out.2.2.1).mono ?_
    rw [HA.out]
    rintro e w1 ⟨rfl, q1⟩
    have HE : Hid (CallEnv w B S (.slice a0 S.nc c0) (.slice a1 S.nl c1) (.slice a2 S.nw c2) (.int .i64 0) (.int .i64 0) w1) := HE.out.later q1
    obtain ⟨⟨⟨p0, p1, p2⟩, _⟩, ⟨⟨r0, r1⟩, f0, f1⟩, _⟩ := HE.out
    clear q1
    go_wp2_with fail
    refine (columnsOf_any S B _ _ _ _ HE.out.2.2.1 HZ.out.2.1 HZ.out.2.2.1 HZ.out.2.2.2 HZ.out.1).mono ?_
    rintro e w2 ⟨b, g, u1, u2, rfl, hC, q1⟩
    clear p0 p1 p2 r0 r1 f0 f1
    have HC : Hid (Cols w2 w1.heap.size b S.nc (cellM S S.nc) S.nl S.l S.nw S.k g u1 u2) := hC
    have HE : Hid (CallEnv w B S (.slice a0 S.nc c0) (.slice a1 S.nl c1) (.slice a2 S.nw c2) (.int .i64 0) (.int .i64 0) w2) := HE.out.later q1
    clear q1 hC
    go_wp2_with fail
    refine (oldestStart_is _ b _ _ _ _ _ _ g u1 u2 _ HC.out HZ.out.2.2.1).mono ?_
    rw [HO.out]
    rintro e w3 ⟨rfl, q1⟩
    have HE : Hid (CallEnv w B S (.slice a0 S.nc c0) (.slice a1 S.nl c1) (.slice a2 S.nw c2) (.int .i64 0) (.int .i64 0) w3) := HE.out.later q1
    obtain ⟨⟨⟨p0, p1, p2⟩, _⟩, ⟨⟨r0, r1⟩, f0, f1⟩, _⟩ := HE.out
    clear q1
    go_wp2
    exact bodyPost_ret (v := .agg #[.int .i64 4, .int .i64 0]) (by simp [results, Try.results19, go_sem, r0, r1]) rfl ⟨rfl, (HE.out.2.2.2.setCell (Nat.le_succ _) _).setCell (Nat.le_succ _) _⟩
  · have Z := storeF_zero hz
    have HZ : Hid (scan (cellF S.c) S.nc = 0 ∧ (S.nc ≤ 200 ∧ S.nl ≤ 200 ∧ S.nw ≤ 200)) := ⟨Z.2.1, Z.1⟩
    have HA : Hid (storeF S = 0) := hz
    clear Z hz
    have HO : Hid (decide (0 < S.nl) = true) := decide_eq_true h0
    clear h0
    go_enter Try.func19, Try.ntmps19
    go_wp2_with fail
    refine (implFault_any S _ _ _ B _ HE.out.2.2.1).mono ?_
    rw [HA.out]
    rintro e w1 ⟨rfl, q1⟩
    have HE : Hid (CallEnv w B S (.slice a0 S.nc c0) (.slice a1 S.nl c1) (.slice a2 S.nw c2) (.int .i64 0) (.int .i64 0) w1) := HE.out.later q1
    obtain ⟨⟨⟨p0, p1, p2⟩, _⟩, ⟨⟨r0, r1⟩, f0, f1⟩, _⟩ := HE.out
    clear q1
    go_wp2_with fail
    refine (columnsOf_any S B _ _ _ _ HE.out.2.2.1 HZ.out.2.1 HZ.out.2.2.1 HZ.out.2.2.2 HZ.out.1).mono ?_
    rintro e w2 ⟨b, g, u1, u2, rfl, hC, q1⟩
    clear p0 p1 p2 r0 r1 f0 f1
    have HC : Hid (Cols w2 w1.heap.size b S.nc (cellM S S.nc) S.nl S.l S.nw S.k g u1 u2) := hC
    have HE : Hid (CallEnv w B S (.slice a0 S.nc c0) (.slice a1 S.nl c1) (.slice a2 S.nw c2) (.int .i64 0) (.int .i64 0) w2) := HE.out.later q1
    clear q1 hC
    go_wp2_with fail
    refine (oldestStart_is _ b _ _ _ _ _ _ g u1 u2 _ HC.out HZ.out.2.2.1).mono ?_
    rw [HO.out]
    rintro e w3 ⟨rfl, q1⟩
    have HE : Hid (CallEnv w B S (.slice a0 S.nc c0) (.slice a1 S.nl c1) (.slice a2 S.nw c2) (.int .i64 0) (.int .i64 0) w3) := HE.out.later q1
    obtain ⟨⟨⟨p0, p1, p2⟩, _⟩, ⟨⟨r0, r1⟩, f0, f1⟩, _⟩ := HE.out
    clear q1
    go_wp2
    exact bodyPost_ret (v := .agg #[.int .i64 0, .int .i64 (lowL S.l S.nl)]) (by simp [results, Try.results19, go_sem, r0, r1]) rfl ⟨rfl, (HE.out.2.2.2.setCell (Nat.le_succ _) _).setCell (Nat.le_succ _) _⟩
theorem min_is (a b r : Int) (hr : (if b < a then b else a) = r) (w : World) :
    Calls Try.prog 41 #[.int .i64 a, .int .i64 b] w fun e w' => e = .returned (.int .i64 r) ∧ w' = w := by
  by_cases h : a < b
  · obtain rfl : a = r := by rw [← hr, if_neg (by omega)]
    clear hr
    go_enter Try.func41, Try.ntmps41
    go_wp2
    go_ret
    exact ⟨rfl, rfl⟩
  · obtain rfl : b = r := by
      rw [← hr]
      by_cases e : b < a
      · rw [if_pos e]
      · rw [if_neg e]; omega
    have d : decide (a < b) = false := decide_eq_false h
    clear hr h
    go_enter Try.func41, Try.ntmps41
    go_wp2
    go_ret
    exact ⟨rfl, rfl⟩
set_option maxRecDepth 100000 in
set_option maxHeartbeats 4000000 in
theorem specOldestLock_is (S : Sto) (v0 v1 v2 : Value) (c v : Int) (B : Nat) (w : World) (h : St w B S v0 v1 v2) (hA : OldAns S c v) :
    Calls Try.prog 18 #[.agg #[v0, v1, v2]] w (ResInt w c v) := by
  obtain ⟨a0, c0, a1, c1, a2, c2, rfl, rfl, rfl⟩ := h.form
  have HE : Hid (CallEnv w B S (.slice a0 S.nc c0) (.slice a1 S.nl c1) (.slice a2 S.nw c2) (.int .i64 0) (.int .i64 0) ((w.alloc (.cells #[.slice a0 S.nc c0, .slice a1 S.nl c1, .slice a2 S.nw c2] 33)).alloc (.cells #[.int .i64 0, .int .i64 0] 38))) := CallEnv.new h _ _ _ _
  clear h
  unfold ResInt
  rcases hA with ⟨hz, rfl, rfl⟩ | ⟨hz, ⟨h0, rfl, rfl⟩ | ⟨h0, rfl, rfl⟩⟩
  · obtain ⟨f, hf⟩ : ∃ f, storeF S = f := ⟨_, rfl⟩
    rw [hf]
    have HF : Hid (storeF S = f) := hf
    have hfn : (f == 0) = false := beq_eq_false_iff_ne.2 (by rw [← hf]; exact hz)
    clear hz hf
    go_enter Try.func18, Try.ntmps18
    go_wp2_with fail
    refine (l2Fault_any S w.heap.size _ _ _ _ ⟨HE.out.1.1, HE.out.2.2.1.mono (Nat.zero_le _)⟩).mono ?_
    rw [HF.out]
    rintro e w1 ⟨rfl, q1⟩
    have HE : Hid (CallEnv w B S (.slice a0 S.nc c0) (.slice a1 S.nl c1) (.slice a2 S.nw c2) (.int .i64 0) (.int .i64 0) w1) := HE.out.later q1
    obtain ⟨⟨⟨p0, p1, p2⟩, _⟩, ⟨⟨r0, r1⟩, f0, f1⟩, _⟩ := HE.out
    clear q1
    go_wp2
    exact bodyPost_ret (v := .agg #[.int .i64 f, .int .i64 0]) (by simp [results, Try.results18, go_sem, r0, r1]) rfl ⟨rfl, (HE.out.2.2.2.setCell (Nat.le_succ _) _).setCell (Nat.le_succ _) _⟩
  · have Z := storeF_zero hz
    have HZ : Hid (scan (cellF S.c) S.nc = 0 ∧ (S.nc ≤ 200 ∧ S.nl ≤ 200 ∧ S.nw ≤ 200)) := ⟨Z.2.1, Z.1⟩
    have HA : Hid (storeF S = 0) := hz
    clear Z hz
    have d0 : ((S.nl : Int) == 0) = true := by rw [h0]; rfl
    clear h0
    go_enter Try.func18, Try.ntmps18
    go_wp2_with fail
    refine (l2Fault_any S w.heap.size _ _ _ _ ⟨HE.out.1.1, HE.out.2.2.1.mono (Nat.zero_le _)⟩).mono ?_
    rw [HA.out]
    rintro e w1 ⟨rfl, q1⟩
    have HE : Hid (CallEnv w B S (.slice a0 S.nc c0) (.slice a1 S.nl c1) (.slice a2 S.nw c2) (.int .i64 0) (.int .i64 0) w1) := HE.out.later q1
    obtain ⟨⟨⟨p0, p1, p2⟩, _⟩, ⟨⟨r0, r1⟩, f0, f1⟩, _⟩ := HE.out
    clear q1
    go_wp2
    exact bodyPost_ret (v := .agg #[.int .i64 4, .int .i64 0]) (by simp [results, Try.results18, go_sem, r0, r1]) rfl ⟨rfl, (HE.out.2.2.2.setCell (Nat.le_succ _) _).setCell (Nat.le_succ _) _⟩
  · have Z := storeF_zero hz
    have HZ : Hid (scan (cellF S.c) S.nc = 0 ∧ (S.nc ≤ 200 ∧ S.nl ≤ 200 ∧ S.nw ≤ 200)) := ⟨Z.2.1, Z.1⟩
    have HA : Hid (storeF S = 0) := hz
    clear Z hz
    have d0 : ((S.nl : Int) == 0) = false := beq_eq_false_iff_ne.2 (by omega)
    have hn := HZ.out.2.2.1
    go_enter Try.func18, Try.ntmps18
    go_wp2_with fail
    refine (l2Fault_any S w.heap.size _ _ _ _ ⟨HE.out.1.1, HE.out.2.2.1.mono (Nat.zero_le _)⟩).mono ?_
    rw [HA.out]
    rintro e w1 ⟨rfl, q1⟩
    have HE : Hid (CallEnv w B S (.slice a0 S.nc c0) (.slice a1 S.nl c1) (.slice a2 S.nw c2) (.int .i64 0) (.int .i64 0) w1) := HE.out.later q1
    obtain ⟨⟨⟨p0, p1, p2⟩, _⟩, ⟨⟨r0, r1⟩, f0, f1⟩, _⟩ := HE.out
    clear q1
    obtain ⟨g0, o0, ha0, _, hg0, _, z1, _⟩ := HE.out.2.2.1.2.1.at5 h0
    subst ha0
    have hi0 : (0 : Int) < (S.nl : Int) := by omega
    simp only [Nat.zero_mul, Nat.add_zero, Nat.zero_add] at z1
    go_wp2
    go_loopw [4, 5] (fun n i wr => ∃ q : Nat, 1 ≤ q ∧ q ≤ S.nl ∧ i = .int .i64 q ∧ n = .int .i64 (lowL S.l q) ∧ Hid (wr = w1)) (fun _ i _ => S.nl - (intOf i).toNat)
    case atStart => exact ⟨1, Nat.le_refl _, h0, rfl, rfl, rfl⟩
    case round =>
      obtain ⟨q, hq0, hq, rfl, rfl, HW⟩ := hrel
      obtain rfl := HW.out
      clear z1
      by_cases hlt : q < S.nl
      case neg =>
        obtain rfl : q = S.nl := by omega
        go_wp2
        exact bodyPost_ret (v := .agg #[.int .i64 0, .int .i64 (lowL S.l S.nl)]) (by simp [results, Try.results18, go_sem, r0, r1]) rfl ⟨rfl, (HE.out.2.2.2.setCell (Nat.le_succ _) _).setCell (Nat.le_succ _) _⟩
      obtain ⟨g', o, hgo, _, hg, x0, x1, x2, x3, x4⟩ := HE.out.2.2.1.2.1.at5 hlt
      simp at hgo
      obtain ⟨rfl, rfl⟩ := hgo
      obtain ⟨n1, N1⟩ : ∃ x, S.l (q * 5 + 1) = x := ⟨_, rfl⟩
      rw [N1] at x1
      obtain ⟨y, hy⟩ : ∃ y, lowL S.l q = y := ⟨_, rfl⟩
      have E : Hid ((if n1 < y then n1 else y) = lowL S.l (q + 1)) := by
        unfold Hid
        match q, hq0, N1, hy with
        | p + 1, _, N1, hy => rw [lowL, N1, hy]
      rw [hy]
      clear N1 hy
      go_wp2_with fail
      refine (min_is y n1 _ E.out _).mono ?_
      rintro e w2 ⟨rfl, rfl⟩
      go_wp2
      go_roundw
      case rel => exact ⟨q + 1, by omega, by omega, by go_num, rfl, trivial⟩
      case measure => simp [intOf]; omega
theorem oldestLock_ans (S : Sto) : ∃ c v, (∀ y0 y1 y2 x, St x 0 S y0 y1 y2 → Calls Try.prog 18 #[.agg #[y0, y1, y2]] x (ResInt x c v)) ∧
      (∀ y0 y1 y2 x, St x 0 S y0 y1 y2 → Calls Try.prog 19 #[.agg #[y0, y1, y2]] x (ResInt x c v)) := by
  obtain ⟨c, v, hA⟩ := OldAns.get S
  exact ⟨c, v, fun y0 y1 y2 x hx => specOldestLock_is S y0 y1 y2 c v 0 x hx hA, fun y0 y1 y2 x hx => implOldestLock_is S y0 y1 y2 c v 0 x hx hA⟩
end Go.Proofs.Ytjhloobjbbdmcaj
