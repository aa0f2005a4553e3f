/-
  Own text. What StatusOf and CommitOf answer, the program's and the model's.
-/
import Derived.Test.YtjhloobjbbdmcajStatA
import Derived.Test.YtjhloobjbbdmcajLawI
namespace Go.Proofs.Ytjhloobjbbdmcaj
open Go.RowKit

def StatAns (S : Sto) (key start c v : Int) : Prop := (askF S key ≠ 0 ∧ c = askF S key ∧ v = 0) ∨ (askF S key = 0 ∧ c = 0 ∧ StatIs S.nl S.l S.nw S.k key start v)
theorem StatAns.get (S : Sto) (key start : Int) : ∃ c v, StatAns S key start c v := by
  by_cases h : askF S key = 0
  · obtain ⟨r, hr⟩ := StatIs.get S.nl S.l S.nw S.k key start
    exact ⟨0, r, Or.inr ⟨h, rfl, hr⟩⟩
  · exact ⟨_, _, Or.inl ⟨h, rfl, rfl⟩⟩
def CommAns (S : Sto) (key start c v : Int) : Prop := (askF S key ≠ 0 ∧ c = askF S key ∧ v = 0) ∨ (askF S key = 0 ∧ ((∃ i, doneW S.k S.nw key start i ∧ c = 0 ∧ v = S.k (i * 4 + 1)) ∨ ((∀ i, ¬ doneW S.k S.nw key start i) ∧ c = 4 ∧ v = 0)))
theorem CommAns.get (S : Sto) (key start : Int) : ∃ c v, CommAns S key start c v := by
  by_cases h : askF S key = 0
  · rcases firstW_or S.k S.nw key start with hno | ⟨i, hi⟩
    · exact ⟨4, 0, Or.inr ⟨h, Or.inr ⟨fun i hi => hno i hi.1, rfl, rfl⟩⟩⟩
    · by_cases e : S.k (i * 4 + 3) = 4
      · exact ⟨4, 0, Or.inr ⟨h, Or.inr ⟨fun j hj => by obtain rfl := firstW.one hj.1 hi; exact hj.2 e, rfl, rfl⟩⟩⟩
      · exact ⟨0, _, Or.inr ⟨h, Or.inl ⟨i, ⟨hi, e⟩, rfl, rfl⟩⟩⟩
  · exact ⟨_, _, Or.inl ⟨h, rfl, rfl⟩⟩
theorem StatIs.two {S : Sto} {key start r : Int} (h : StatIs S.nl S.l S.nw S.k key start r) : r = 2 ↔ ∃ i, doneW S.k S.nw key start i := by
  rcases h with ⟨i, hi, ⟨h3, rfl⟩ | ⟨h3, rfl⟩⟩ | ⟨hno, h⟩
  · exact ⟨fun q => absurd q (by decide), fun ⟨j, hj⟩ => by obtain rfl := firstW.one hj.1 hi; exact absurd h3 hj.2⟩
  · exact ⟨fun _ => ⟨i, hi, h3⟩, fun _ => rfl⟩
  · refine ⟨fun q => ?_, fun ⟨j, hj⟩ => absurd hj.1 (hno j)⟩
    subst q
    rcases h with ⟨_, _, ⟨_, e⟩ | ⟨_, e⟩⟩ | ⟨_, e⟩ <;> exact absurd e (by decide)
set_option maxRecDepth 100000 in
set_option maxHeartbeats 4000000 in
theorem implStatusOf_is (S : Sto) (v0 v1 v2 : Value) (key start c v : Int) (B : Nat) (w : World) (h : St w B S v0 v1 v2) (hA : StatAns S key start c v) :
    Calls Try.prog 14 #[.agg #[v0, v1, v2], .int .i64 key, .int .i64 start] w (ResInt w c v) := by
  obtain ⟨a0, c0, a1, c1, a2, c2, rfl, rfl, rfl⟩ := h.form
  have HE : Hid (CallEnv w B S (.slice a0 S.nc c0) (.slice a1 S.nl c1) (.slice a2 S.nw c2) (.int .i64 0) (.int .i64 0) ((w.alloc (.cells #[.slice a0 S.nc c0, .slice a1 S.nl c1, .slice a2 S.nw c2] 33)).alloc (.cells #[.int .i64 0, .int .i64 0] 38))) := CallEnv.new h _ _ _ _
  clear h
  unfold ResInt
  rcases hA with ⟨hz, rfl, rfl⟩ | ⟨hz, rfl, hr⟩
  · obtain ⟨f, hf⟩ : ∃ f, askF S key = f := ⟨_, rfl⟩
    rw [hf]
    have HF : Hid (askF S key = f) := hf
    have hfn : (f == 0) = false := beq_eq_false_iff_ne.2 (by rw [← hf]; exact hz)
    clear hz hf
    go_enter Try.func14, Try.ntmps14
    go_wp2_with fail
    refine (askFault_any S _ _ _ key B _ HE.out.2.2.1).mono ?_
    rw [HF.out]
    rintro e w1 ⟨rfl, q1⟩
    have HE : Hid (CallEnv w B S (.slice a0 S.nc c0) (.slice a1 S.nl c1) (.slice a2 S.nw c2) (.int .i64 0) (.int .i64 0) w1) := HE.out.later q1
    obtain ⟨⟨⟨p0, p1, p2⟩, _⟩, ⟨⟨r0, r1⟩, f0, f1⟩, _⟩ := HE.out
    clear q1
    go_wp2
    exact bodyPost_ret (v := .agg #[.int .i64 f, .int .i64 0]) (by simp [results, Try.results14, go_sem, r0, r1]) rfl ⟨rfl, (HE.out.2.2.2.setCell (Nat.le_succ _) _).setCell (Nat.le_succ _) _⟩
  · have Z := storeF_zero (askF_zero hz).1
    have HZ : Hid (scan (cellF S.c) S.nc = 0 ∧ (S.nc ≤ 200 ∧ S.nl ≤ 200 ∧ S.nw ≤ 200)) := ⟨Z.2.1, Z.1⟩
    have HA : Hid (askF S key = 0) := hz
    clear Z hz
    have HR : Hid (StatIs S.nl S.l S.nw S.k key start v) := hr
    clear hr
    go_enter Try.func14, Try.ntmps14
    go_wp2_with fail
    refine (askFault_any S _ _ _ key B _ HE.out.2.2.1).mono ?_
    rw [HA.out]
    rintro e w1 ⟨rfl, q1⟩
    have HE : Hid (CallEnv w B S (.slice a0 S.nc c0) (.slice a1 S.nl c1) (.slice a2 S.nw c2) (.int .i64 0) (.int .i64 0) w1) := HE.out.later q1
    obtain ⟨⟨⟨p0, p1, p2⟩, _⟩, ⟨⟨r0, r1⟩, f0, f1⟩, _⟩ := HE.out
    clear q1
    go_wp2_with fail
    refine (columnsOf_any S B _ _ _ _ HE.out.2.2.1 HZ.out.2.1 HZ.out.2.2.1 HZ.out.2.2.2 HZ.out.1).mono ?_
    rintro e w2 ⟨b, g, u1, u2, rfl, hC, q1⟩
    clear p0 p1 p2 r0 r1 f0 f1
    have HC : Hid (Cols w2 w1.heap.size b S.nc (cellM S S.nc) S.nl S.l S.nw S.k g u1 u2) := hC
    have HE : Hid (CallEnv w B S (.slice a0 S.nc c0) (.slice a1 S.nl c1) (.slice a2 S.nw c2) (.int .i64 0) (.int .i64 0) w2) := HE.out.later q1
    clear q1 hC
    go_wp2_with fail
    refine (status_is _ b _ _ _ _ _ _ g u1 u2 key start v _ HC.out HZ.out.2.2.1 HZ.out.2.2.2 HR.out).mono ?_
    rintro e w3 ⟨rfl, q1⟩
    have HE : Hid (CallEnv w B S (.slice a0 S.nc c0) (.slice a1 S.nl c1) (.slice a2 S.nw c2) (.int .i64 0) (.int .i64 0) w3) := HE.out.later q1
    obtain ⟨⟨⟨p0, p1, p2⟩, _⟩, ⟨⟨r0, r1⟩, f0, f1⟩, _⟩ := HE.out
    clear q1
    go_wp2
    exact bodyPost_ret (v := .agg #[.int .i64 0, .int .i64 v]) (by simp [results, Try.results14, go_sem, r0, r1]) rfl ⟨rfl, (HE.out.2.2.2.setCell (Nat.le_succ _) _).setCell (Nat.le_succ _) _⟩
set_option maxRecDepth 100000 in
set_option maxHeartbeats 4000000 in
theorem specStatusOf_is (S : Sto) (v0 v1 v2 : Value) (key start c v : Int) (B : Nat) (w : World) (h : St w B S v0 v1 v2) (hA : StatAns S key start c v) :
    Calls Try.prog 13 #[.agg #[v0, v1, v2], .int .i64 key, .int .i64 start] w (ResInt w c v) := by
  obtain ⟨a0, c0, a1, c1, a2, c2, rfl, rfl, rfl⟩ := h.form
  have HE : Hid (CallEnv w B S (.slice a0 S.nc c0) (.slice a1 S.nl c1) (.slice a2 S.nw c2) (.int .i64 0) (.int .i64 0) ((w.alloc (.cells #[.slice a0 S.nc c0, .slice a1 S.nl c1, .slice a2 S.nw c2] 33)).alloc (.cells #[.int .i64 0, .int .i64 0] 38))) := CallEnv.new h _ _ _ _
  clear h
  unfold ResInt
  rcases hA with ⟨hz, rfl, rfl⟩ | ⟨hz, rfl, hr⟩
  · obtain ⟨f, hf⟩ : ∃ f, askF S key = f := ⟨_, rfl⟩
    rw [hf]
    have HF : Hid (askF S key = f) := hf
    have hfn : (f == 0) = false := beq_eq_false_iff_ne.2 (by rw [← hf]; exact hz)
    clear hz hf
    go_enter Try.func13, Try.ntmps13
    go_wp2_with fail
    refine (asked_any S w.heap.size _ _ _ key _ ⟨HE.out.1.1, HE.out.2.2.1.mono (Nat.zero_le _)⟩).mono ?_
    rw [HF.out]
    rintro e w1 ⟨rfl, q1⟩
    have HE : Hid (CallEnv w B S (.slice a0 S.nc c0) (.slice a1 S.nl c1) (.slice a2 S.nw c2) (.int .i64 0) (.int .i64 0) w1) := HE.out.later q1
    obtain ⟨⟨⟨p0, p1, p2⟩, _⟩, ⟨⟨r0, r1⟩, f0, f1⟩, _⟩ := HE.out
    clear q1
    go_wp2
    exact bodyPost_ret (v := .agg #[.int .i64 f, .int .i64 0]) (by simp [results, Try.results13, go_sem, r0, r1]) rfl ⟨rfl, (HE.out.2.2.2.setCell (Nat.le_succ _) _).setCell (Nat.le_succ _) _⟩
  · have Z := storeF_zero (askF_zero hz).1
    have HZ : Hid (scan (cellF S.c) S.nc = 0 ∧ (S.nc ≤ 200 ∧ S.nl ≤ 200 ∧ S.nw ≤ 200)) := ⟨Z.2.1, Z.1⟩
    have HA : Hid (askF S key = 0) := hz
    clear Z hz
    have HR : Hid (StatIs S.nl S.l S.nw S.k key start v) := hr
    clear hr
    go_enter Try.func13, Try.ntmps13
    go_wp2_with fail
    refine (asked_any S w.heap.size _ _ _ key _ ⟨HE.out.1.1, HE.out.2.2.1.mono (Nat.zero_le _)⟩).mono ?_
    rw [HA.out]
    rintro e w1 ⟨rfl, q1⟩
    have HE : Hid (CallEnv w B S (.slice a0 S.nc c0) (.slice a1 S.nl c1) (.slice a2 S.nw c2) (.int .i64 0) (.int .i64 0) w1) := HE.out.later q1
    obtain ⟨⟨⟨p0, p1, p2⟩, _⟩, ⟨⟨r0, r1⟩, f0, f1⟩, _⟩ := HE.out
    clear q1
    go_wp2_with fail
    refine (l4Status_is S w.heap.size _ _ _ key start v _ ⟨HE.out.1.1, HE.out.2.2.1.mono (Nat.zero_le _)⟩ HZ.out.2.2.1 HZ.out.2.2.2 HR.out).mono ?_
    rintro e w3 ⟨rfl, rfl⟩
    go_wp2
    exact bodyPost_ret (v := .agg #[.int .i64 0, .int .i64 v]) (by simp [results, Try.results13, go_sem, r0, r1]) rfl ⟨rfl, (HE.out.2.2.2.setCell (Nat.le_succ _) _).setCell (Nat.le_succ _) _⟩
theorem statusOf_ans (S : Sto) (key start : Int) : ∃ c v, (∀ y0 y1 y2 x, St x 0 S y0 y1 y2 → Calls Try.prog 13 #[.agg #[y0, y1, y2], .int .i64 key, .int .i64 start] x (ResInt x c v)) ∧
      (∀ y0 y1 y2 x, St x 0 S y0 y1 y2 → Calls Try.prog 14 #[.agg #[y0, y1, y2], .int .i64 key, .int .i64 start] x (ResInt x c v)) := by
  obtain ⟨c, v, hA⟩ := StatAns.get S key start
  exact ⟨c, v, fun y0 y1 y2 x hx => specStatusOf_is S y0 y1 y2 key start c v 0 x hx hA, fun y0 y1 y2 x hx => implStatusOf_is S y0 y1 y2 key start c v 0 x hx hA⟩
/-- What the model's last region stands on: its store, and the number that it reads. -/
def Reg6 (w : World) (v0 v1 v2 : Value) (g q : Nat) (u : Int) (x : World) : Prop := Blk3 x w.heap.size v0 v1 v2 ∧ x.cell? ⟨g, q, none⟩ = some (.int .i64 u) ∧ Below w.heap.size w x
theorem Reg6.put {w : World} {v0 v1 v2 : Value} {g q : Nat} {u : Int} {x : World} (h : Reg6 w v0 v1 v2 g q u x) (hg : g < w.heap.size) (a b : Value) : Reg6 w v0 v1 v2 g q u ((x.setCell ⟨w.heap.size + 1, 0, none⟩ a).setCell ⟨w.heap.size + 1, 1, none⟩ b).drew :=
  have e : ∀ j, (⟨g, q, none⟩ : Addr) ≠ ⟨w.heap.size + 1, j, none⟩ := fun j e => by have := congrArg Addr.block e; simp at this; omega
  ⟨(h.1.setFar (p := ⟨w.heap.size + 1, 0, none⟩) (by simp) a).setFar (p := ⟨w.heap.size + 1, 1, none⟩) (by simp) b, (World.cell?_setCell_other _ _ _ _ (fun q => e _ q.symm)).trans ((World.cell?_setCell_other _ _ _ _ (fun q => e _ q.symm)).trans h.2.1), ((h.2.2.setCell (Nat.le_succ _) _).setCell (Nat.le_succ _) _).drew⟩
set_option maxRecDepth 100000 in
set_option maxHeartbeats 4000000 in
theorem implCommitOf_is (S : Sto) (v0 v1 v2 : Value) (key start c v : Int) (B : Nat) (w : World) (h : St w B S v0 v1 v2) (hA : CommAns S key start c v) :
    Calls Try.prog 17 #[.agg #[v0, v1, v2], .int .i64 key, .int .i64 start] w (ResInt w c v) := by
  obtain ⟨a0, c0, a1, c1, a2, c2, rfl, rfl, rfl⟩ := h.form
  have HE : Hid (CallEnv w B S (.slice a0 S.nc c0) (.slice a1 S.nl c1) (.slice a2 S.nw c2) (.int .i64 0) (.int .i64 0) ((w.alloc (.cells #[.slice a0 S.nc c0, .slice a1 S.nl c1, .slice a2 S.nw c2] 33)).alloc (.cells #[.int .i64 0, .int .i64 0] 38))) := CallEnv.new h _ _ _ _
  clear h
  unfold ResInt
  rcases hA with ⟨hz, rfl, rfl⟩ | ⟨hz, hr⟩
  · obtain ⟨f, hf⟩ : ∃ f, askF S key = f := ⟨_, rfl⟩
    rw [hf]
    have HF : Hid (askF S key = f) := hf
    have hfn : (f == 0) = false := beq_eq_false_iff_ne.2 (by rw [← hf]; exact hz)
    clear hz hf
    go_enter Try.func17, Try.ntmps17
    go_wp2_with fail
    refine (askFault_any S _ _ _ key B _ HE.out.2.2.1).mono ?_
    rw [HF.out]
    rintro e w1 ⟨rfl, q1⟩
    have HE : Hid (CallEnv w B S (.slice a0 S.nc c0) (.slice a1 S.nl c1) (.slice a2 S.nw c2) (.int .i64 0) (.int .i64 0) w1) := HE.out.later q1
    obtain ⟨⟨⟨p0, p1, p2⟩, _⟩, ⟨⟨r0, r1⟩, f0, f1⟩, _⟩ := HE.out
    clear q1
    go_wp2
    exact bodyPost_ret (v := .agg #[.int .i64 f, .int .i64 0]) (by simp [results, Try.results17, go_sem, r0, r1]) rfl ⟨rfl, (HE.out.2.2.2.setCell (Nat.le_succ _) _).setCell (Nat.le_succ _) _⟩
  · have Z := storeF_zero (askF_zero hz).1
    have HZ : Hid (scan (cellF S.c) S.nc = 0 ∧ (S.nc ≤ 200 ∧ S.nl ≤ 200 ∧ S.nw ≤ 200)) := ⟨Z.2.1, Z.1⟩
    have HA : Hid (askF S key = 0) := hz
    clear Z hz
    rcases hr with ⟨i, hi, rfl, rfl⟩ | ⟨hno, rfl, rfl⟩
    · obtain ⟨n0, N0⟩ : ∃ x, S.k (i * 4) = x := ⟨_, rfl⟩
      obtain ⟨n1, N1⟩ : ∃ x, S.k (i * 4 + 1) = x := ⟨_, rfl⟩
      obtain ⟨n2, N2⟩ : ∃ x, S.k (i * 4 + 2) = x := ⟨_, rfl⟩
      obtain ⟨n3, N3⟩ : ∃ x, S.k (i * 4 + 3) = x := ⟨_, rfl⟩
      have NN : Hid (S.k (i * 4) = n0 ∧ S.k (i * 4 + 1) = n1 ∧ S.k (i * 4 + 2) = n2 ∧ S.k (i * 4 + 3) = n3) := ⟨N0, N1, N2, N3⟩
      have HI : Hid (doneW S.k S.nw key start i) := hi
      rw [N1]
      clear N0 N1 N2 N3 hi
      go_enter Try.func17, Try.ntmps17
      go_wp2_with fail
      refine (askFault_any S _ _ _ key B _ HE.out.2.2.1).mono ?_
      rw [HA.out]
      rintro e w1 ⟨rfl, q1⟩
      have HE : Hid (CallEnv w B S (.slice a0 S.nc c0) (.slice a1 S.nl c1) (.slice a2 S.nw c2) (.int .i64 0) (.int .i64 0) w1) := HE.out.later q1
      obtain ⟨⟨⟨p0, p1, p2⟩, _⟩, ⟨⟨r0, r1⟩, f0, f1⟩, _⟩ := HE.out
      clear q1
      go_wp2_with fail
      refine (columnsOf_any S B _ _ _ _ HE.out.2.2.1 HZ.out.2.1 HZ.out.2.2.1 HZ.out.2.2.2 HZ.out.1).mono ?_
      rintro e w2 ⟨b, g, u1, u2, rfl, hC, q1⟩
      clear p0 p1 p2 r0 r1 f0 f1
      have HC : Hid (Cols w2 w1.heap.size b S.nc (cellM S S.nc) S.nl S.l S.nw S.k g u1 u2) := hC
      have HE : Hid (CallEnv w B S (.slice a0 S.nc c0) (.slice a1 S.nl c1) (.slice a2 S.nw c2) (.int .i64 0) (.int .i64 0) w2) := HE.out.later q1
      clear q1 hC
      go_wp2_with fail
      refine (doneOf_any _ b _ _ _ _ _ _ g u1 u2 key start _ HC.out HZ.out.2.2.2).mono ?_
      rintro e w3 ⟨v, rfl, hT, q1⟩
      obtain rfl : v = .tuple #[.agg #[.int .i64 n0, .int .i64 n1, .int .i64 n2, .int .i64 n3], .bool true] := by
        rcases hT with ⟨j, hj, e⟩ | ⟨h, _⟩
        · obtain rfl := firstW.one hj.1 HI.out.1
          rw [e, NN.out.1, NN.out.2.1, NN.out.2.2.1, NN.out.2.2.2]
        · exact absurd HI.out (h _)
      clear hT
      have HE : Hid (CallEnv w B S (.slice a0 S.nc c0) (.slice a1 S.nl c1) (.slice a2 S.nw c2) (.int .i64 0) (.int .i64 0) w3) := HE.out.later q1
      obtain ⟨⟨⟨p0, p1, p2⟩, _⟩, ⟨⟨r0, r1⟩, f0, f1⟩, _⟩ := HE.out
      clear q1
      have z3 := HE.out.2.1.lt
      obtain ⟨⟨s0, s1⟩, _⟩ := (HE.out.2.1.put (.int .i64 0) (.int .i64 n1)).alloc (.cells #[.int .i64 n0, .int .i64 n1, .int .i64 n2, .int .i64 n3] 64)
      go_wp2
      exact bodyPost_ret (v := .agg #[.int .i64 0, .int .i64 n1]) (by simp [results, Try.results17, go_sem, s0, s1]) rfl ⟨rfl, ((HE.out.2.2.2.setCell (Nat.le_succ _) _).setCell (Nat.le_succ _) _).alloc (by have := HE.out.2.2.2.size; simp; omega) _⟩
    · have HN : Hid (∀ i, ¬ doneW S.k S.nw key start i) := hno
      clear hno
      go_enter Try.func17, Try.ntmps17
      go_wp2_with fail
      refine (askFault_any S _ _ _ key B _ HE.out.2.2.1).mono ?_
      rw [HA.out]
      rintro e w1 ⟨rfl, q1⟩
      have HE : Hid (CallEnv w B S (.slice a0 S.nc c0) (.slice a1 S.nl c1) (.slice a2 S.nw c2) (.int .i64 0) (.int .i64 0) w1) := HE.out.later q1
      obtain ⟨⟨⟨p0, p1, p2⟩, _⟩, ⟨⟨r0, r1⟩, f0, f1⟩, _⟩ := HE.out
      clear q1
      go_wp2_with fail
      refine (columnsOf_any S B _ _ _ _ HE.out.2.2.1 HZ.out.2.1 HZ.out.2.2.1 HZ.out.2.2.2 HZ.out.1).mono ?_
      rintro e w2 ⟨b, g, u1, u2, rfl, hC, q1⟩
      clear p0 p1 p2 r0 r1 f0 f1
      have HC : Hid (Cols w2 w1.heap.size b S.nc (cellM S S.nc) S.nl S.l S.nw S.k g u1 u2) := hC
      have HE : Hid (CallEnv w B S (.slice a0 S.nc c0) (.slice a1 S.nl c1) (.slice a2 S.nw c2) (.int .i64 0) (.int .i64 0) w2) := HE.out.later q1
      clear q1 hC
      go_wp2_with fail
      refine (doneOf_any _ b _ _ _ _ _ _ g u1 u2 key start _ HC.out HZ.out.2.2.2).mono ?_
      rintro e w3 ⟨v, rfl, hT, q1⟩
      obtain rfl : v = .tuple #[.agg #[.int .i64 0, .int .i64 0, .int .i64 0, .int .i64 0], .bool false] := by
        rcases hT with ⟨i, hi, _⟩ | ⟨_, e⟩
        · exact absurd hi (HN.out i)
        · exact e
      clear hT
      have HE : Hid (CallEnv w B S (.slice a0 S.nc c0) (.slice a1 S.nl c1) (.slice a2 S.nw c2) (.int .i64 0) (.int .i64 0) w3) := HE.out.later q1
      obtain ⟨⟨⟨p0, p1, p2⟩, _⟩, ⟨⟨r0, r1⟩, f0, f1⟩, _⟩ := HE.out
      clear q1
      have z3 := HE.out.2.1.lt
      obtain ⟨⟨s0, s1⟩, _⟩ := (HE.out.2.1.put (.int .i64 4) (.int .i64 0)).alloc (.cells #[.int .i64 0, .int .i64 0, .int .i64 0, .int .i64 0] 64)
      go_wp2
      exact bodyPost_ret (v := .agg #[.int .i64 4, .int .i64 0]) (by simp [results, Try.results17, go_sem, s0, s1]) rfl ⟨rfl, ((HE.out.2.2.2.setCell (Nat.le_succ _) _).setCell (Nat.le_succ _) _).alloc (by have := HE.out.2.2.2.size; simp; omega) _⟩
set_option maxRecDepth 100000 in
set_option maxHeartbeats 4000000 in
theorem specCommitOf_is (S : Sto) (v0 v1 v2 : Value) (key start c v : Int) (B : Nat) (w : World) (h : St w B S v0 v1 v2) (hA : CommAns S key start c v) :
    Calls Try.prog 16 #[.agg #[v0, v1, v2], .int .i64 key, .int .i64 start] w (ResInt w c v) := by
  have HH : Hid (∀ g, v2.ownBlock = some g → 0 < S.nw → g < w.heap.size) := fun g e hn => (h.2.2.lt hn g e).2
  obtain ⟨a0, c0, a1, c1, a2, c2, rfl, rfl, rfl⟩ := h.form
  have HE : Hid (CallEnv w B S (.slice a0 S.nc c0) (.slice a1 S.nl c1) (.slice a2 S.nw c2) (.int .i64 0) (.int .i64 0) ((w.alloc (.cells #[.slice a0 S.nc c0, .slice a1 S.nl c1, .slice a2 S.nw c2] 33)).alloc (.cells #[.int .i64 0, .int .i64 0] 38))) := CallEnv.new h _ _ _ _
  clear h
  unfold ResInt
  rcases hA with ⟨hz, rfl, rfl⟩ | ⟨hz, hr⟩
  · obtain ⟨f, hf⟩ : ∃ f, askF S key = f := ⟨_, rfl⟩
    rw [hf]
    have HF : Hid (askF S key = f) := hf
    have hfn : (f == 0) = false := beq_eq_false_iff_ne.2 (by rw [← hf]; exact hz)
    clear hz hf
    go_enter Try.func16, Try.ntmps16
    go_wp2_with fail
    refine (asked_any S w.heap.size _ _ _ key _ ⟨HE.out.1.1, HE.out.2.2.1.mono (Nat.zero_le _)⟩).mono ?_
    rw [HF.out]
    rintro e w1 ⟨rfl, q1⟩
    have HE : Hid (CallEnv w B S (.slice a0 S.nc c0) (.slice a1 S.nl c1) (.slice a2 S.nw c2) (.int .i64 0) (.int .i64 0) w1) := HE.out.later q1
    obtain ⟨⟨⟨p0, p1, p2⟩, _⟩, ⟨⟨r0, r1⟩, f0, f1⟩, _⟩ := HE.out
    clear q1
    go_wp2
    exact bodyPost_ret (v := .agg #[.int .i64 f, .int .i64 0]) (by simp [results, Try.results16, go_sem, r0, r1]) rfl ⟨rfl, (HE.out.2.2.2.setCell (Nat.le_succ _) _).setCell (Nat.le_succ _) _⟩
  · have Z := storeF_zero (askF_zero hz).1
    have HZ : Hid (scan (cellF S.c) S.nc = 0 ∧ (S.nc ≤ 200 ∧ S.nl ≤ 200 ∧ S.nw ≤ 200)) := ⟨Z.2.1, Z.1⟩
    have HA : Hid (askF S key = 0) := hz
    clear Z hz
    obtain ⟨r, hR⟩ := StatIs.get S.nl S.l S.nw S.k key start
    have HR : Hid (StatIs S.nl S.l S.nw S.k key start r) := hR
    rcases hr with ⟨i, hi, rfl, rfl⟩ | ⟨hno, rfl, rfl⟩
    · obtain rfl : r = 2 := hR.two.2 ⟨i, hi⟩
      have HD : Hid (doneW S.k S.nw key start i) := hi
      have hin : (i : Int) < (S.nw : Int) := by have := hi.1.1; omega
      obtain ⟨u, hu⟩ : ∃ u, S.k (i * 4 + 1) = u := ⟨_, rfl⟩
      have HU : Hid (S.k (i * 4 + 1) = u) := hu
      rw [hu]
      clear hR hi hu
      go_enter Try.func16, Try.ntmps16
      go_wp2_with fail
      refine (asked_any S w.heap.size _ _ _ key _ ⟨HE.out.1.1, HE.out.2.2.1.mono (Nat.zero_le _)⟩).mono ?_
      rw [HA.out]
      rintro e w1 ⟨rfl, q1⟩
      have HE : Hid (CallEnv w B S (.slice a0 S.nc c0) (.slice a1 S.nl c1) (.slice a2 S.nw c2) (.int .i64 0) (.int .i64 0) w1) := HE.out.later q1
      obtain ⟨⟨⟨p0, p1, p2⟩, _⟩, ⟨⟨r0, r1⟩, f0, f1⟩, _⟩ := HE.out
      clear q1
      go_wp2_with fail
      refine (l4Status_is S w.heap.size _ _ _ key start 2 _ ⟨HE.out.1.1, HE.out.2.2.1.mono (Nat.zero_le _)⟩ HZ.out.2.2.1 HZ.out.2.2.2 HR.out).mono ?_
      rintro e w3 ⟨rfl, rfl⟩
      clear p0 p1 p2 r0 r1 f0 f1
      obtain ⟨g, o, rfl, _, _, _, x1, _⟩ := HE.out.2.2.1.2.2.at4 HD.out.1.1
      have HG : Hid (g < w.heap.size) := HH.out g rfl (Nat.lt_of_le_of_lt (Nat.zero_le _) HD.out.1.1)
      rw [HU.out] at x1
      go_wp2_with fail
      have h0 : Reg6 w (.slice a0 S.nc c0) (.slice a1 S.nl c1) (.slice (some ⟨g, o, none⟩) S.nw c2) g (o + i * 4 + 1) u w3.drew := ⟨HE.out.1, x1, HE.out.2.2.2.drew⟩
      refine wp_region_held_drew (S := Reg6 w (.slice a0 S.nc c0) (.slice a1 S.nl c1) (.slice (some ⟨g, o, none⟩) S.nw c2) g (o + i * 4 + 1) u) (by kernel_rfl) h0 (fun hS => ?_)
      have H3 : Hid (Reg6 w (.slice a0 S.nc c0) (.slice a1 S.nl c1) (.slice (some ⟨g, o, none⟩) S.nw c2) g (o + i * 4 + 1) u w3) := ⟨HE.out.1, x1, HE.out.2.2.2⟩
      clear h0 x1
      refine wpAnyH_take (i := 0) (v := ?_) rfl (by kernel_rfl) (by kernel_rfl) (by kernel_rfl) (fun _ _ _ h => h) (Or.inl ⟨by kernel_rfl, ?_⟩) hS ?_
      rotate_left
      · intro wx hx
        obtain ⟨⟨⟨hx0, hx1, hx2⟩, _⟩, hx3, _⟩ := hx
        go_simp
        try with_reducible rfl
      refine wpAnyH_take (i := 1) (v := ?_) rfl (by kernel_rfl) (by kernel_rfl) (by kernel_rfl) (fun _ _ _ h => h) (Or.inl ⟨by kernel_rfl, ?_⟩) hS ?_
      rotate_left
      · intro wx hx
        obtain ⟨⟨⟨hx0, hx1, hx2⟩, _⟩, hx3, _⟩ := hx
        go_simp
        try with_reducible rfl
      refine wpAnyH_take (i := 2) (v := ?_) rfl (by kernel_rfl) (by kernel_rfl) (by kernel_rfl) (fun _ _ _ h => h) (Or.inl ⟨by kernel_rfl, ?_⟩) hS ?_
      rotate_left
      · intro wx hx
        obtain ⟨⟨⟨hx0, hx1, hx2⟩, _⟩, hx3, _⟩ := hx
        go_simp
        try with_reducible rfl
      refine wpAnyH_take (i := 3) (v := ?_) rfl (by kernel_rfl) (by kernel_rfl) (by kernel_rfl) (fun _ _ _ h => h) (Or.inl ⟨by kernel_rfl, ?_⟩) hS ?_
      rotate_left
      · intro wx hx
        obtain ⟨⟨⟨hx0, hx1, hx2⟩, _⟩, hx3, _⟩ := hx
        go_simp
        try with_reducible rfl
      refine wpAnyH_ready (rs := [4]) (by kernel_rfl) (by simp) ?_
      refine AllReadyH.cons rfl (fun K hK => ?_) AllReadyH.nil
      go_simp
      go_wp2_with fail
      refine (write_yes S w.heap.size _ _ _ key start i w3.drew ⟨HE.out.1.1, HE.out.2.2.1.mono (Nat.zero_le _)⟩ HZ.out.2.2.2 HD.out.1).mono ?_
      rintro e w4 ⟨rfl, rfl⟩
      have hS' := hS
      go_wp2_with fail
      refine hK.out _ _ hS' (fun hS => ?_)
      clear hK K hS'
      refine wpAnyH_take (i := 5) (v := ?_) rfl (by kernel_rfl) (by kernel_rfl) (by kernel_rfl) (fun _ _ _ h => h) (Or.inl ⟨by kernel_rfl, ?_⟩) hS ?_
      rotate_left
      · intro wx hx
        obtain ⟨⟨⟨hx0, hx1, hx2⟩, _⟩, hx3, _⟩ := hx
        go_simp
        try with_reducible rfl
      refine wpAnyH_take (i := 6) (v := ?_) rfl (by kernel_rfl) (by kernel_rfl) (by kernel_rfl) (fun _ _ _ h => h) (Or.inl ⟨by kernel_rfl, ?_⟩) hS ?_
      rotate_left
      · intro wx hx
        obtain ⟨⟨⟨hx0, hx1, hx2⟩, _⟩, hx3, _⟩ := hx
        go_simp
        try with_reducible rfl
      refine wpAnyH_take (i := 7) (v := ?_) rfl (by kernel_rfl) (by kernel_rfl) (by kernel_rfl) (fun _ _ _ h => h) (Or.inl ⟨by kernel_rfl, ?_⟩) hS ?_
      rotate_left
      · intro wx hx
        obtain ⟨⟨⟨hx0, hx1, hx2⟩, _⟩, hx3, _⟩ := hx
        go_simp
        try with_reducible rfl
      refine wpAnyH_take (i := 8) (v := ?_) rfl (by kernel_rfl) (by kernel_rfl) (by kernel_rfl) (fun _ _ _ h => h) (Or.inl ⟨by kernel_rfl, ?_⟩) hS ?_
      rotate_left
      · intro wx hx
        obtain ⟨⟨⟨hx0, hx1, hx2⟩, _⟩, hx3, _⟩ := hx
        go_simp
        try with_reducible rfl
      obtain ⟨⟨r0, r1⟩, f0, f1⟩ := HE.out.2.1
      refine wpAnyH_ready (rs := [9]) (by kernel_rfl) (by simp) ?_
      refine AllReadyH.cons rfl (fun K hK => ?_) AllReadyH.nil
      go_simp
      refine hK.out _ _ (H3.out.put HG.out _ _) (fun hS => ?_)
      clear hK K
      refine wpAnyH_done (by kernel_rfl) ?_ _
      go_simp
      go_wp2
      exact bodyPost_ret (v := .agg #[.int .i64 0, .int .i64 u]) (by simp [results, Try.results16, go_sem, r0, r1]) rfl ⟨rfl, hS.2.2⟩
    · have hn2 : r ≠ 2 := fun q => by obtain ⟨i, hi⟩ := hR.two.1 q; exact hno i hi
      have d2 : (r == 2) = false := beq_eq_false_iff_ne.2 hn2
      clear hR hno hn2
      go_enter Try.func16, Try.ntmps16
      go_wp2_with fail
      refine (asked_any S w.heap.size _ _ _ key _ ⟨HE.out.1.1, HE.out.2.2.1.mono (Nat.zero_le _)⟩).mono ?_
      rw [HA.out]
      rintro e w1 ⟨rfl, q1⟩
      have HE : Hid (CallEnv w B S (.slice a0 S.nc c0) (.slice a1 S.nl c1) (.slice a2 S.nw c2) (.int .i64 0) (.int .i64 0) w1) := HE.out.later q1
      obtain ⟨⟨⟨p0, p1, p2⟩, _⟩, ⟨⟨r0, r1⟩, f0, f1⟩, _⟩ := HE.out
      clear q1
      go_wp2_with fail
      refine (l4Status_is S w.heap.size _ _ _ key start r _ ⟨HE.out.1.1, HE.out.2.2.1.mono (Nat.zero_le _)⟩ HZ.out.2.2.1 HZ.out.2.2.2 HR.out).mono ?_
      rintro e w3 ⟨rfl, rfl⟩
      go_wp2
      exact bodyPost_ret (v := .agg #[.int .i64 4, .int .i64 0]) (by simp [results, Try.results16, go_sem, r0, r1]) rfl ⟨rfl, (HE.out.2.2.2.setCell (Nat.le_succ _) _).setCell (Nat.le_succ _) _⟩
theorem commitOf_ans (S : Sto) (key start : Int) : ∃ c v, (∀ y0 y1 y2 x, St x 0 S y0 y1 y2 → Calls Try.prog 16 #[.agg #[y0, y1, y2], .int .i64 key, .int .i64 start] x (ResInt x c v)) ∧
      (∀ y0 y1 y2 x, St x 0 S y0 y1 y2 → Calls Try.prog 17 #[.agg #[y0, y1, y2], .int .i64 key, .int .i64 start] x (ResInt x c v)) := by
  obtain ⟨c, v, hA⟩ := CommAns.get S key start
  exact ⟨c, v, fun y0 y1 y2 x hx => specCommitOf_is S y0 y1 y2 key start c v 0 x hx hA, fun y0 y1 y2 x hx => implCommitOf_is S y0 y1 y2 key start c v 0 x hx hA⟩
end Go.Proofs.Ytjhloobjbbdmcaj
