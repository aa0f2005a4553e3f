/-
  Own text. The model's PartStore: a code, and a new store.
-/
import Derived.Test.YtjhloobjbbdmcaiPartB
import Derived.Test.YtjhloobjbbdmcaiStorP
namespace Go.Proofs.Ytjhloobjbbdmcai
open Go.RowKit

def emptyS : Sto := ⟨0, fun _ => 0, 0, fun _ => 0, 0, fun _ => 0⟩
theorem row_none0 (w : World) (B m : Nat) (F : Nat → Int) : Row w B m 0 F (.slice none 0 0) ∧ Free w (0 * m) (.slice none 0 0) := ⟨⟨_, _, rfl, fun q => absurd q (Nat.lt_irrefl 0)⟩, by rw [Nat.zero_mul]; exact Free.of0 _ _⟩
theorem empty_sto (w : World) (B : Nat) : St w B emptyS (.slice none 0 0) (.slice none 0 0) (.slice none 0 0) ∧ FreeS w emptyS (.slice none 0 0) (.slice none 0 0) (.slice none 0 0) ∧ ApartD emptyS (.slice none 0 0) (.slice none 0 0) (.slice none 0 0) :=
  ⟨⟨(row_none0 w B 3 _).1, (row_none0 w B 5 _).1, (row_none0 w B 4 _).1⟩, ⟨(row_none0 w B 3 (fun _ => 0)).2, (row_none0 w B 5 (fun _ => 0)).2, (row_none0 w B 4 (fun _ => 0)).2⟩, fun q => absurd q (Nat.lt_irrefl 0), fun q => absurd q (Nat.lt_irrefl 0), fun q => absurd q (Nat.lt_irrefl 0)⟩
def partFits (fr to : Int) : Prop := (0 ≤ fr ∧ fr ≤ 200) ∧ (0 ≤ to ∧ to ≤ 200)
/-- What PartStore answers. -/
def PartAns (S : Sto) (fr to c : Int) (R : Sto) : Prop := (storeF S ≠ 0 ∧ c = storeF S ∧ R = emptyS) ∨ (storeF S = 0 ∧ ¬ partFits fr to ∧ c = 3 ∧ R = emptyS) ∨ (storeF S = 0 ∧ partFits fr to ∧ c = 0 ∧ R = partS S fr to)
theorem PartAns.get (S : Sto) (fr to : Int) : ∃ c R, (R.nc ≤ 1048576 ∧ R.nl ≤ 1048576 ∧ R.nw ≤ 1048576) ∧ PartAns S fr to c R := by
  by_cases hz : storeF S = 0
  · by_cases hf : partFits fr to
    · have Z := (storeF_zero hz).1
      have h0 := keep_le S.c 3 fr (to - 1) S.nc
      have h1 := keep_le S.l 5 fr (to - 1) S.nl
      have h2 := keep_le S.k 4 fr (to - 1) S.nw
      exact ⟨0, partS S fr to, ⟨Nat.le_trans h0 (by omega), Nat.le_trans h1 (by omega), Nat.le_trans h2 (by omega)⟩, Or.inr (Or.inr ⟨hz, hf, rfl, rfl⟩)⟩
    · exact ⟨3, emptyS, ⟨Nat.zero_le _, Nat.zero_le _, Nat.zero_le _⟩, Or.inr (Or.inl ⟨hz, hf, rfl, rfl⟩)⟩
  · exact ⟨storeF S, emptyS, ⟨Nat.zero_le _, Nat.zero_le _, Nat.zero_le _⟩, Or.inl ⟨hz, rfl, rfl⟩⟩
/-- A call that has its store (the first block) and its answer, a code and a store (the second). -/
def CallSto (w : World) (B : Nat) (S : Sto) (v0 v1 v2 : Value) (x : World) : Prop := Blk3 x w.heap.size v0 v1 v2 ∧ Blk4 x (w.heap.size + 1) (.int .i64 0) (.slice none 0 0) (.slice none 0 0) (.slice none 0 0) ∧ St x B S v0 v1 v2 ∧ Below w.heap.size w x
theorem CallSto.later {w x x' : World} {B : Nat} {S : Sto} {v0 v1 v2 : Value} (h : CallSto w B S v0 v1 v2 x) (hb : Below x.heap.size x x') : CallSto w B S v0 v1 v2 x' := ⟨h.1.later hb, h.2.1.later hb, h.2.2.1.later hb, h.2.2.2.trans (hb.mono h.2.2.2.size)⟩
theorem CallSto.new {w : World} {B : Nat} {S : Sto} {v0 v1 v2 : Value} (h : St w B S v0 v1 v2) (t t' : TypeId) : CallSto w B S v0 v1 v2 ((w.alloc (.cells #[v0, v1, v2] t)).alloc (.cells #[.int .i64 0, .slice none 0 0, .slice none 0 0, .slice none 0 0] t')) := by
  have h4 := Blk4.new (w.alloc (.cells #[v0, v1, v2] t)) (.int .i64 0) (.slice none 0 0) (.slice none 0 0) (.slice none 0 0) t'
  rw [World.size_alloc] at h4
  exact ⟨(Blk3.new w _ _ _ _).alloc _, h4, (h.alloc _).alloc _, (below_alloc _ _).alloc (by simp) _⟩
set_option maxRecDepth 100000 in
set_option maxHeartbeats 8000000 in
theorem specPartStore_is (S : Sto) (v0 v1 v2 : Value) (fr to c : Int) (R : Sto) (B : Nat) (w : World) (h : St w B S v0 v1 v2) (hA : PartAns S fr to c R) :
    Calls Try.prog 5 #[.agg #[v0, v1, v2], .int .i64 fr, .int .i64 to] w (ResSto w c R) := by
  obtain ⟨a0, c0, a1, c1, a2, c2, rfl, rfl, rfl⟩ := h.form
  have HE : Hid (CallSto w B S (.slice a0 S.nc c0) (.slice a1 S.nl c1) (.slice a2 S.nw c2) ((w.alloc (.cells #[.slice a0 S.nc c0, .slice a1 S.nl c1, .slice a2 S.nw c2] 32)).alloc (.cells #[.int .i64 0, .slice none 0 0, .slice none 0 0, .slice none 0 0] 34))) := CallSto.new h _ _
  clear h
  unfold ResSto
  rcases hA with ⟨hz, rfl, rfl⟩ | ⟨hz, hf, rfl, rfl⟩ | ⟨hz, hf, rfl, rfl⟩
  · obtain ⟨f, hf⟩ : ∃ f, storeF S = f := ⟨_, rfl⟩
    have HF : Hid (storeF S = f) := hf
    have hfn : (f == 0) = false := beq_eq_false_iff_ne.2 (by rw [← hf]; exact hz)
    rw [hf]
    clear hz hf
    go_enter Try.func5, Try.ntmps5
    go_wp2_with fail
    refine (l2Fault_any S w.heap.size _ _ _ _ ⟨HE.out.1.1, HE.out.2.2.1.mono (Nat.zero_le _)⟩).mono ?_
    rw [HF.out]
    rintro e w1 ⟨rfl, q1⟩
    have HE : Hid (CallSto w B S (.slice a0 S.nc c0) (.slice a1 S.nl c1) (.slice a2 S.nw c2) w1) := HE.out.later q1
    obtain ⟨⟨⟨p0, p1, p2⟩, _⟩, ⟨⟨r0, r1, r2, r3⟩, f0, f1, f2, f3⟩, _⟩ := HE.out
    clear q1
    go_wp2
    exact bodyPost_ret (v := .agg #[.int .i64 f, .slice none 0 0, .slice none 0 0, .slice none 0 0]) (by simp [results, Try.results5, go_sem, r0, r1, r2, r3]) rfl ⟨none, 0, none, 0, none, 0, rfl, empty_sto _ _, (((HE.out.2.2.2.setCell (Nat.le_succ _) _).setCell (Nat.le_succ _) _).setCell (Nat.le_succ _) _).setCell (Nat.le_succ _) _⟩
  · have HA : Hid (storeF S = 0) := hz
    by_cases h1 : 0 ≤ fr ∧ fr ≤ 200
    case neg =>
      have H1 : Hid (decide (0 ≤ fr ∧ fr ≤ 200) = false) := decide_eq_false h1
      clear hf h1 hz
      go_enter Try.func5, Try.ntmps5
      go_wp2_with fail
      refine (l2Fault_any S w.heap.size _ _ _ _ ⟨HE.out.1.1, HE.out.2.2.1.mono (Nat.zero_le _)⟩).mono ?_
      rw [HA.out]
      rintro e w1 ⟨rfl, q1⟩
      have HE : Hid (CallSto w B S (.slice a0 S.nc c0) (.slice a1 S.nl c1) (.slice a2 S.nw c2) w1) := HE.out.later q1
      obtain ⟨⟨⟨p0, p1, p2⟩, _⟩, ⟨⟨r0, r1, r2, r3⟩, f0, f1, f2, f3⟩, _⟩ := HE.out
      clear q1
      go_wp2_with fail
      refine (l1In_is _ _ _ false H1.out _).mono ?_
      rintro e w1' ⟨rfl, rfl⟩
      go_wp2
      exact bodyPost_ret (v := .agg #[.int .i64 3, .slice none 0 0, .slice none 0 0, .slice none 0 0]) (by simp [results, Try.results5, go_sem, r0, r1, r2, r3]) rfl ⟨none, 0, none, 0, none, 0, rfl, empty_sto _ _, (((HE.out.2.2.2.setCell (Nat.le_succ _) _).setCell (Nat.le_succ _) _).setCell (Nat.le_succ _) _).setCell (Nat.le_succ _) _⟩
    have H1 : Hid (decide (0 ≤ fr ∧ fr ≤ 200) = true) := decide_eq_true h1
    have H2 : Hid (decide (0 ≤ to ∧ to ≤ 200) = false) := decide_eq_false (fun q => hf ⟨h1, q⟩)
    clear hf h1 hz
    go_enter Try.func5, Try.ntmps5
    go_wp2_with fail
    refine (l2Fault_any S w.heap.size _ _ _ _ ⟨HE.out.1.1, HE.out.2.2.1.mono (Nat.zero_le _)⟩).mono ?_
    rw [HA.out]
    rintro e w1 ⟨rfl, q1⟩
    have HE : Hid (CallSto w B S (.slice a0 S.nc c0) (.slice a1 S.nl c1) (.slice a2 S.nw c2) w1) := HE.out.later q1
    obtain ⟨⟨⟨p0, p1, p2⟩, _⟩, ⟨⟨r0, r1, r2, r3⟩, f0, f1, f2, f3⟩, _⟩ := HE.out
    clear q1
    go_wp2_with fail
    refine (l1In_is _ _ _ true H1.out _).mono ?_
    rintro e w1' ⟨rfl, rfl⟩
    go_wp2_with fail
    refine (l1In_is _ _ _ false H2.out _).mono ?_
    rintro e w1' ⟨rfl, rfl⟩
    go_wp2
    exact bodyPost_ret (v := .agg #[.int .i64 3, .slice none 0 0, .slice none 0 0, .slice none 0 0]) (by simp [results, Try.results5, go_sem, r0, r1, r2, r3]) rfl ⟨none, 0, none, 0, none, 0, rfl, empty_sto _ _, (((HE.out.2.2.2.setCell (Nat.le_succ _) _).setCell (Nat.le_succ _) _).setCell (Nat.le_succ _) _).setCell (Nat.le_succ _) _⟩
  · have HA : Hid (storeF S = 0) := hz
    have HN : Hid (S.nc ≤ 200 ∧ S.nl ≤ 200 ∧ S.nw ≤ 200) := (storeF_zero hz).1
    have H1 : Hid (decide (0 ≤ fr ∧ fr ≤ 200) = true) := decide_eq_true hf.1
    have H2 : Hid (decide (0 ≤ to ∧ to ≤ 200) = true) := decide_eq_true hf.2
    have HP : Hid (∀ (b : Nat) (u0 u1 u2 : Value) (x : World), Lies x b S u0 u1 u2 → Calls Try.prog 18 #[.pointer (some ⟨b, 0, none⟩), .int .i64 fr, .int .i64 to] x (NewSto x (partS S fr to))) := fun b u0 u1 u2 x hx => l2Part_any S b u0 u1 u2 fr to x hx HN.out hf.2
    generalize partS S fr to = R at HP ⊢
    clear hf hz HN
    go_enter Try.func5, Try.ntmps5
    go_wp2_with fail
    refine (l2Fault_any S w.heap.size _ _ _ _ ⟨HE.out.1.1, HE.out.2.2.1.mono (Nat.zero_le _)⟩).mono ?_
    rw [HA.out]
    rintro e w1 ⟨rfl, q1⟩
    have HE : Hid (CallSto w B S (.slice a0 S.nc c0) (.slice a1 S.nl c1) (.slice a2 S.nw c2) w1) := HE.out.later q1
    obtain ⟨⟨⟨p0, p1, p2⟩, _⟩, ⟨⟨r0, r1, r2, r3⟩, f0, f1, f2, f3⟩, _⟩ := HE.out
    clear q1
    go_wp2_with fail
    refine (l1In_is _ _ _ true H1.out _).mono ?_
    rintro e w1' ⟨rfl, rfl⟩
    go_wp2_with fail
    refine (l1In_is _ _ _ true H2.out _).mono ?_
    rintro e w2 ⟨rfl, rfl⟩
    go_wp2_with fail
    refine (HP.out w.heap.size _ _ _ _ ⟨HE.out.1.1, HE.out.2.2.1.mono (Nat.zero_le _)⟩).mono ?_
    rintro e w3 ⟨d0, e0, d1, e1, d2, e2, rfl, ⟨s3, f3', a3⟩, q1⟩
    have zw : Hid (w.heap.size + 2 ≤ w2.heap.size) := HE.out.2.1.lt
    have S3 : Hid ((St w3 (w.heap.size + 2) R (.slice d0 R.nc e0) (.slice d1 R.nl e1) (.slice d2 R.nw e2) ∧ FreeS w3 R (.slice d0 R.nc e0) (.slice d1 R.nl e1) (.slice d2 R.nw e2)) ∧ ApartD R (.slice d0 R.nc e0) (.slice d1 R.nl e1) (.slice d2 R.nw e2)) := ⟨⟨s3.mono zw.out, f3'⟩, a3⟩
    clear p0 p1 p2 r0 r1 r2 r3 f0 f1 f2 f3 s3 f3' a3
    have HE : Hid (CallSto w B S (.slice a0 S.nc c0) (.slice a1 S.nl c1) (.slice a2 S.nw c2) w3) := HE.out.later q1
    obtain ⟨⟨⟨p0, p1, p2⟩, _⟩, ⟨⟨r0, r1, r2, r3⟩, f0, f1, f2, f3⟩, _⟩ := HE.out
    clear q1
    have hlo : (w.heap.size + 1 : Nat) < w.heap.size + 2 := Nat.lt_succ_self _
    go_wp2
    exact bodyPost_ret (v := .agg #[.int .i64 0, .slice d0 R.nc e0, .slice d1 R.nl e1, .slice d2 R.nw e2]) (by simp [results, Try.results5, go_sem, r0, r1, r2, r3]) rfl ⟨d0, e0, d1, e1, d2, e2, rfl, ⟨((((S3.out.1.1.far hlo _).far hlo _).far hlo _).far hlo _).mono (by omega), (((S3.out.1.2.far _ _).far _ _).far _ _).far _ _, S3.out.2⟩, (((HE.out.2.2.2.setCell (Nat.le_succ _) _).setCell (Nat.le_succ _) _).setCell (Nat.le_succ _) _).setCell (Nat.le_succ _) _⟩
end Go.Proofs.Ytjhloobjbbdmcai
