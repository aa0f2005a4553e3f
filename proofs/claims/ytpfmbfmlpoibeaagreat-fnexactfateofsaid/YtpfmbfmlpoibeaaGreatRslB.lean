/-
  Own text, merged of RslA, RslB.
-/
import Derived.Test.YtpfmbfmlpoibeaaGreatGrpL
import Derived.Test.YtpfmbfmlpoibeaaGreatStatA
import Derived.Test.YtpfmbfmlpoibeaaGreatLawI
namespace Go.Proofs.YtpfmbfmlpoibeaaGreat
section
open Go.RowKit
-- Own text. Chapter 9, the model's side: what is asked first (l9Asked), what becomes of a key's lock (l9Fate), FateOf.
/-- What is asked ahead of anything else: the groups, the key, the time. -/
noncomputable def askG (nr : Nat) (F : Nat → Int) (n : Nat) (S : Nat → Sto) (key now : Int) : Int :=
  if groupsF nr F n S ≠ 0 then groupsF nr F n S else if faultOf key ≠ 0 then faultOf key else if 0 ≤ now ∧ now ≤ 100000 then 0 else 3
theorem l9Time_is (now : Int) (r : Bool) (hr : decide (0 ≤ now ∧ now ≤ 100000) = r) (w : World) :
    Calls Tryz.prog 64 #[.int .i64 now] w fun e w' => e = .returned (.bool r) ∧ w' = w := by
  go_enter Tryz.func64, Tryz.ntmps64
  go_wp2_with fail
  refine (l1In_is now 0 100000 r hr _).mono ?_
  rintro e w1 ⟨rfl, rfl⟩
  go_wp2
  go_ret
  exact ⟨rfl, rfl⟩
set_option maxRecDepth 100000 in
set_option maxHeartbeats 4000000 in
theorem l9Asked_is (nr : Nat) (F : Nat → Int) (n : Nat) (S : Nat → Sto) (V : Nat → Nat → Value) (vr vs : Value) (key now : Int) (b : Nat) (w : World) (h : LiesG w b nr F n S V vr vs) (hr : nr ≤ 9223372036854775807) (hn : n ≤ 9223372036854775807) :
    Calls Tryz.prog 24 #[.pointer (some ⟨b, 0, none⟩), .int .i64 key, .int .i64 now] w fun e w' => e = .returned (.int .i64 (askG nr F n S key now)) ∧ Below w.heap.size w w' := by
  have H : Hid (LiesG w b nr F n S V vr vs) := h
  clear h
  unfold askG
  obtain ⟨f, hf⟩ : ∃ f, groupsF nr F n S = f := ⟨_, rfl⟩
  obtain ⟨k, hk⟩ : ∃ k, faultOf key = k := ⟨_, rfl⟩
  have HF : Hid (groupsF nr F n S = f) := hf
  have HK : Hid (faultOf key = k) := hk
  rw [hf, hk]
  clear hf hk
  by_cases hz : f = 0
  · subst hz
    by_cases hz : k = 0
    · subst hz
      obtain ⟨r, hd⟩ : ∃ r, decide (0 ≤ now ∧ now ≤ 100000) = r := ⟨_, rfl⟩
      have HD : Hid (decide (0 ≤ now ∧ now ≤ 100000) = r) := hd
      have e9 : (if (0 : Int) ≠ 0 then (0 : Int) else if (0 : Int) ≠ 0 then 0 else if 0 ≤ now ∧ now ≤ 100000 then 0 else 3) = if r = true then 0 else 3 := by
        rw [if_neg (fun h => h rfl), if_neg (fun h => h rfl)]
        rw [← hd]
        by_cases h : 0 ≤ now ∧ now ≤ 100000
        · rw [if_pos h, if_pos (decide_eq_true h)]
        · rw [if_neg h, if_neg (by rw [decide_eq_false h]; exact Bool.false_ne_true)]
      rw [e9]
      clear hd e9
      cases r with
      | true =>
        rw [if_pos rfl]
        go_enter Tryz.func24, Tryz.ntmps24
        go_wp2_with fail
        refine (l7Fault_any nr F n S V _ _ b _ H.out hr hn).mono ?_
        rw [HF.out]
        rintro e w1 ⟨rfl, q1⟩
        go_wp2_with fail
        refine (l1Fault_any key _).mono ?_
        rw [HK.out]
        rintro e w2 ⟨rfl, hw2⟩
        obtain rfl := hw2.symm
        go_wp2_with fail
        refine (l9Time_is now true HD.out _).mono ?_
        rintro e w3 ⟨rfl, hw3⟩
        obtain rfl := hw3.symm
        go_wp2
        go_ret
        exact ⟨rfl, q1⟩
      | false =>
        rw [if_neg Bool.false_ne_true]
        go_enter Tryz.func24, Tryz.ntmps24
        go_wp2_with fail
        refine (l7Fault_any nr F n S V _ _ b _ H.out hr hn).mono ?_
        rw [HF.out]
        rintro e w1 ⟨rfl, q1⟩
        go_wp2_with fail
        refine (l1Fault_any key _).mono ?_
        rw [HK.out]
        rintro e w2 ⟨rfl, hw2⟩
        obtain rfl := hw2.symm
        go_wp2_with fail
        refine (l9Time_is now false HD.out _).mono ?_
        rintro e w3 ⟨rfl, hw3⟩
        obtain rfl := hw3.symm
        go_wp2
        go_ret
        exact ⟨rfl, q1⟩
    · rw [if_neg (fun h => h rfl), if_pos hz]
      have d : (k == 0) = false := beq_eq_false_iff_ne.2 hz
      have d' : (k != 0) = true := bne_iff_ne.2 hz
      clear hz
      go_enter Tryz.func24, Tryz.ntmps24
      go_wp2_with fail
      refine (l7Fault_any nr F n S V _ _ b _ H.out hr hn).mono ?_
      rw [HF.out]
      rintro e w1 ⟨rfl, q1⟩
      go_wp2_with fail
      refine (l1Fault_any key _).mono ?_
      rw [HK.out]
      rintro e w2 ⟨rfl, hw2⟩
      obtain rfl := hw2.symm
      go_wp2
      go_ret
      exact ⟨rfl, q1⟩
  · rw [if_pos hz]
    have d : (f == 0) = false := beq_eq_false_iff_ne.2 hz
    have d' : (f != 0) = true := bne_iff_ne.2 hz
    clear hz
    go_enter Tryz.func24, Tryz.ntmps24
    go_wp2_with fail
    refine (l7Fault_any nr F n S V _ _ b _ H.out hr hn).mono ?_
    rw [HF.out]
    rintro e w1 ⟨rfl, q1⟩
    go_wp2
    go_ret
    exact ⟨rfl, q1⟩
/-- A lock that runs out ahead of a time is taken back (3), else it stands (1). -/
def runsOut (u now r : Int) : Prop := (u < now ∧ r = 3) ∨ (¬ u < now ∧ r = 1)
theorem runsOut.get (u now : Int) : ∃ r, runsOut u now r := by
  by_cases h : u < now
  · exact ⟨3, Or.inl ⟨h, rfl⟩⟩
  · exact ⟨1, Or.inr ⟨h, rfl⟩⟩
/-- What becomes of a lock with a primary key P, a start s and an end u. -/
def FateOn (nr : Nat) (F : Nat → Int) (S : Nat → Sto) (P s u now r : Int) : Prop :=
  ∃ p st, AtR nr F P p ∧ StatIs (S p).nl (S p).l (S p).nw (S p).k P s st ∧
    ((st = 2 ∧ r = 2) ∨ (st = 3 ∧ r = 3) ∨ (st = 1 ∧ ∃ q, firstL (S p).l (S p).nl P q ∧ runsOut ((S p).l (q * 5 + 4)) now r) ∨ (st = 0 ∧ runsOut u now r))
/-- What becomes of a key's lock; 0: it has none. -/
def FateIs (nr : Nat) (F : Nat → Int) (S : Nat → Sto) (key now r : Int) : Prop :=
  ∃ j, AtR nr F key j ∧ (((∀ i, i < (S j).nl → ¬ lockIs (S j).l key i) ∧ r = 0) ∨
    ∃ i, firstL (S j).l (S j).nl key i ∧ FateOn nr F S ((S j).l (i * 5 + 3)) ((S j).l (i * 5 + 1)) ((S j).l (i * 5 + 4)) now r)
theorem Stos.o {w : World} {n : Nat} {S : Nat → Sto} {V : Nat → Nat → Value} {g o c1 : Nat} (h : Stos w 0 n S V (.slice (some ⟨g, o, none⟩) n c1)) {j : Nat} (hj : j < n) : LiesO w g (o + j * 3) (S j) (V j 0) (V j 1) (V j 2) := by
  obtain ⟨g', o', e, _, _, b, s⟩ := h.at hj
  simp only [Option.some.injEq, Addr.mk.injEq] at e
  obtain ⟨rfl, rfl, _⟩ := e
  exact ⟨b, s⟩
/-- What the region that looks the primary's lock up reads. -/
def FatE (g a bl : Nat) (v : Value) (P : Int) (gq pq : Nat) (u : Int) (x : World) : Prop := x.cell? ⟨g, a, none⟩ = some v ∧ x.cell? ⟨bl, 3, none⟩ = some (.int .i64 P) ∧ x.cell? ⟨gq, pq, none⟩ = some (.int .i64 u)
set_option maxRecDepth 100000 in
set_option maxHeartbeats 8000000 in
theorem l9Fate_is (nr : Nat) (F : Nat → Int) (n : Nat) (S : Nat → Sto) (V : Nat → Nat → Value) (vr vs : Value) (key now r : Int) (b : Nat) (w : World) (h : LiesG w b nr F n S V vr vs) (hr : nr ≤ 6) (hn : n = nr) (hs : ∀ i, i < n → (S i).nl ≤ 200 ∧ (S i).nw ≤ 200) (hA : FateIs nr F S key now r) :
    Calls Tryz.prog 44 #[.pointer (some ⟨b, 0, none⟩), .int .i64 key, .int .i64 now] w fun e w' => e = .returned (.int .i64 r) ∧ Below w.heap.size w w' := by
  obtain ⟨j, hj, hA⟩ := hA
  have hjn : j < n := by rw [hn]; exact hj.1
  obtain ⟨a0, c0, a1, c1, rfl, rfl⟩ := h.2.form
  obtain ⟨g, o, rfl, _, hg, _, _⟩ := h.2.2.at hjn
  have H : Hid (LiesG w b nr F n S V (.slice a0 nr c0) (.slice (some ⟨g, o, none⟩) n c1)) := h
  have HJ : Hid (AtR nr F key j) := hj
  clear h hj
  rcases hA with ⟨hno, rfl⟩ | ⟨i, hi, p, st, hp, hst, hA⟩
  · have HL : Hid (FirstAt (lockIs (S j).l key) (S j).nl (-1)) := Or.inl ⟨rfl, hno⟩
    clear hno
    go_enter Tryz.func44, Tryz.ntmps44
    go_wp2_with fail
    refine (l7For_is nr F n S V _ _ g o c1 key j b _ H.out hr HJ.out hjn).mono ?_
    rintro e w1 ⟨rfl, hw1⟩
    have Q1 : Hid (Below w.heap.size w w1) := by rw [hw1]; exact below_dr (Below.refl _ _) 1
    have L1 : Hid (LiesO w1 g (o + j * 3) (S j) (V j 0) (V j 1) (V j 2)) := (H.out.later Q1.out).2.2.o hjn
    clear hw1
    go_wp2_with fail
    refine (l2Lock_isO (S j) g (o + j * 3) _ _ _ key (-1) _ L1.out (hs j hjn).1 HL.out).mono ?_
    rintro e w2 ⟨rfl, hw2⟩
    obtain rfl := hw2.symm
    go_wp2
    go_ret
    exact ⟨rfl, Q1.out⟩
  · have HL : Hid (FirstAt (lockIs (S j).l key) (S j).nl i) := Or.inr ⟨i, hi.1, rfl, hi.2.1, hi.2.2⟩
    have hin := hi.1
    have hii : (i : Int) < ((S j).nl : Int) := by omega
    have hpn : p < n := by rw [hn]; exact hp.1
    obtain ⟨n0, N0⟩ : ∃ x, (S j).l (i * 5) = x := ⟨_, rfl⟩
    obtain ⟨n1, N1⟩ : ∃ x, (S j).l (i * 5 + 1) = x := ⟨_, rfl⟩
    obtain ⟨n2, N2⟩ : ∃ x, (S j).l (i * 5 + 2) = x := ⟨_, rfl⟩
    obtain ⟨n3, N3⟩ : ∃ x, (S j).l (i * 5 + 3) = x := ⟨_, rfl⟩
    obtain ⟨n4, N4⟩ : ∃ x, (S j).l (i * 5 + 4) = x := ⟨_, rfl⟩
    rw [N3] at hp
    rw [N3, N1] at hst
    rw [N3, N4] at hA
    have HP : Hid (AtR nr F n3 p) := hp
    have HST : Hid (StatIs (S p).nl (S p).l (S p).nw (S p).k n3 n1 st) := hst
    clear hi hp hst
    go_enter Tryz.func44, Tryz.ntmps44
    go_wp2_with fail
    refine (l7For_is nr F n S V _ _ g o c1 key j b _ H.out hr HJ.out hjn).mono ?_
    rintro e w1 ⟨rfl, hw1⟩
    have Q1 : Hid (Below w.heap.size w w1) := by rw [hw1]; exact below_dr (Below.refl _ _) 1
    have L1 : Hid (LiesO w1 g (o + j * 3) (S j) (V j 0) (V j 1) (V j 2)) := (H.out.later Q1.out).2.2.o hjn
    clear hw1
    go_wp2_with fail
    refine (l2Lock_isO (S j) g (o + j * 3) _ _ _ key i _ L1.out (hs j hjn).1 HL.out).mono ?_
    rintro e w2 ⟨rfl, hw2⟩
    obtain rfl := hw2.symm
    obtain ⟨i0, d0, i1, d1, i2, d2, e0, e1, e2⟩ := L1.out.2.form
    have p1 := L1.out.1.2.1
    rw [e1] at p1
    have R1 := L1.out.2.2.1
    rw [e1] at R1
    obtain ⟨gl, ol, rfl, _, hgl, x0, x1, x2, x3, x4⟩ := R1.at5 hin
    rw [N0] at x0
    rw [N1] at x1
    rw [N2] at x2
    rw [N3] at x3
    rw [N4] at x4
    have Q2 : Hid (Below w.heap.size w (w1.alloc (.cells #[.int .i64 n0, .int .i64 n1, .int .i64 n2, .int .i64 n3, .int .i64 n4] 96))) := Q1.out.alloc Q1.out.size _
    have hg1 : g < w1.heap.size := Nat.lt_of_lt_of_le hg Q1.out.size
    clear e0 e1 e2 R1 N0 N1 N2 N3 N4
    go_wp2_with fail
    refine (l7For_is nr F n S V _ _ g o c1 n3 p b _ (H.out.later Q2.out) hr HP.out hpn).mono ?_
    rintro e w3 ⟨rfl, hw3⟩
    have Q3 : Hid (Below w.heap.size w w3) := by rw [hw3]; exact below_dr Q2.out 1
    have y1 : w3.cell? ⟨w1.heap.size, 1, none⟩ = some (.int .i64 n1) := by rw [hw3]; exact World.cell?_alloc_mark w1 _ _ _ 1
    have y3 : w3.cell? ⟨w1.heap.size, 3, none⟩ = some (.int .i64 n3) := by rw [hw3]; exact World.cell?_alloc_mark w1 _ _ _ 3
    have y4 : w3.cell? ⟨w1.heap.size, 4, none⟩ = some (.int .i64 n4) := by rw [hw3]; exact World.cell?_alloc_mark w1 _ _ _ 4
    have LP : Hid (LiesO w3 g (o + p * 3) (S p) (V p 0) (V p 1) (V p 2)) := (H.out.later Q3.out).2.2.o hpn
    clear hw3 p1 x0 x1 x2 x3 x4
    rcases hA with ⟨rfl, rfl⟩ | ⟨rfl, rfl⟩ | ⟨rfl, q, hq, hu⟩ | ⟨rfl, hu⟩
    · obtain ⟨st, hst⟩ : ∃ st : Int, st = 2 := ⟨_, rfl⟩
      rw [← hst] at HST
      go_wp2_with fail
      refine (l4Status_isO (S p) g (o + p * 3) _ _ _ n3 n1 st _ LP.out (hs p hpn).1 (hs p hpn).2 HST.out).mono ?_
      rintro e w4 ⟨rfl, hw4⟩
      obtain rfl := hw4.symm
      subst hst
      go_wp2
      go_ret
      exact ⟨rfl, Q3.out⟩
    · obtain ⟨st, hst⟩ : ∃ st : Int, st = 3 := ⟨_, rfl⟩
      rw [← hst] at HST
      go_wp2_with fail
      refine (l4Status_isO (S p) g (o + p * 3) _ _ _ n3 n1 st _ LP.out (hs p hpn).1 (hs p hpn).2 HST.out).mono ?_
      rintro e w4 ⟨rfl, hw4⟩
      obtain rfl := hw4.symm
      subst hst
      go_wp2
      go_ret
      exact ⟨rfl, Q3.out⟩
    · obtain ⟨st, hst⟩ : ∃ st : Int, st = 1 := ⟨_, rfl⟩
      rw [← hst] at HST
      obtain ⟨j0, k0, j1, k1, j2, k2, f0, f1, f2⟩ := LP.out.2.form
      have z1 := LP.out.1.2.1
      rw [f1] at z1
      have R1 := LP.out.2.2.1
      rw [f1] at R1
      obtain ⟨gq, oq, rfl, _, hgq, u0, u1, u2, u3, u4⟩ := R1.at5 hq.1
      obtain ⟨uu, hU⟩ : ∃ x, (S p).l (q * 5 + 4) = x := ⟨_, rfl⟩
      rw [hU] at u4 hu
      have HQ : Hid (FirstAt (lockIs (S p).l n3) (S p).nl q) := Or.inr ⟨q, hq.1, rfl, hq.2.1, hq.2.2⟩
      have hqq : (q : Int) < ((S p).nl : Int) := by have := hq.1; omega
      have hqn := hq.1
      clear f0 f1 f2 R1 hU hq u0 u1 u2 u3
      go_wp2_with fail
      refine (l4Status_isO (S p) g (o + p * 3) _ _ _ n3 n1 st _ LP.out (hs p hpn).1 (hs p hpn).2 HST.out).mono ?_
      rintro e w4 ⟨rfl, hw4⟩
      obtain rfl := hw4.symm
      subst hst
      go_wp2_with fail
      refine wp_region_held_drew (S := FatE g (o + p * 3 + 1) w1.heap.size (.slice (some ⟨gq, oq, none⟩) (S p).nl k1) n3 gq (oq + q * 5 + 4) uu) (by kernel_rfl) ⟨z1, y3, u4⟩ (fun hS => ?_)
      clear z1 y1 y3 y4 u4
      refine wpAnyH_take (i := 0) (v := ?_) rfl (by kernel_rfl) (by kernel_rfl) (by kernel_rfl) (fun _ _ _ h => h) (Or.inl ⟨by kernel_rfl, ?_⟩) hS ?_
      rotate_left
      · intro wx hx
        obtain ⟨hx0, hx1, hx2⟩ := hx
        go_simp
        try with_reducible rfl
      refine wpAnyH_take (i := 1) (v := ?_) rfl (by kernel_rfl) (by kernel_rfl) (by kernel_rfl) (fun _ _ _ h => h) (Or.inl ⟨by kernel_rfl, ?_⟩) hS ?_
      rotate_left
      · intro wx hx
        obtain ⟨hx0, hx1, hx2⟩ := hx
        go_simp
        try with_reducible rfl
      refine wpAnyH_take (i := 2) (v := ?_) rfl (by kernel_rfl) (by kernel_rfl) (by kernel_rfl) (fun _ _ _ h => h) (Or.inl ⟨by kernel_rfl, ?_⟩) hS ?_
      rotate_left
      · intro wx hx
        obtain ⟨hx0, hx1, hx2⟩ := hx
        go_simp
        try with_reducible rfl
      refine wpAnyH_take (i := 3) (v := ?_) rfl (by kernel_rfl) (by kernel_rfl) (by kernel_rfl) (fun _ _ _ h => h) (Or.inl ⟨by kernel_rfl, ?_⟩) hS ?_
      rotate_left
      · intro wx hx
        obtain ⟨hx0, hx1, hx2⟩ := hx
        go_simp
        try with_reducible rfl
      refine wpAnyH_take (i := 4) (v := ?_) rfl (by kernel_rfl) (by kernel_rfl) (by kernel_rfl) (fun _ _ _ h => h) (Or.inl ⟨by kernel_rfl, ?_⟩) hS ?_
      rotate_left
      · intro wx hx
        obtain ⟨hx0, hx1, hx2⟩ := hx
        go_simp
        try with_reducible rfl
      refine wpAnyH_take (i := 5) (v := ?_) rfl (by kernel_rfl) (by kernel_rfl) (by kernel_rfl) (fun _ _ _ h => h) (Or.inl ⟨by kernel_rfl, ?_⟩) hS ?_
      rotate_left
      · intro wx hx
        obtain ⟨hx0, hx1, hx2⟩ := hx
        go_simp
        try with_reducible rfl
      refine wpAnyH_take (i := 6) (v := ?_) rfl (by kernel_rfl) (by kernel_rfl) (by kernel_rfl) (fun _ _ _ h => h) (Or.inl ⟨by kernel_rfl, ?_⟩) hS ?_
      rotate_left
      · intro wx hx
        obtain ⟨hx0, hx1, hx2⟩ := hx
        go_simp
        try with_reducible rfl
      refine wpAnyH_ready (rs := [7]) (by kernel_rfl) (by simp) ?_
      refine AllReadyH.cons rfl (fun K hK => ?_) AllReadyH.nil
      go_simp
      go_wp2_with fail
      refine (l2Lock_isO (S p) g (o + p * 3) _ _ _ n3 q _ (LP.out.later (below_dr (Below.refl _ _) 1)) (hs p hpn).1 HQ.out).mono ?_
      rintro e w5 ⟨rfl, hw5⟩
      obtain rfl := hw5.symm
      go_wp2_with fail
      refine hK.out _ _ hS (fun hS => ?_)
      clear hK K
      refine wpAnyH_take (i := 8) (v := ?_) rfl (by kernel_rfl) (by kernel_rfl) (by kernel_rfl) (fun _ _ _ h => h) (Or.inl ⟨by kernel_rfl, ?_⟩) hS ?_
      rotate_left
      · intro wx hx
        obtain ⟨hx0, hx1, hx2⟩ := hx
        go_simp
        try with_reducible rfl
      refine wpAnyH_take (i := 9) (v := ?_) rfl (by kernel_rfl) (by kernel_rfl) (by kernel_rfl) (fun _ _ _ h => h) (Or.inl ⟨by kernel_rfl, ?_⟩) hS ?_
      rotate_left
      · intro wx hx
        obtain ⟨hx0, hx1, hx2⟩ := hx
        go_simp
        try with_reducible rfl
      refine wpAnyH_take (i := 10) (v := ?_) rfl (by kernel_rfl) (by kernel_rfl) (by kernel_rfl) (fun _ _ _ h => h) (Or.inl ⟨by kernel_rfl, ?_⟩) hS ?_
      rotate_left
      · intro wx hx
        obtain ⟨hx0, hx1, hx2⟩ := hx
        go_simp
        try with_reducible rfl
      refine wpAnyH_take (i := 11) (v := ?_) rfl (by kernel_rfl) (by kernel_rfl) (by kernel_rfl) (fun _ _ _ h => h) (Or.inl ⟨by kernel_rfl, ?_⟩) hS ?_
      rotate_left
      · intro wx hx
        obtain ⟨hx0, hx1, hx2⟩ := hx
        go_simp
        try with_reducible rfl
      refine wpAnyH_done (by kernel_rfl) ?_ _
      clear hS
      go_simp
      rcases hu with ⟨hu, rfl⟩ | ⟨hu, rfl⟩
      · have dd : decide (uu < now) = true := decide_eq_true hu
        clear hu
        go_wp2
        go_ret
        exact ⟨rfl, below_dr Q3.out 1⟩
      · have dd : decide (uu < now) = false := decide_eq_false hu
        clear hu
        go_wp2
        go_ret
        exact ⟨rfl, below_dr Q3.out 1⟩
    · obtain ⟨st, hst⟩ : ∃ st : Int, st = 0 := ⟨_, rfl⟩
      rw [← hst] at HST
      rcases hu with ⟨hu, rfl⟩ | ⟨hu, rfl⟩
      · have dd : decide (n4 < now) = true := decide_eq_true hu
        clear hu
        go_wp2_with fail
        refine (l4Status_isO (S p) g (o + p * 3) _ _ _ n3 n1 st _ LP.out (hs p hpn).1 (hs p hpn).2 HST.out).mono ?_
        rintro e w4 ⟨rfl, hw4⟩
        obtain rfl := hw4.symm
        subst hst
        go_wp2
        go_ret
        exact ⟨rfl, Q3.out⟩
      · have dd : decide (n4 < now) = false := decide_eq_false hu
        clear hu
        go_wp2_with fail
        refine (l4Status_isO (S p) g (o + p * 3) _ _ _ n3 n1 st _ LP.out (hs p hpn).1 (hs p hpn).2 HST.out).mono ?_
        rintro e w4 ⟨rfl, hw4⟩
        obtain rfl := hw4.symm
        subst hst
        go_wp2
        go_ret
        exact ⟨rfl, Q3.out⟩
end

section
open Go.RowKit
-- Own text. Chapter 9: what FateOf answers; the model's.
theorem askG_zero {nr : Nat} {F : Nat → Int} {n : Nat} {S : Nat → Sto} {key now : Int} (h : askG nr F n S key now = 0) : groupsF nr F n S = 0 ∧ faultOf key = 0 ∧ 0 ≤ now ∧ now ≤ 100000 := by
  unfold askG at h
  by_cases h1 : groupsF nr F n S = 0
  · rw [if_neg (fun q => q h1)] at h
    by_cases h2 : faultOf key = 0
    · rw [if_neg (fun q => q h2)] at h
      by_cases h3 : 0 ≤ now ∧ now ≤ 100000
      · exact ⟨h1, h2, h3⟩
      · rw [if_neg h3] at h; exact absurd h (by decide)
    · rw [if_pos h2] at h; exact absurd h h2
  · rw [if_pos h1] at h; exact absurd h h1
theorem primary_ok {S : Sto} (h : storeF S = 0) {i : Nat} (hi : i < S.nl) : faultOf (S.l (i * 5 + 3)) = 0 := by
  have z := scan_zero (storeF_zero h).2.2.1 i hi
  unfold lockF at z
  repeat' split at z
  all_goals first | exact absurd z (by decide) | contradiction | skip
  all_goals simp_all
theorem FateIs.get {nr : Nat} {F : Nat → Int} {n : Nat} {S : Nat → Sto} {key : Int} (hz : groupsF nr F n S = 0) (hk : faultOf key = 0) (now : Int) : ∃ r, FateIs nr F S key now r := by
  have Z := groupsF_zero hz
  obtain ⟨j, hj⟩ := Z.1.at (key := key) (faultOf_zero hk).2
  have hjn : j < n := by rw [Z.2.1]; exact hj.1
  rcases first_or (S j).l (S j).nl key with hno | ⟨i, hi⟩
  · exact ⟨0, j, hj, Or.inl ⟨hno, rfl⟩⟩
  · obtain ⟨p, hp⟩ := Z.1.at (key := (S j).l (i * 5 + 3)) (faultOf_zero (primary_ok (Z.2.2.1 j hjn).1 hi.1)).2
    obtain ⟨st, hst⟩ := StatIs.get (S p).nl (S p).l (S p).nw (S p).k ((S j).l (i * 5 + 3)) ((S j).l (i * 5 + 1))
    have fin : ∀ r, ((st = 2 ∧ r = 2) ∨ (st = 3 ∧ r = 3) ∨ (st = 1 ∧ ∃ q, firstL (S p).l (S p).nl ((S j).l (i * 5 + 3)) q ∧ runsOut ((S p).l (q * 5 + 4)) now r) ∨ (st = 0 ∧ runsOut ((S j).l (i * 5 + 4)) now r)) → ∃ r, FateIs nr F S key now r := fun r h => ⟨r, j, hj, Or.inr ⟨i, hi, p, st, hp, hst, h⟩⟩
    rcases hst with ⟨_, _, ⟨_, e⟩ | ⟨_, e⟩⟩ | ⟨_, ⟨q, hq, ⟨_, e⟩ | ⟨_, e⟩⟩ | ⟨_, e⟩⟩
    · exact fin 3 (Or.inr (Or.inl ⟨e, rfl⟩))
    · exact fin 2 (Or.inl ⟨e, rfl⟩)
    · obtain ⟨r, hr⟩ := runsOut.get ((S p).l (q * 5 + 4)) now
      exact fin r (Or.inr (Or.inr (Or.inl ⟨e, q, hq, hr⟩)))
    · obtain ⟨r, hr⟩ := runsOut.get ((S j).l (i * 5 + 4)) now
      exact fin r (Or.inr (Or.inr (Or.inr ⟨e, hr⟩)))
    · obtain ⟨r, hr⟩ := runsOut.get ((S j).l (i * 5 + 4)) now
      exact fin r (Or.inr (Or.inr (Or.inr ⟨e, hr⟩)))
/-- What FateOf answers: a code and a value. -/
def FateAns (nr : Nat) (F : Nat → Int) (n : Nat) (S : Nat → Sto) (key now c v : Int) : Prop :=
  (askG nr F n S key now ≠ 0 ∧ c = askG nr F n S key now ∧ v = 0) ∨
  (askG nr F n S key now = 0 ∧ ∃ r, FateIs nr F S key now r ∧ ((r = 0 ∧ c = 4 ∧ v = 0) ∨ (r ≠ 0 ∧ c = 0 ∧ v = r)))
theorem FateAns.get (nr : Nat) (F : Nat → Int) (n : Nat) (S : Nat → Sto) (key now : Int) : ∃ c v, FateAns nr F n S key now c v := by
  by_cases hz : askG nr F n S key now = 0
  · have Z := askG_zero hz
    obtain ⟨r, hr⟩ := FateIs.get Z.1 Z.2.1 now
    by_cases h0 : r = 0
    · exact ⟨4, 0, Or.inr ⟨hz, r, hr, Or.inl ⟨h0, rfl, rfl⟩⟩⟩
    · exact ⟨0, r, Or.inr ⟨hz, r, hr, Or.inr ⟨h0, rfl, rfl⟩⟩⟩
  · exact ⟨_, 0, Or.inl ⟨hz, rfl, rfl⟩⟩
/-- A call over groups, the groups boxed, its answer a code and a value. -/
def CallGI (w : World) (nr : Nat) (F : Nat → Int) (n : Nat) (S : Nat → Sto) (V : Nat → Nat → Value) (B : Nat) (vr vs : Value) (x : World) : Prop := Blk2 x w.heap.size vr vs ∧ Blk2 x (w.heap.size + 1) (.int .i64 0) (.int .i64 0) ∧ Grs x B nr F n S V vr vs ∧ Below w.heap.size w x
theorem CallGI.new {w : World} {nr : Nat} {F : Nat → Int} {n : Nat} {S : Nat → Sto} {V : Nat → Nat → Value} {B : Nat} {vr vs : Value} (h : Grs w B nr F n S V vr vs) (t t' : TypeId) : CallGI w nr F n S V B vr vs ((w.alloc (.cells #[vr, vs] t)).alloc (.cells #[.int .i64 0, .int .i64 0] t')) := by
  refine ⟨(Blk2.new _ _ _ _).alloc _, ?_, (h.alloc _).alloc _, (below_alloc _ _).alloc (by simp) _⟩
  have := Blk2.new (w.alloc (.cells #[vr, vs] t)) (.int .i64 0) (.int .i64 0) t'
  rwa [World.size_alloc] at this
theorem CallGI.later {w x x' : World} {nr : Nat} {F : Nat → Int} {n : Nat} {S : Nat → Sto} {V : Nat → Nat → Value} {B : Nat} {vr vs : Value} (h : CallGI w nr F n S V B vr vs x) (hb : Below x.heap.size x x') : CallGI w nr F n S V B vr vs x' := ⟨h.1.later hb, h.2.1.later hb, h.2.2.1.later hb, h.2.2.2.trans (hb.mono h.2.2.2.size)⟩
set_option maxRecDepth 100000 in
set_option maxHeartbeats 4000000 in
theorem specFateOf_is (nr : Nat) (F : Nat → Int) (n : Nat) (S : Nat → Sto) (V : Nat → Nat → Value) (vr vs : Value) (key now c v : Int) (B : Nat) (w : World) (h : Grs w B nr F n S V vr vs) (hr : nr ≤ 9223372036854775807) (hn : n ≤ 9223372036854775807) (hA : FateAns nr F n S key now c v) :
    Calls Tryz.prog 14 #[.agg #[vr, vs], .int .i64 key, .int .i64 now] w (ResInt w c v) := by
  obtain ⟨a0, c0, a1, c1, rfl, rfl⟩ := h.form
  have HE : Hid (CallGI w nr F n S V B (.slice a0 nr c0) (.slice a1 n c1) ((w.alloc (.cells #[.slice a0 nr c0, .slice a1 n c1] 27)).alloc (.cells #[.int .i64 0, .int .i64 0] 53))) := CallGI.new h _ _
  clear h
  unfold ResInt
  rcases hA with ⟨hz, hc, rfl⟩ | ⟨hz, r, hR, hA⟩
  · have HF : Hid (askG nr F n S key now = c) := hc.symm
    have d : (c == 0) = false := beq_eq_false_iff_ne.2 (by rw [hc]; exact hz)
    have d' : (c != 0) = true := bne_iff_ne.2 (by rw [hc]; exact hz)
    clear hz hc
    go_enter Tryz.func14, Tryz.ntmps14
    go_wp2_with fail
    refine (l9Asked_is nr F n S V _ _ key now w.heap.size _ ⟨HE.out.1.1, HE.out.2.2.1.mono (Nat.zero_le _)⟩ hr hn).mono ?_
    rw [HF.out]
    rintro e w1 ⟨rfl, q1⟩
    have HE : Hid (CallGI w nr F n S V B (.slice a0 nr c0) (.slice a1 n c1) w1) := HE.out.later q1
    clear q1
    obtain ⟨_, ⟨⟨r0, r1⟩, f0, f1⟩, _⟩ := HE.out
    go_wp2
    exact bodyPost_ret (v := .agg #[.int .i64 c, .int .i64 0]) (by simp [results, Tryz.results14, go_sem, r0, r1]) rfl ⟨rfl, (HE.out.2.2.2.setCell (Nat.le_succ _) _).setCell (Nat.le_succ _) _⟩
  · have HF : Hid (askG nr F n S key now = 0) := hz
    have HR : Hid (FateIs nr F S key now r) := hR
    have Z := groupsF_zero (askG_zero hz).1
    have HZ : Hid (nr ≤ 6 ∧ n = nr ∧ ∀ i, i < n → (S i).nl ≤ 200 ∧ (S i).nw ≤ 200) := ⟨Z.1.n6, Z.2.1, fun i hi => (storeF_zero (Z.2.2.1 i hi).1).1.2⟩
    clear hz hR Z
    rcases hA with ⟨rfl, rfl, rfl⟩ | ⟨h0, rfl, rfl⟩
    · obtain ⟨r, hr0⟩ : ∃ r : Int, r = 0 := ⟨_, rfl⟩
      rw [← hr0] at HR
      go_enter Tryz.func14, Tryz.ntmps14
      go_wp2_with fail
      refine (l9Asked_is nr F n S V _ _ key now w.heap.size _ ⟨HE.out.1.1, HE.out.2.2.1.mono (Nat.zero_le _)⟩ hr hn).mono ?_
      rw [HF.out]
      rintro e w1 ⟨rfl, q1⟩
      have HE : Hid (CallGI w nr F n S V B (.slice a0 nr c0) (.slice a1 n c1) w1) := HE.out.later q1
      clear q1
      obtain ⟨_, ⟨⟨r0, r1⟩, f0, f1⟩, _⟩ := HE.out
      go_wp2_with fail
      refine (l9Fate_is nr F n S V _ _ key now r w.heap.size _ ⟨HE.out.1.1, HE.out.2.2.1.mono (Nat.zero_le _)⟩ HZ.out.1 HZ.out.2.1 HZ.out.2.2 HR.out).mono ?_
      rintro e w2 ⟨rfl, q2⟩
      have HE : Hid (CallGI w nr F n S V B (.slice a0 nr c0) (.slice a1 n c1) w2) := HE.out.later q2
      clear q2 r0 r1 f0 f1
      obtain ⟨_, ⟨⟨r0, r1⟩, f0, f1⟩, _⟩ := HE.out
      subst hr0
      go_wp2
      exact bodyPost_ret (v := .agg #[.int .i64 4, .int .i64 0]) (by simp [results, Tryz.results14, go_sem, r0, r1]) rfl ⟨rfl, (HE.out.2.2.2.setCell (Nat.le_succ _) _).setCell (Nat.le_succ _) _⟩
    · have d : (v == 0) = false := beq_eq_false_iff_ne.2 h0
      have d' : (v != 0) = true := bne_iff_ne.2 h0
      obtain ⟨r, hr0⟩ : ∃ r : Int, r = v := ⟨_, rfl⟩
      rw [← hr0] at HR
      clear h0
      go_enter Tryz.func14, Tryz.ntmps14
      go_wp2_with fail
      refine (l9Asked_is nr F n S V _ _ key now w.heap.size _ ⟨HE.out.1.1, HE.out.2.2.1.mono (Nat.zero_le _)⟩ hr hn).mono ?_
      rw [HF.out]
      rintro e w1 ⟨rfl, q1⟩
      have HE : Hid (CallGI w nr F n S V B (.slice a0 nr c0) (.slice a1 n c1) w1) := HE.out.later q1
      clear q1
      obtain ⟨_, ⟨⟨r0, r1⟩, f0, f1⟩, _⟩ := HE.out
      go_wp2_with fail
      refine (l9Fate_is nr F n S V _ _ key now r w.heap.size _ ⟨HE.out.1.1, HE.out.2.2.1.mono (Nat.zero_le _)⟩ HZ.out.1 HZ.out.2.1 HZ.out.2.2 HR.out).mono ?_
      rintro e w2 ⟨rfl, q2⟩
      have HE : Hid (CallGI w nr F n S V B (.slice a0 nr c0) (.slice a1 n c1) w2) := HE.out.later q2
      clear q2 r0 r1 f0 f1
      obtain ⟨_, ⟨⟨r0, r1⟩, f0, f1⟩, _⟩ := HE.out
      subst hr0
      go_wp2
      exact bodyPost_ret (v := .agg #[.int .i64 0, .int .i64 r]) (by simp [results, Tryz.results14, go_sem, r0, r1]) rfl ⟨rfl, (HE.out.2.2.2.setCell (Nat.le_succ _) _).setCell (Nat.le_succ _) _⟩
end
end Go.Proofs.YtpfmbfmlpoibeaaGreat
