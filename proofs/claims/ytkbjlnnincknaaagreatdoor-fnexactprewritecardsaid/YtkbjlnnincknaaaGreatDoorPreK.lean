/-
  Own text, merged of PreJ, PreW, PreK.
-/
import Derived.Test.YtkbjlnnincknaaaGreatDoorLawT
import Derived.Test.YtkbjlnnincknaaaGreatDoorAsB
import Derived.Test.YtkbjlnnincknaaaGreatDoorPreI
namespace Go.Proofs.YtkbjlnnincknaaaGreatDoor
section
open Go.RowKit Go.Maps Go.Lib
-- Own text. Prewrite: what the model's and the program's answer, the same code and the same store.
theorem l_next {l : Nat → Int} {i : Nat} (h : lockF l (i + 1) = 0) : l (i * 5) < l ((i + 1) * 5) := by
  unfold lockF at h
  split at h
  · rename_i q; exact absurd h q
  split at h
  · rename_i q; exact absurd h q
  split at h
  · exact absurd h (by decide)
  split at h
  · exact absurd h (by decide)
  · rename_i q
    rw [Nat.add_sub_cancel] at q
    have : ¬ ¬ l (i * 5) < l ((i + 1) * 5) := fun e => q ⟨Nat.succ_pos _, e⟩
    exact Classical.not_not.1 this
theorem l_rise {S : Sto} (h : scan (lockF S.l) S.nl = 0) : ∀ j, j < S.nl → ∀ i, i < j → S.l (i * 5) < S.l (j * 5)
  | 0, _, i, hi => absurd hi (Nat.not_lt_zero i)
  | j + 1, hj, i, hi => by
    have h1 := l_next (scan_zero h (j + 1) hj)
    rcases Nat.lt_or_ge i j with q | q
    · have := l_rise h j (by omega) i q
      omega
    · obtain rfl : i = j := by omega
      exact h1
theorem l_mono {S : Sto} (h : scan (lockF S.l) S.nl = 0) (x : Int) : ∀ i j, i ≤ j → j < S.nl → aheadL S.l x j → aheadL S.l x i := fun i j hij hj ha => by
  rcases Nat.eq_or_lt_of_le hij with rfl | hlt
  · exact ha
  · have := l_rise h j hj i hlt
    unfold aheadL at *
    omega
/-- What saying comes to on a store without a fault: a code and a store. -/
def PreRes (S : Sto) (a s kd pr un va r : Int) (R : Sto) : Prop :=
  (lateP S.k S.nw a s ∧ r = 8 ∧ R = emptyS) ∨
  (¬ lateP S.k S.nw a s ∧ ∃ j : Nat, FirstAt (lockIs S.l a) S.nl j ∧ S.l (j * 5 + 1) = s ∧ r = 0 ∧ R = S) ∨
  (¬ lateP S.k S.nw a s ∧ ∃ j : Nat, FirstAt (lockIs S.l a) S.nl j ∧ S.l (j * 5 + 1) ≠ s ∧ r = 7 ∧ R = emptyS) ∨
  (¬ lateP S.k S.nw a s ∧ FirstAt (lockIs S.l a) S.nl (-1) ∧ ∃ hv, FirstAt (cellIs S.c a s) S.nc hv ∧ (200 ≤ S.nl ∨ kd = 1 ∧ hv = -1 ∧ 200 ≤ S.nc) ∧ r = 2 ∧ R = emptyS) ∨
  (¬ lateP S.k S.nw a s ∧ FirstAt (lockIs S.l a) S.nl (-1) ∧ S.nl < 200 ∧ kd ≠ 1 ∧ ∃ hv k, FirstAt (cellIs S.c a s) S.nc hv ∧ placeAt (aheadL S.l a) S.nl k ∧ r = 0 ∧ R = lockS S k a s kd pr un) ∨
  (¬ lateP S.k S.nw a s ∧ FirstAt (lockIs S.l a) S.nl (-1) ∧ S.nl < 200 ∧ kd = 1 ∧ FirstAt (cellIs S.c a s) S.nc (-1) ∧ S.nc < 200 ∧ ∃ k q, placeAt (aheadL S.l a) S.nl k ∧ placeAt (aheadC S.c a s) S.nc q ∧ r = 0 ∧ R = putS S k q a s pr un va) ∨
  (¬ lateP S.k S.nw a s ∧ FirstAt (lockIs S.l a) S.nl (-1) ∧ S.nl < 200 ∧ kd = 1 ∧ ∃ j k q : Nat, FirstAt (cellIs S.c a s) S.nc j ∧ placeAt (aheadL S.l a) S.nl k ∧ placeAt (aheadC (fun p => (unlC S.c a s S.nc).flatten.getD p 0) a s) (unlC S.c a s S.nc).length q ∧ r = 0 ∧ R = reputS S k q a s pr un va)
theorem notLate {S : Sto} {a s : Int} (h : ¬ lateP S.k S.nw a s) : FirstAt (writeIs S.k a s) S.nw (-1) ∧ ¬ newerP S.k S.nw a s := by
  refine ⟨?_, fun q => h (lateP_iff.2 (Or.inr q))⟩
  obtain ⟨i, hi⟩ := FirstAt.get (writeIs S.k a s) S.nw
  rcases hi with ⟨rfl, hn⟩ | ⟨i, hi, rfl, hp, hq⟩
  · exact Or.inl ⟨rfl, hn⟩
  · exact absurd (lateP_iff.2 (Or.inl ⟨i, first_w (Or.inr ⟨i, hi, rfl, hp, hq⟩)⟩)) h
theorem l3Pre_is (S : Sto) (b : Nat) (v0 v1 v2 : Value) (a s kd pr un va r : Int) (R : Sto) (w : World) (h : Lies w b S v0 v1 v2) (hz : storeF S = 0) (hA : PreRes S a s kd pr un va r R) :
    Calls Tryz.prog 21 #[.pointer (some ⟨b, 0, none⟩), .agg #[.int .i64 a, .int .i64 s, .int .i64 kd, .int .i64 pr, .int .i64 un], .int .i64 va] w (ResSto w r R) := by
  rcases hA with ⟨h1, rfl, rfl⟩ | ⟨h1, j, h2, h3, rfl, rfl⟩ | ⟨h1, j, h2, h3, rfl, rfl⟩ | ⟨h1, h2, hv, h3, h4, rfl, rfl⟩ | ⟨h1, h2, h3, h4, hv, k, h5, h6, rfl, rfl⟩ | ⟨h1, h2, h3, rfl, h5, h6, k, q, h7, h8, rfl, rfl⟩ | ⟨h1, h2, h3, rfl, j, k, q, h5, h7, h8, rfl, rfl⟩
  · obtain ⟨i, hi⟩ := FirstAt.get (writeIs S.k a s) S.nw
    rcases hi with ⟨rfl, hn⟩ | ⟨i, hi, rfl, hp, hq⟩
    · rcases lateP_iff.1 h1 with ⟨i, hi⟩ | hm
      · exact absurd hi.2.1 (hn i hi.1)
      · exact l3Pre_newer S b v0 v1 v2 a s kd pr un va w h hz (Or.inl ⟨rfl, hn⟩) hm
    · exact l3Pre_said S b v0 v1 v2 a s kd pr un va i w h hz (Or.inr ⟨i, hi, rfl, hp, hq⟩)
  · exact l3Pre_same _ b v0 v1 v2 a s kd pr un va j w h hz (notLate h1).1 (notLate h1).2 h2 h3
  · exact l3Pre_locked S b v0 v1 v2 a s kd pr un va j w h hz (notLate h1).1 (notLate h1).2 h2 h3
  · exact l3Pre_many S b v0 v1 v2 a s kd pr un va hv w h hz (notLate h1).1 (notLate h1).2 h2 h3 h4
  · exact l3Pre_lock S b v0 v1 v2 a s kd pr un va hv k w h hz (notLate h1).1 (notLate h1).2 h2 h5 h3 h4 h6
  · exact l3Pre_put S b v0 v1 v2 a s pr un va k q w h hz (notLate h1).1 (notLate h1).2 h2 h5 h3 h6 h7 h8
  · exact l3Pre_reput S b v0 v1 v2 a s pr un va k q j w h hz (notLate h1).1 (notLate h1).2 h2 h5 h3 h7 h8
/-- What the columns' saying comes to. -/
def ColPre (x : World) (B b g : Nat) (r : Int) (R : Sto) (e : Ending) (w' : World) : Prop :=
  Below B x w' ∧ ((∃ kk, e = .returned (.iface 103 (.agg #[.int .i64 kk])) ∧ codeOf kk r ∧ R = emptyS) ∨
    (e = .returned .nilIface ∧ r = 0 ∧ (R.nl ≤ 200 ∧ R.nw ≤ 200) ∧ ∃ N m u1' u2', N ≤ 400 ∧ MapRow m R.nc R.c ∧ Cols w' B b N m R.nl R.l R.nw R.k g u1' u2'))
theorem cellM_no {S : Sto} {a s : Int} (h : FirstAt (cellIs S.c a s) S.nc (-1)) : cellM S S.nc a s = none := by
  cases e : cellM S S.nc a s with
  | none => rfl
  | some v =>
    obtain ⟨i, hi, h1, h2, _⟩ := cellM_some e
    rcases h with ⟨_, q⟩ | ⟨j, _, q, _⟩
    · exact absurd (⟨h1, h2⟩ : cellIs S.c a s i) (q i hi)
    · omega
theorem cellM_yes {S : Sto} (hz : scan (cellF S.c) S.nc = 0) {a s : Int} {j : Nat} (h : FirstAt (cellIs S.c a s) S.nc j) : (cellM S S.nc a s).isSome = true := by
  rw [cellM_at hz h.at.1 h.at.2.1]; rfl
theorem colPre_res (S : Sto) (hz : storeF S = 0) (B b g : Nat) (u1 u2 : Value) (a s kd pr un va r : Int) (wa : Wf a) (ws : Wf s) (wv : Wf va) (R : Sto) (x : World) (h : Cols x B b S.nc (cellM S S.nc) S.nl S.l S.nw S.k g u1 u2) (hA : ApartC b g u1 u2) (hR : PreRes S a s kd pr un va r R) :
    Calls Tryz.prog 33 #[.pointer (some ⟨b, 0, none⟩), .agg #[.int .i64 a, .int .i64 s, .int .i64 kd, .int .i64 pr, .int .i64 un], .int .i64 va] x (ColPre x B b g r R) := by
  have Z := storeF_zero hz
  obtain ⟨⟨hc, hl, hw⟩, zc, zl, zw, _⟩ := Z
  have hBx : B ≤ x.heap.size := Nat.le_trans h.1 (Nat.le_of_lt h.2.2.1.lt)
  have hk : ∀ i, i < S.nw → 1 ≤ S.k (i * 4 + 3) := fun i hi => (writeF_zero (scan_zero zw i hi)).2.2.2.2.2.1
  have nolock : FirstAt (lockIs S.l a) S.nl (-1) → ∀ i, i < S.nl → ¬ lockIs S.l a i := fun h i hi => by
    rcases h with ⟨_, q⟩ | ⟨j, _, q, _⟩
    · exact q i hi
    · omega
  rcases hR with ⟨h1, rfl, rfl⟩ | ⟨h1, j, h2, h3, rfl, rfl⟩ | ⟨h1, j, h2, h3, rfl, rfl⟩ | ⟨h1, h2, hv, h3, h4, rfl, rfl⟩ | ⟨h1, h2, h3, h4, hv, k, h5, h6, rfl, rfl⟩ | ⟨h1, h2, h3, rfl, h5, h6, k, q, h7, h8, rfl, rfl⟩ | ⟨h1, h2, h3, rfl, j, k, q, h5, h7, h8, rfl, rfl⟩
  · refine (colPre_late B b _ _ _ _ _ _ g u1 u2 a s kd pr un va x h hw hk h1).mono ?_
    rintro e w' ⟨rfl, hb⟩
    exact ⟨hb.mono hBx, Or.inl ⟨0, rfl, by unfold codeOf; decide, rfl⟩⟩
  · refine (colPre_held B b _ _ _ _ _ _ g u1 u2 a s kd pr un va x h hw hk hl h1 j h2.at _ rfl).mono ?_
    rintro e w' ⟨rfl, hb⟩
    rw [if_pos h3]
    exact ⟨hb.mono hBx, Or.inr ⟨rfl, rfl, ⟨hl, hw⟩, _, _, u1, u2, by omega, self_map zc, h.later hb⟩⟩
  · refine (colPre_held B b _ _ _ _ _ _ g u1 u2 a s kd pr un va x h hw hk hl h1 j h2.at _ rfl).mono ?_
    rintro e w' ⟨rfl, hb⟩
    rw [if_neg h3]
    exact ⟨hb.mono hBx, Or.inl ⟨1, rfl, by unfold codeOf; decide, rfl⟩⟩
  · refine (colPre_full B b _ _ _ _ _ _ g u1 u2 a s kd pr un va x h hw hk hl h1 (nolock h2) (fun y _ hy => ?_)).mono ?_
    · rcases h4 with q | ⟨q1, q2, q3⟩
      · exact hasRoom_full B b _ _ _ _ _ _ g u1 u2 a s kd pr un y hy wa ws S.nc S.c (self_map zc) _ rfl q
      · by_cases q : 200 ≤ S.nl
        · exact hasRoom_full B b _ _ _ _ _ _ g u1 u2 a s kd pr un y hy wa ws S.nc S.c (self_map zc) _ rfl q
        · subst q2
          refine (hasRoom_put B b _ _ _ _ _ _ g u1 u2 a s kd pr un y hy wa ws S.nc S.c (self_map zc) false (by rw [cellM_no h3]; rfl) (by omega) q1 rfl).mono ?_
          rintro e w' ⟨rfl, hb⟩
          exact ⟨by rw [decide_eq_false (by omega)], hb⟩
    rintro e w' ⟨rfl, hb⟩
    exact ⟨hb.mono hBx, Or.inl ⟨5, rfl, by unfold codeOf; decide, rfl⟩⟩
  · refine (colPre_done B b _ _ _ _ _ _ g u1 u2 a s kd pr un va wa ws wv x h hA (by omega) hw hk hl h1 (nolock h2) (l_mono zl a) (fun y _ hy => hasRoom_free B b _ _ _ _ _ _ g u1 u2 a s kd pr un y hy wa ws S.nc S.c (self_map zc) _ rfl h3 (Or.inl h4))).mono ?_
    rintro e w' ⟨rfl, ⟨q, v1, v2, hq, hC⟩, hb⟩
    obtain rfl : q = k := hq.one h6
    rw [if_neg h4] at hC
    exact ⟨hb, Or.inr ⟨rfl, rfl, ⟨h3, hw⟩, _, _, v1, v2, by omega, self_map zc, hC⟩⟩
  · refine (colPre_done B b _ _ _ _ _ _ g u1 u2 a s 1 pr un va wa ws wv x h hA (by omega) hw hk hl h1 (nolock h2) (l_mono zl a) (fun y _ hy => (hasRoom_put B b _ _ _ _ _ _ g u1 u2 a s 1 pr un y hy wa ws S.nc S.c (self_map zc) false (by rw [cellM_no h5]; rfl) h3 rfl rfl).mono (fun e w' ⟨h1, h2⟩ => ⟨by rw [h1, decide_eq_true h6], h2⟩))).mono ?_
    rintro e w' ⟨rfl, ⟨q', v1, v2, hq, hC⟩, hb⟩
    obtain rfl : q' = k := hq.one h7
    rw [if_pos rfl] at hC
    exact ⟨hb, Or.inr ⟨rfl, rfl, ⟨h3, hw⟩, _, _, v1, v2, by omega, (self_map zc).ins wa ws (cellM_no h5) h8, hC⟩⟩
  · refine (colPre_done B b _ _ _ _ _ _ g u1 u2 a s 1 pr un va wa ws wv x h hA (by omega) hw hk hl h1 (nolock h2) (l_mono zl a) (fun y _ hy => hasRoom_free B b _ _ _ _ _ _ g u1 u2 a s 1 pr un y hy wa ws S.nc S.c (self_map zc) true (cellM_yes zc h5) h3 (Or.inr rfl))).mono ?_
    rintro e w' ⟨rfl, ⟨q', v1, v2, hq, hC⟩, hb⟩
    obtain rfl : q' = k := hq.one h7
    rw [if_pos rfl] at hC
    have hm := ((roll_map zc a s).ins (v := va) wa ws (by unfold delM; rw [if_pos ⟨rfl, rfl⟩]) h8).congr (put_del (cellM S S.nc) a s va)
    exact ⟨hb, Or.inr ⟨rfl, rfl, ⟨h3, hw⟩, _, _, v1, v2, by omega, hm, hC⟩⟩
def kindOk (kd : Int) : Prop := 1 ≤ kd ∧ kd ≤ 3
def valOk (va : Int) : Prop := 0 ≤ va ∧ va ≤ 9999
def untOk (un : Int) : Prop := 0 ≤ un ∧ un ≤ 100000
def PreAns (S : Sto) (a s kd va pr un r : Int) (R : Sto) : Prop :=
  (askF S a ≠ 0 ∧ r = askF S a ∧ R = emptyS) ∨ (askF S a = 0 ∧ faultOf pr ≠ 0 ∧ r = faultOf pr ∧ R = emptyS) ∨
  (askF S a = 0 ∧ faultOf pr = 0 ∧ (¬ isT s ∨ isT s ∧ ¬ kindOk kd ∨ isT s ∧ kindOk kd ∧ ¬ valOk va ∨ isT s ∧ kindOk kd ∧ valOk va ∧ ¬ untOk un) ∧ r = 3 ∧ R = emptyS) ∨
  (askF S a = 0 ∧ faultOf pr = 0 ∧ (isT s ∧ kindOk kd ∧ valOk va ∧ untOk un) ∧ va ≠ 0 ∧ kd ≠ 1 ∧ r = 1 ∧ R = emptyS) ∨
  (askF S a = 0 ∧ faultOf pr = 0 ∧ (isT s ∧ kindOk kd ∧ valOk va ∧ untOk un) ∧ (va = 0 ∨ kd = 1) ∧ PreRes S a s kd pr un va r R)
set_option maxRecDepth 100000 in
set_option maxHeartbeats 8000000 in
theorem specPrewrite_is (S : Sto) (v0 v1 v2 : Value) (a s kd va pr un r : Int) (R : Sto) (B : Nat) (w : World) (h : St w B S v0 v1 v2) (hA : PreAns S a s kd va pr un r R) :
    Calls Tryz.prog 5 #[.agg #[v0, v1, v2], .int .i64 a, .int .i64 s, .int .i64 kd, .int .i64 va, .int .i64 pr, .int .i64 un] w (ResSto w r R) := by
  obtain ⟨a0, c0, a1, c1, a2, c2, rfl, rfl, rfl⟩ := h.form
  have HE : Hid (CallSto w B S (.slice a0 S.nc c0) (.slice a1 S.nl c1) (.slice a2 S.nw c2) ((w.alloc (.cells #[.slice a0 S.nc c0, .slice a1 S.nl c1, .slice a2 S.nw c2] 32)).alloc (.cells #[.int .i64 0, .slice none 0 0, .slice none 0 0, .slice none 0 0] 34))) := CallSto.new h _ _
  clear h
  unfold ResSto
  rcases hA with ⟨hz, rfl, rfl⟩ | ⟨hz, hp, rfl, rfl⟩ | ⟨hz, hp, ht, rfl, rfl⟩ | ⟨hz, hp, ht, hv, hk, rfl, rfl⟩ | ⟨hz, hp, ht, hv, hR⟩
  · obtain ⟨f, hf⟩ : ∃ f, askF S a = f := ⟨_, rfl⟩
    have HF : Hid (askF S a = f) := hf
    have hfn : (f == 0) = false := beq_eq_false_iff_ne.2 (by rw [← hf]; exact hz)
    have hfn' : (f != 0) = true := by rw [bne_iff_ne, ← hf]; exact hz
    rw [hf]
    clear hz hf
    go_enter Tryz.func5, Tryz.ntmps5
    go_wp2_with fail
    refine (asked_any S w.heap.size _ _ _ _ _ ⟨HE.out.1.1, HE.out.2.2.1.mono (Nat.zero_le _)⟩).mono ?_
    rw [HF.out]
    rintro e w1 ⟨rfl, q1⟩
    have HE : Hid (CallSto w B S (.slice a0 S.nc c0) (.slice a1 S.nl c1) (.slice a2 S.nw c2) w1) := HE.out.later q1
    obtain ⟨⟨⟨p0, p1, p2⟩, _⟩, ⟨⟨r0, r1, r2, r3⟩, f0, f1, f2, f3⟩, _⟩ := HE.out
    clear q1
    go_wp2_with fail
    refine (l3Bad_is f _).mono ?_
    rintro e w4 ⟨d0, e0, d1, e1, d2, e2, rfl, ⟨s3, f3', a3⟩, q4⟩
    have z3 : Hid (w.heap.size + 2 ≤ w1.heap.size) := HE.out.2.1.lt
    have S3 : Hid ((St w4 (w.heap.size + 2) emptyS (.slice d0 (emptyS).nc e0) (.slice d1 (emptyS).nl e1) (.slice d2 (emptyS).nw e2) ∧ FreeS w4 emptyS (.slice d0 (emptyS).nc e0) (.slice d1 (emptyS).nl e1) (.slice d2 (emptyS).nw e2)) ∧ ApartD emptyS (.slice d0 (emptyS).nc e0) (.slice d1 (emptyS).nl e1) (.slice d2 (emptyS).nw e2)) := ⟨⟨s3.mono z3.out, f3'⟩, a3⟩
    have HBW : Hid (Below w.heap.size w w4) := HE.out.2.2.2.trans (q4.mono HE.out.2.2.2.size)
    obtain ⟨⟨r0, r1, r2, r3⟩, f0, f1, f2, f3⟩ := HE.out.2.1.later q4
    clear s3 f3' a3 q4
    have hlo : (w.heap.size + 1 : Nat) < w.heap.size + 2 := Nat.lt_succ_self _
    go_wp2
    exact bodyPost_ret (v := .agg #[.int .i64 f, .slice d0 (emptyS).nc e0, .slice d1 (emptyS).nl e1, .slice d2 (emptyS).nw e2]) (by simp [results, Tryz.results5, go_sem, r0, r1, r2, r3]) rfl ⟨d0, e0, d1, e1, d2, e2, rfl, ⟨((((S3.out.1.1.far hlo _).far hlo _).far hlo _).far hlo _).mono (by omega), (((S3.out.1.2.far _ _).far _ _).far _ _).far _ _, S3.out.2⟩, (((HBW.out.setCell (Nat.le_succ _) _).setCell (Nat.le_succ _) _).setCell (Nat.le_succ _) _).setCell (Nat.le_succ _) _⟩
  · have HA : Hid (askF S a = 0) := hz
    obtain ⟨f, hf⟩ : ∃ f, faultOf pr = f := ⟨_, rfl⟩
    have HF : Hid (faultOf pr = f) := hf
    have hfn : (f == 0) = false := beq_eq_false_iff_ne.2 (by rw [← hf]; exact hp)
    have hfn' : (f != 0) = true := by rw [bne_iff_ne, ← hf]; exact hp
    rw [hf]
    clear hz hf hp
    go_enter Tryz.func5, Tryz.ntmps5
    go_wp2_with fail
    refine (asked_any S w.heap.size _ _ _ _ _ ⟨HE.out.1.1, HE.out.2.2.1.mono (Nat.zero_le _)⟩).mono ?_
    rw [HA.out]
    rintro e w1 ⟨rfl, q1⟩
    have HE : Hid (CallSto w B S (.slice a0 S.nc c0) (.slice a1 S.nl c1) (.slice a2 S.nw c2) w1) := HE.out.later q1
    obtain ⟨⟨⟨p0, p1, p2⟩, _⟩, ⟨⟨r0, r1, r2, r3⟩, f0, f1, f2, f3⟩, _⟩ := HE.out
    clear q1
    go_wp2_with fail
    refine (l1Fault_any pr _).mono ?_
    rw [HF.out]
    rintro e w2' ⟨rfl, rfl⟩
    go_wp2_with fail
    refine (l3Bad_is f _).mono ?_
    rintro e w4 ⟨d0, e0, d1, e1, d2, e2, rfl, ⟨s3, f3', a3⟩, q4⟩
    have z3 : Hid (w.heap.size + 2 ≤ w2'.heap.size) := HE.out.2.1.lt
    have S3 : Hid ((St w4 (w.heap.size + 2) emptyS (.slice d0 (emptyS).nc e0) (.slice d1 (emptyS).nl e1) (.slice d2 (emptyS).nw e2) ∧ FreeS w4 emptyS (.slice d0 (emptyS).nc e0) (.slice d1 (emptyS).nl e1) (.slice d2 (emptyS).nw e2)) ∧ ApartD emptyS (.slice d0 (emptyS).nc e0) (.slice d1 (emptyS).nl e1) (.slice d2 (emptyS).nw e2)) := ⟨⟨s3.mono z3.out, f3'⟩, a3⟩
    have HBW : Hid (Below w.heap.size w w4) := HE.out.2.2.2.trans (q4.mono HE.out.2.2.2.size)
    obtain ⟨⟨r0, r1, r2, r3⟩, f0, f1, f2, f3⟩ := HE.out.2.1.later q4
    clear s3 f3' a3 q4
    have hlo : (w.heap.size + 1 : Nat) < w.heap.size + 2 := Nat.lt_succ_self _
    go_wp2
    exact bodyPost_ret (v := .agg #[.int .i64 f, .slice d0 (emptyS).nc e0, .slice d1 (emptyS).nl e1, .slice d2 (emptyS).nw e2]) (by simp [results, Tryz.results5, go_sem, r0, r1, r2, r3]) rfl ⟨d0, e0, d1, e1, d2, e2, rfl, ⟨((((S3.out.1.1.far hlo _).far hlo _).far hlo _).far hlo _).mono (by omega), (((S3.out.1.2.far _ _).far _ _).far _ _).far _ _, S3.out.2⟩, (((HBW.out.setCell (Nat.le_succ _) _).setCell (Nat.le_succ _) _).setCell (Nat.le_succ _) _).setCell (Nat.le_succ _) _⟩
  · have HA : Hid (askF S a = 0) := hz
    have HF : Hid (faultOf pr = 0) := hp
    clear hz hp
    rcases ht with q1 | ⟨q1, q2⟩ | ⟨q1, q2, q3⟩ | ⟨q1, q2, q3, q4⟩
    · have H1 : Hid (decide (1 ≤ s ∧ s ≤ 100000) = false) := decide_eq_false q1
      clear q1
      go_enter Tryz.func5, Tryz.ntmps5
      go_wp2_with fail
      refine (asked_any S w.heap.size _ _ _ _ _ ⟨HE.out.1.1, HE.out.2.2.1.mono (Nat.zero_le _)⟩).mono ?_
      rw [HA.out]
      rintro e w1 ⟨rfl, q1⟩
      have HE : Hid (CallSto w B S (.slice a0 S.nc c0) (.slice a1 S.nl c1) (.slice a2 S.nw c2) w1) := HE.out.later q1
      obtain ⟨⟨⟨p0, p1, p2⟩, _⟩, ⟨⟨r0, r1, r2, r3⟩, f0, f1, f2, f3⟩, _⟩ := HE.out
      clear q1
      go_wp2_with fail
      refine (l1Fault_any pr _).mono ?_
      rw [HF.out]
      rintro e w2' ⟨rfl, rfl⟩
      go_wp2_with fail
      refine (l2Ts_is s false H1.out _).mono ?_
      rintro e w3' ⟨rfl, rfl⟩
      go_wp2_with fail
      refine (l3Bad_is 3 _).mono ?_
      rintro e w4 ⟨d0, e0, d1, e1, d2, e2, rfl, ⟨s3, f3', a3⟩, q4⟩
      have z3 : Hid (w.heap.size + 2 ≤ w3'.heap.size) := HE.out.2.1.lt
      have S3 : Hid ((St w4 (w.heap.size + 2) emptyS (.slice d0 (emptyS).nc e0) (.slice d1 (emptyS).nl e1) (.slice d2 (emptyS).nw e2) ∧ FreeS w4 emptyS (.slice d0 (emptyS).nc e0) (.slice d1 (emptyS).nl e1) (.slice d2 (emptyS).nw e2)) ∧ ApartD emptyS (.slice d0 (emptyS).nc e0) (.slice d1 (emptyS).nl e1) (.slice d2 (emptyS).nw e2)) := ⟨⟨s3.mono z3.out, f3'⟩, a3⟩
      have HBW : Hid (Below w.heap.size w w4) := HE.out.2.2.2.trans (q4.mono HE.out.2.2.2.size)
      obtain ⟨⟨r0, r1, r2, r3⟩, f0, f1, f2, f3⟩ := HE.out.2.1.later q4
      clear s3 f3' a3 q4
      have hlo : (w.heap.size + 1 : Nat) < w.heap.size + 2 := Nat.lt_succ_self _
      go_wp2
      exact bodyPost_ret (v := .agg #[.int .i64 3, .slice d0 (emptyS).nc e0, .slice d1 (emptyS).nl e1, .slice d2 (emptyS).nw e2]) (by simp [results, Tryz.results5, go_sem, r0, r1, r2, r3]) rfl ⟨d0, e0, d1, e1, d2, e2, rfl, ⟨((((S3.out.1.1.far hlo _).far hlo _).far hlo _).far hlo _).mono (by omega), (((S3.out.1.2.far _ _).far _ _).far _ _).far _ _, S3.out.2⟩, (((HBW.out.setCell (Nat.le_succ _) _).setCell (Nat.le_succ _) _).setCell (Nat.le_succ _) _).setCell (Nat.le_succ _) _⟩
    · have H1 : Hid (decide (1 ≤ s ∧ s ≤ 100000) = true) := decide_eq_true q1
      have H2 : Hid (decide (1 ≤ kd ∧ kd ≤ 3) = false) := decide_eq_false q2
      clear q1 q2
      go_enter Tryz.func5, Tryz.ntmps5
      go_wp2_with fail
      refine (asked_any S w.heap.size _ _ _ _ _ ⟨HE.out.1.1, HE.out.2.2.1.mono (Nat.zero_le _)⟩).mono ?_
      rw [HA.out]
      rintro e w1 ⟨rfl, q1⟩
      have HE : Hid (CallSto w B S (.slice a0 S.nc c0) (.slice a1 S.nl c1) (.slice a2 S.nw c2) w1) := HE.out.later q1
      obtain ⟨⟨⟨p0, p1, p2⟩, _⟩, ⟨⟨r0, r1, r2, r3⟩, f0, f1, f2, f3⟩, _⟩ := HE.out
      clear q1
      go_wp2_with fail
      refine (l1Fault_any pr _).mono ?_
      rw [HF.out]
      rintro e w2' ⟨rfl, rfl⟩
      go_wp2_with fail
      refine (l2Ts_is s true H1.out _).mono ?_
      rintro e w3' ⟨rfl, rfl⟩
      go_wp2_with fail
      refine (l1In_is kd _ _ false H2.out _).mono ?_
      rintro e w4' ⟨rfl, rfl⟩
      go_wp2_with fail
      refine (l3Bad_is 3 _).mono ?_
      rintro e w4 ⟨d0, e0, d1, e1, d2, e2, rfl, ⟨s3, f3', a3⟩, q4⟩
      have z3 : Hid (w.heap.size + 2 ≤ w4'.heap.size) := HE.out.2.1.lt
      have S3 : Hid ((St w4 (w.heap.size + 2) emptyS (.slice d0 (emptyS).nc e0) (.slice d1 (emptyS).nl e1) (.slice d2 (emptyS).nw e2) ∧ FreeS w4 emptyS (.slice d0 (emptyS).nc e0) (.slice d1 (emptyS).nl e1) (.slice d2 (emptyS).nw e2)) ∧ ApartD emptyS (.slice d0 (emptyS).nc e0) (.slice d1 (emptyS).nl e1) (.slice d2 (emptyS).nw e2)) := ⟨⟨s3.mono z3.out, f3'⟩, a3⟩
      have HBW : Hid (Below w.heap.size w w4) := HE.out.2.2.2.trans (q4.mono HE.out.2.2.2.size)
      obtain ⟨⟨r0, r1, r2, r3⟩, f0, f1, f2, f3⟩ := HE.out.2.1.later q4
      clear s3 f3' a3 q4
      have hlo : (w.heap.size + 1 : Nat) < w.heap.size + 2 := Nat.lt_succ_self _
      go_wp2
      exact bodyPost_ret (v := .agg #[.int .i64 3, .slice d0 (emptyS).nc e0, .slice d1 (emptyS).nl e1, .slice d2 (emptyS).nw e2]) (by simp [results, Tryz.results5, go_sem, r0, r1, r2, r3]) rfl ⟨d0, e0, d1, e1, d2, e2, rfl, ⟨((((S3.out.1.1.far hlo _).far hlo _).far hlo _).far hlo _).mono (by omega), (((S3.out.1.2.far _ _).far _ _).far _ _).far _ _, S3.out.2⟩, (((HBW.out.setCell (Nat.le_succ _) _).setCell (Nat.le_succ _) _).setCell (Nat.le_succ _) _).setCell (Nat.le_succ _) _⟩
    · have H1 : Hid (decide (1 ≤ s ∧ s ≤ 100000) = true) := decide_eq_true q1
      have H2 : Hid (decide (1 ≤ kd ∧ kd ≤ 3) = true) := decide_eq_true q2
      have H3 : Hid (decide (0 ≤ va ∧ va ≤ 9999) = false) := decide_eq_false q3
      clear q1 q2 q3
      go_enter Tryz.func5, Tryz.ntmps5
      go_wp2_with fail
      refine (asked_any S w.heap.size _ _ _ _ _ ⟨HE.out.1.1, HE.out.2.2.1.mono (Nat.zero_le _)⟩).mono ?_
      rw [HA.out]
      rintro e w1 ⟨rfl, q1⟩
      have HE : Hid (CallSto w B S (.slice a0 S.nc c0) (.slice a1 S.nl c1) (.slice a2 S.nw c2) w1) := HE.out.later q1
      obtain ⟨⟨⟨p0, p1, p2⟩, _⟩, ⟨⟨r0, r1, r2, r3⟩, f0, f1, f2, f3⟩, _⟩ := HE.out
      clear q1
      go_wp2_with fail
      refine (l1Fault_any pr _).mono ?_
      rw [HF.out]
      rintro e w2' ⟨rfl, rfl⟩
      go_wp2_with fail
      refine (l2Ts_is s true H1.out _).mono ?_
      rintro e w3' ⟨rfl, rfl⟩
      go_wp2_with fail
      refine (l1In_is kd _ _ true H2.out _).mono ?_
      rintro e w4' ⟨rfl, rfl⟩
      go_wp2_with fail
      refine (l1In_is va _ _ false H3.out _).mono ?_
      rintro e w5' ⟨rfl, rfl⟩
      go_wp2_with fail
      refine (l3Bad_is 3 _).mono ?_
      rintro e w4 ⟨d0, e0, d1, e1, d2, e2, rfl, ⟨s3, f3', a3⟩, q4⟩
      have z3 : Hid (w.heap.size + 2 ≤ w5'.heap.size) := HE.out.2.1.lt
      have S3 : Hid ((St w4 (w.heap.size + 2) emptyS (.slice d0 (emptyS).nc e0) (.slice d1 (emptyS).nl e1) (.slice d2 (emptyS).nw e2) ∧ FreeS w4 emptyS (.slice d0 (emptyS).nc e0) (.slice d1 (emptyS).nl e1) (.slice d2 (emptyS).nw e2)) ∧ ApartD emptyS (.slice d0 (emptyS).nc e0) (.slice d1 (emptyS).nl e1) (.slice d2 (emptyS).nw e2)) := ⟨⟨s3.mono z3.out, f3'⟩, a3⟩
      have HBW : Hid (Below w.heap.size w w4) := HE.out.2.2.2.trans (q4.mono HE.out.2.2.2.size)
      obtain ⟨⟨r0, r1, r2, r3⟩, f0, f1, f2, f3⟩ := HE.out.2.1.later q4
      clear s3 f3' a3 q4
      have hlo : (w.heap.size + 1 : Nat) < w.heap.size + 2 := Nat.lt_succ_self _
      go_wp2
      exact bodyPost_ret (v := .agg #[.int .i64 3, .slice d0 (emptyS).nc e0, .slice d1 (emptyS).nl e1, .slice d2 (emptyS).nw e2]) (by simp [results, Tryz.results5, go_sem, r0, r1, r2, r3]) rfl ⟨d0, e0, d1, e1, d2, e2, rfl, ⟨((((S3.out.1.1.far hlo _).far hlo _).far hlo _).far hlo _).mono (by omega), (((S3.out.1.2.far _ _).far _ _).far _ _).far _ _, S3.out.2⟩, (((HBW.out.setCell (Nat.le_succ _) _).setCell (Nat.le_succ _) _).setCell (Nat.le_succ _) _).setCell (Nat.le_succ _) _⟩
    · have H1 : Hid (decide (1 ≤ s ∧ s ≤ 100000) = true) := decide_eq_true q1
      have H2 : Hid (decide (1 ≤ kd ∧ kd ≤ 3) = true) := decide_eq_true q2
      have H3 : Hid (decide (0 ≤ va ∧ va ≤ 9999) = true) := decide_eq_true q3
      have H4 : Hid (decide (0 ≤ un ∧ un ≤ 100000) = false) := decide_eq_false q4
      clear q1 q2 q3 q4
      go_enter Tryz.func5, Tryz.ntmps5
      go_wp2_with fail
      refine (asked_any S w.heap.size _ _ _ _ _ ⟨HE.out.1.1, HE.out.2.2.1.mono (Nat.zero_le _)⟩).mono ?_
      rw [HA.out]
      rintro e w1 ⟨rfl, q1⟩
      have HE : Hid (CallSto w B S (.slice a0 S.nc c0) (.slice a1 S.nl c1) (.slice a2 S.nw c2) w1) := HE.out.later q1
      obtain ⟨⟨⟨p0, p1, p2⟩, _⟩, ⟨⟨r0, r1, r2, r3⟩, f0, f1, f2, f3⟩, _⟩ := HE.out
      clear q1
      go_wp2_with fail
      refine (l1Fault_any pr _).mono ?_
      rw [HF.out]
      rintro e w2' ⟨rfl, rfl⟩
      go_wp2_with fail
      refine (l2Ts_is s true H1.out _).mono ?_
      rintro e w3' ⟨rfl, rfl⟩
      go_wp2_with fail
      refine (l1In_is kd _ _ true H2.out _).mono ?_
      rintro e w4' ⟨rfl, rfl⟩
      go_wp2_with fail
      refine (l1In_is va _ _ true H3.out _).mono ?_
      rintro e w5' ⟨rfl, rfl⟩
      go_wp2_with fail
      refine (l1In_is un _ _ false H4.out _).mono ?_
      rintro e w6' ⟨rfl, rfl⟩
      go_wp2_with fail
      refine (l3Bad_is 3 _).mono ?_
      rintro e w4 ⟨d0, e0, d1, e1, d2, e2, rfl, ⟨s3, f3', a3⟩, q4⟩
      have z3 : Hid (w.heap.size + 2 ≤ w6'.heap.size) := HE.out.2.1.lt
      have S3 : Hid ((St w4 (w.heap.size + 2) emptyS (.slice d0 (emptyS).nc e0) (.slice d1 (emptyS).nl e1) (.slice d2 (emptyS).nw e2) ∧ FreeS w4 emptyS (.slice d0 (emptyS).nc e0) (.slice d1 (emptyS).nl e1) (.slice d2 (emptyS).nw e2)) ∧ ApartD emptyS (.slice d0 (emptyS).nc e0) (.slice d1 (emptyS).nl e1) (.slice d2 (emptyS).nw e2)) := ⟨⟨s3.mono z3.out, f3'⟩, a3⟩
      have HBW : Hid (Below w.heap.size w w4) := HE.out.2.2.2.trans (q4.mono HE.out.2.2.2.size)
      obtain ⟨⟨r0, r1, r2, r3⟩, f0, f1, f2, f3⟩ := HE.out.2.1.later q4
      clear s3 f3' a3 q4
      have hlo : (w.heap.size + 1 : Nat) < w.heap.size + 2 := Nat.lt_succ_self _
      go_wp2
      exact bodyPost_ret (v := .agg #[.int .i64 3, .slice d0 (emptyS).nc e0, .slice d1 (emptyS).nl e1, .slice d2 (emptyS).nw e2]) (by simp [results, Tryz.results5, go_sem, r0, r1, r2, r3]) rfl ⟨d0, e0, d1, e1, d2, e2, rfl, ⟨((((S3.out.1.1.far hlo _).far hlo _).far hlo _).far hlo _).mono (by omega), (((S3.out.1.2.far _ _).far _ _).far _ _).far _ _, S3.out.2⟩, (((HBW.out.setCell (Nat.le_succ _) _).setCell (Nat.le_succ _) _).setCell (Nat.le_succ _) _).setCell (Nat.le_succ _) _⟩
  · have HA : Hid (askF S a = 0) := hz
    have HF : Hid (faultOf pr = 0) := hp
    obtain ⟨q1, q2, q3, q4⟩ := ht
    have H1 : Hid (decide (1 ≤ s ∧ s ≤ 100000) = true) := decide_eq_true q1
    have H2 : Hid (decide (1 ≤ kd ∧ kd ≤ 3) = true) := decide_eq_true q2
    have H3 : Hid (decide (0 ≤ va ∧ va ≤ 9999) = true) := decide_eq_true q3
    have H4 : Hid (decide (0 ≤ un ∧ un ≤ 100000) = true) := decide_eq_true q4
    have dv : (va != 0) = true := bne_iff_ne.2 hv
    have dv' : (va == 0) = false := beq_eq_false_iff_ne.2 hv
    have dk : (kd != 1) = true := bne_iff_ne.2 hk
    have dk' : (kd == 1) = false := beq_eq_false_iff_ne.2 hk
    clear hz hp q1 q2 q3 q4 hv hk
    go_enter Tryz.func5, Tryz.ntmps5
    go_wp2_with fail
    refine (asked_any S w.heap.size _ _ _ _ _ ⟨HE.out.1.1, HE.out.2.2.1.mono (Nat.zero_le _)⟩).mono ?_
    rw [HA.out]
    rintro e w1 ⟨rfl, q1⟩
    have HE : Hid (CallSto w B S (.slice a0 S.nc c0) (.slice a1 S.nl c1) (.slice a2 S.nw c2) w1) := HE.out.later q1
    obtain ⟨⟨⟨p0, p1, p2⟩, _⟩, ⟨⟨r0, r1, r2, r3⟩, f0, f1, f2, f3⟩, _⟩ := HE.out
    clear q1
    go_wp2_with fail
    refine (l1Fault_any pr _).mono ?_
    rw [HF.out]
    rintro e w2' ⟨rfl, rfl⟩
    go_wp2_with fail
    refine (l2Ts_is s true H1.out _).mono ?_
    rintro e w3' ⟨rfl, rfl⟩
    go_wp2_with fail
    refine (l1In_is kd _ _ true H2.out _).mono ?_
    rintro e w4' ⟨rfl, rfl⟩
    go_wp2_with fail
    refine (l1In_is va _ _ true H3.out _).mono ?_
    rintro e w5' ⟨rfl, rfl⟩
    go_wp2_with fail
    refine (l1In_is un _ _ true H4.out _).mono ?_
    rintro e w6' ⟨rfl, rfl⟩
    go_wp2_with fail
    refine (l3Bad_is 1 _).mono ?_
    rintro e w4 ⟨d0, e0, d1, e1, d2, e2, rfl, ⟨s3, f3', a3⟩, q4⟩
    have z3 : Hid (w.heap.size + 2 ≤ w6'.heap.size) := HE.out.2.1.lt
    have S3 : Hid ((St w4 (w.heap.size + 2) emptyS (.slice d0 (emptyS).nc e0) (.slice d1 (emptyS).nl e1) (.slice d2 (emptyS).nw e2) ∧ FreeS w4 emptyS (.slice d0 (emptyS).nc e0) (.slice d1 (emptyS).nl e1) (.slice d2 (emptyS).nw e2)) ∧ ApartD emptyS (.slice d0 (emptyS).nc e0) (.slice d1 (emptyS).nl e1) (.slice d2 (emptyS).nw e2)) := ⟨⟨s3.mono z3.out, f3'⟩, a3⟩
    have HBW : Hid (Below w.heap.size w w4) := HE.out.2.2.2.trans (q4.mono HE.out.2.2.2.size)
    obtain ⟨⟨r0, r1, r2, r3⟩, f0, f1, f2, f3⟩ := HE.out.2.1.later q4
    clear s3 f3' a3 q4
    have hlo : (w.heap.size + 1 : Nat) < w.heap.size + 2 := Nat.lt_succ_self _
    go_wp2
    exact bodyPost_ret (v := .agg #[.int .i64 1, .slice d0 (emptyS).nc e0, .slice d1 (emptyS).nl e1, .slice d2 (emptyS).nw e2]) (by simp [results, Tryz.results5, go_sem, r0, r1, r2, r3]) rfl ⟨d0, e0, d1, e1, d2, e2, rfl, ⟨((((S3.out.1.1.far hlo _).far hlo _).far hlo _).far hlo _).mono (by omega), (((S3.out.1.2.far _ _).far _ _).far _ _).far _ _, S3.out.2⟩, (((HBW.out.setCell (Nat.le_succ _) _).setCell (Nat.le_succ _) _).setCell (Nat.le_succ _) _).setCell (Nat.le_succ _) _⟩
  · have HA : Hid (askF S a = 0) := hz
    have HF : Hid (faultOf pr = 0) := hp
    have HP : Hid (∀ (b : Nat) (u0 u1 u2 : Value) (x : World), Lies x b S u0 u1 u2 → Calls Tryz.prog 21 #[.pointer (some ⟨b, 0, none⟩), .agg #[.int .i64 a, .int .i64 s, .int .i64 kd, .int .i64 pr, .int .i64 un], .int .i64 va] x (ResSto x r R)) := fun b u0 u1 u2 x hx => l3Pre_is S b u0 u1 u2 a s kd pr un va r R x hx (askF_zero hz).1 hR
    obtain ⟨q1, q2, q3, q4⟩ := ht
    have H1 : Hid (decide (1 ≤ s ∧ s ≤ 100000) = true) := decide_eq_true q1
    have H2 : Hid (decide (1 ≤ kd ∧ kd ≤ 3) = true) := decide_eq_true q2
    have H3 : Hid (decide (0 ≤ va ∧ va ≤ 9999) = true) := decide_eq_true q3
    have H4 : Hid (decide (0 ≤ un ∧ un ≤ 100000) = true) := decide_eq_true q4
    clear hz hp q1 q2 q3 q4 hR
    by_cases hv0 : va = 0
    · have dv : (va != 0) = false := by rw [hv0]; rfl
      have dv' : (va == 0) = true := beq_iff_eq.2 hv0
      clear hv hv0
      go_enter Tryz.func5, Tryz.ntmps5
      go_wp2_with fail
      refine (asked_any S w.heap.size _ _ _ _ _ ⟨HE.out.1.1, HE.out.2.2.1.mono (Nat.zero_le _)⟩).mono ?_
      rw [HA.out]
      rintro e w1 ⟨rfl, q1⟩
      have HE : Hid (CallSto w B S (.slice a0 S.nc c0) (.slice a1 S.nl c1) (.slice a2 S.nw c2) w1) := HE.out.later q1
      obtain ⟨⟨⟨p0, p1, p2⟩, _⟩, ⟨⟨r0, r1, r2, r3⟩, f0, f1, f2, f3⟩, _⟩ := HE.out
      clear q1
      go_wp2_with fail
      refine (l1Fault_any pr _).mono ?_
      rw [HF.out]
      rintro e w2' ⟨rfl, rfl⟩
      go_wp2_with fail
      refine (l2Ts_is s true H1.out _).mono ?_
      rintro e w3' ⟨rfl, rfl⟩
      go_wp2_with fail
      refine (l1In_is kd _ _ true H2.out _).mono ?_
      rintro e w4' ⟨rfl, rfl⟩
      go_wp2_with fail
      refine (l1In_is va _ _ true H3.out _).mono ?_
      rintro e w5' ⟨rfl, rfl⟩
      go_wp2_with fail
      refine (l1In_is un _ _ true H4.out _).mono ?_
      rintro e w6' ⟨rfl, rfl⟩
      go_wp2_with fail
      refine (HP.out w.heap.size _ _ _ _ ⟨HE.out.1.1, HE.out.2.2.1.mono (Nat.zero_le _)⟩).mono ?_
      rintro e w4 ⟨d0, e0, d1, e1, d2, e2, rfl, ⟨s3, f3', a3⟩, q4⟩
      have z3 : Hid (w.heap.size + 2 ≤ w6'.heap.size) := HE.out.2.1.lt
      have S3 : Hid ((St w4 (w.heap.size + 2) R (.slice d0 (R).nc e0) (.slice d1 (R).nl e1) (.slice d2 (R).nw e2) ∧ FreeS w4 R (.slice d0 (R).nc e0) (.slice d1 (R).nl e1) (.slice d2 (R).nw e2)) ∧ ApartD R (.slice d0 (R).nc e0) (.slice d1 (R).nl e1) (.slice d2 (R).nw e2)) := ⟨⟨s3.mono z3.out, f3'⟩, a3⟩
      have HBW : Hid (Below w.heap.size w w4) := HE.out.2.2.2.trans (q4.mono HE.out.2.2.2.size)
      obtain ⟨⟨r0, r1, r2, r3⟩, f0, f1, f2, f3⟩ := HE.out.2.1.later q4
      clear s3 f3' a3 q4
      have hlo : (w.heap.size + 1 : Nat) < w.heap.size + 2 := Nat.lt_succ_self _
      go_wp2
      exact bodyPost_ret (v := .agg #[.int .i64 r, .slice d0 (R).nc e0, .slice d1 (R).nl e1, .slice d2 (R).nw e2]) (by simp [results, Tryz.results5, go_sem, r0, r1, r2, r3]) rfl ⟨d0, e0, d1, e1, d2, e2, rfl, ⟨((((S3.out.1.1.far hlo _).far hlo _).far hlo _).far hlo _).mono (by omega), (((S3.out.1.2.far _ _).far _ _).far _ _).far _ _, S3.out.2⟩, (((HBW.out.setCell (Nat.le_succ _) _).setCell (Nat.le_succ _) _).setCell (Nat.le_succ _) _).setCell (Nat.le_succ _) _⟩
    · have dv : (va != 0) = true := bne_iff_ne.2 hv0
      have dv' : (va == 0) = false := beq_eq_false_iff_ne.2 hv0
      have hk1 : kd = 1 := by omega
      have dk : (kd != 1) = false := by rw [hk1]; rfl
      have dk' : (kd == 1) = true := beq_iff_eq.2 hk1
      clear hv hv0 hk1
      go_enter Tryz.func5, Tryz.ntmps5
      go_wp2_with fail
      refine (asked_any S w.heap.size _ _ _ _ _ ⟨HE.out.1.1, HE.out.2.2.1.mono (Nat.zero_le _)⟩).mono ?_
      rw [HA.out]
      rintro e w1 ⟨rfl, q1⟩
      have HE : Hid (CallSto w B S (.slice a0 S.nc c0) (.slice a1 S.nl c1) (.slice a2 S.nw c2) w1) := HE.out.later q1
      obtain ⟨⟨⟨p0, p1, p2⟩, _⟩, ⟨⟨r0, r1, r2, r3⟩, f0, f1, f2, f3⟩, _⟩ := HE.out
      clear q1
      go_wp2_with fail
      refine (l1Fault_any pr _).mono ?_
      rw [HF.out]
      rintro e w2' ⟨rfl, rfl⟩
      go_wp2_with fail
      refine (l2Ts_is s true H1.out _).mono ?_
      rintro e w3' ⟨rfl, rfl⟩
      go_wp2_with fail
      refine (l1In_is kd _ _ true H2.out _).mono ?_
      rintro e w4' ⟨rfl, rfl⟩
      go_wp2_with fail
      refine (l1In_is va _ _ true H3.out _).mono ?_
      rintro e w5' ⟨rfl, rfl⟩
      go_wp2_with fail
      refine (l1In_is un _ _ true H4.out _).mono ?_
      rintro e w6' ⟨rfl, rfl⟩
      go_wp2_with fail
      refine (HP.out w.heap.size _ _ _ _ ⟨HE.out.1.1, HE.out.2.2.1.mono (Nat.zero_le _)⟩).mono ?_
      rintro e w4 ⟨d0, e0, d1, e1, d2, e2, rfl, ⟨s3, f3', a3⟩, q4⟩
      have z3 : Hid (w.heap.size + 2 ≤ w6'.heap.size) := HE.out.2.1.lt
      have S3 : Hid ((St w4 (w.heap.size + 2) R (.slice d0 (R).nc e0) (.slice d1 (R).nl e1) (.slice d2 (R).nw e2) ∧ FreeS w4 R (.slice d0 (R).nc e0) (.slice d1 (R).nl e1) (.slice d2 (R).nw e2)) ∧ ApartD R (.slice d0 (R).nc e0) (.slice d1 (R).nl e1) (.slice d2 (R).nw e2)) := ⟨⟨s3.mono z3.out, f3'⟩, a3⟩
      have HBW : Hid (Below w.heap.size w w4) := HE.out.2.2.2.trans (q4.mono HE.out.2.2.2.size)
      obtain ⟨⟨r0, r1, r2, r3⟩, f0, f1, f2, f3⟩ := HE.out.2.1.later q4
      clear s3 f3' a3 q4
      have hlo : (w.heap.size + 1 : Nat) < w.heap.size + 2 := Nat.lt_succ_self _
      go_wp2
      exact bodyPost_ret (v := .agg #[.int .i64 r, .slice d0 (R).nc e0, .slice d1 (R).nl e1, .slice d2 (R).nw e2]) (by simp [results, Tryz.results5, go_sem, r0, r1, r2, r3]) rfl ⟨d0, e0, d1, e1, d2, e2, rfl, ⟨((((S3.out.1.1.far hlo _).far hlo _).far hlo _).far hlo _).mono (by omega), (((S3.out.1.2.far _ _).far _ _).far _ _).far _ _, S3.out.2⟩, (((HBW.out.setCell (Nat.le_succ _) _).setCell (Nat.le_succ _) _).setCell (Nat.le_succ _) _).setCell (Nat.le_succ _) _⟩
end

section
open Go.RowKit
-- Own text. The walk of the law FnExactPrewrite, over what the model and the program answer: a code and a new store.
set_option maxRecDepth 100000 in
set_option maxHeartbeats 8000000 in
theorem exactPrewrite_walk (S : Sto) (v0 v1 v2 : Value) (ka sa kd va pr un : Int) (w : World) (h : St w 0 S v0 v1 v2) (hc : S.nc ≤ 9223372036854775807) (hl : S.nl ≤ 9223372036854775807) (hk : S.nw ≤ 9223372036854775807) (hL : Laid w)
    (ans : S.nc ≤ 1048576 → S.nl ≤ 1048576 → S.nw ≤ 1048576 → ∃ c R, (R.nc ≤ 1048576 ∧ R.nl ≤ 1048576 ∧ R.nw ≤ 1048576) ∧
      (∀ y0 y1 y2 x, St x 0 S y0 y1 y2 → Calls Tryz.prog 5 #[.agg #[y0, y1, y2], .int .i64 ka, .int .i64 sa, .int .i64 kd, .int .i64 va, .int .i64 pr, .int .i64 un] x (ResSto x c R)) ∧
      (∀ y0 y1 y2 x, St x 0 S y0 y1 y2 → Laid x → Calls Tryz.prog 7 #[.agg #[y0, y1, y2], .int .i64 ka, .int .i64 sa, .int .i64 kd, .int .i64 va, .int .i64 pr, .int .i64 un] x (ResSto x c R))) :
    Calls Tryz.prog 3 #[.agg #[v0, v1, v2], .int .i64 ka, .int .i64 sa, .int .i64 kd, .int .i64 va, .int .i64 pr, .int .i64 un] w fun e w' => e = .returned (.bool true) ∧ Below w.heap.size w w' := by
  obtain ⟨a0, c0, a1, c1, a2, c2, rfl, rfl, rfl⟩ := h.form
  have H : Hid (St w 0 S (.slice a0 S.nc c0) (.slice a1 S.nl c1) (.slice a2 S.nw c2)) := h
  clear h
  have HL : Hid (Laid w) := hL
  clear hL
  by_cases hs : (1048576 : Int) < (S.nc : Int) + S.nl + S.nw
  · clear ans
    go_enter Tryz.func3, Tryz.ntmps3
    go_wp2_with fail
    refine (szStore_no 1048576 _ _ _ _ _ _ _ _ _ _ hs (by omega) (by omega) hc hl hk).mono ?_
    rintro e w1 ⟨rfl, q1⟩
    have Q : Hid (Below w.heap.size w w1) := (below_alloc _ _).trans (q1.mono (by simp))
    clear q1
    go_wp2
    go_ret
    exact ⟨rfl, Q.out⟩
  have hs' : (S.nc : Int) + S.nl + S.nw ≤ 1048576 := by omega
  clear hs
  have Hb : Hid (S.nc ≤ 1048576 ∧ S.nl ≤ 1048576 ∧ S.nw ≤ 1048576) := ⟨by omega, by omega, by omega⟩
  obtain ⟨c, R, hR, hspec, himpl⟩ := ans Hb.out.1 Hb.out.2.1 Hb.out.2.2
  have HR : Hid (R.nc ≤ 1048576 ∧ R.nl ≤ 1048576 ∧ R.nw ≤ 1048576) := hR
  have HS : Hid (∀ y0 y1 y2 x, St x 0 S y0 y1 y2 → Calls Tryz.prog 5 #[.agg #[y0, y1, y2], .int .i64 ka, .int .i64 sa, .int .i64 kd, .int .i64 va, .int .i64 pr, .int .i64 un] x (ResSto x c R)) := hspec
  have HI : Hid (∀ y0 y1 y2 x, St x 0 S y0 y1 y2 → Laid x → Calls Tryz.prog 7 #[.agg #[y0, y1, y2], .int .i64 ka, .int .i64 sa, .int .i64 kd, .int .i64 va, .int .i64 pr, .int .i64 un] x (ResSto x c R)) := himpl
  have dr : decide ((1 : Int) + R.nc * 3 + R.nl * 5 + R.nw * 4 < 0) = false := decide_eq_false (by omega)
  clear ans hspec himpl hR
  go_enter Tryz.func3, Tryz.ntmps3
  go_wp2_with fail
  refine (szStore_ok 1048576 _ _ _ _ _ _ _ _ _ _ hs' (by omega) (by omega) hc hl hk).mono ?_
  rintro e w1 ⟨rfl, q1⟩
  have P1 : Hid (One w (.slice a0 S.nc c0) (.slice a1 S.nl c1) (.slice a2 S.nw c2) w1) := (One.new w _ _ _).later q1
  obtain ⟨_, ⟨f0, f1, f2⟩, _⟩ := P1.out
  have dz : decide ((1048576 : Int) - S.nc - S.nl - S.nw < 0) = false := decide_eq_false (by omega)
  have dk : decide ((1 : Int) + S.nc * 3 + S.nl * 5 + S.nw * 4 < 0) = false := decide_eq_false (by omega)
  clear q1 hc hl hk hs'
  go_wp2_with fail
  refine (toStore_any S _ _ _ 0 _ (H.out.later P1.out.1) Hb.out.1 Hb.out.2.1 Hb.out.2.2).mono ?_
  rintro e w3 ⟨x0, x1, x2, rfl, s3, _, q3⟩
  have S3 : Hid (St w3 0 S x0 x1 x2) := s3.mono (Nat.zero_le _)
  have P3 : Hid (One w (.slice a0 S.nc c0) (.slice a1 S.nl c1) (.slice a2 S.nw c2) w3) := P1.out.later q3
  clear s3 q3 P1 f0 f1 f2
  go_wp2_with fail
  refine (HS.out _ _ _ _ S3.out).mono ?_
  rintro e w5 ⟨m0, p0, m1, p1, m2, p2, rfl, ⟨rw5, _, _⟩, q5⟩
  have P5 : Hid (One w (.slice a0 S.nc c0) (.slice a1 S.nl c1) (.slice a2 S.nw c2) (w5.alloc (.cells #[.int .i64 c, .slice m0 R.nc p0, .slice m1 R.nl p1, .slice m2 R.nw p2] 34)) ∧ Blk4 (w5.alloc (.cells #[.int .i64 c, .slice m0 R.nc p0, .slice m1 R.nl p1, .slice m2 R.nw p2] 34)) w5.heap.size (.int .i64 c) (.slice m0 R.nc p0) (.slice m1 R.nl p1) (.slice m2 R.nw p2)) := ⟨(P3.out.later q5).later (below_alloc _ _), Blk4.new w5 _ _ _ _ _⟩
  have RW : Hid (St (w5.alloc (.cells #[.int .i64 c, .slice m0 R.nc p0, .slice m1 R.nl p1, .slice m2 R.nw p2] 34)) w.heap.size R (.slice m0 R.nc p0) (.slice m1 R.nl p1) (.slice m2 R.nw p2) ∧ OwnIn R (.slice m0 R.nc p0) (.slice m1 R.nl p1) (.slice m2 R.nw p2) (fun k => k < w5.heap.size)) := ⟨(rw5.mono P3.out.1.size).alloc _, rw5.ownIn.mono (fun k hk => hk.2)⟩
  have P5' : Hid (One w (.slice a0 S.nc c0) (.slice a1 S.nl c1) (.slice a2 S.nw c2) w5) := P3.out.later q5
  obtain ⟨_, ⟨f0, f1, f2⟩, _⟩ := P5'.out
  have z5 := P5'.out.2.lt
  clear q5 S3 P3 dz P5' rw5 HS
  go_wp2_with fail
  refine (toStore_any S _ _ _ 0 _ (H.out.later P5.out.1.1) Hb.out.1 Hb.out.2.1 Hb.out.2.2).mono ?_
  rintro e w6 ⟨x0, x1, x2, rfl, s6, fa6, q6⟩
  obtain ⟨j0, k0, j1, k1, j2, k2, rfl, rfl, rfl⟩ := s6.form
  have zz6 : Hid (w5.heap.size + 1 ≤ w6.heap.size) := by have := q6.size; simp at this; unfold Hid; omega
  have S6 : Hid ((St w6 (w5.heap.size + 1) S (.slice j0 S.nc k0) (.slice j1 S.nl k1) (.slice j2 S.nw k2) ∧ FreeS w6 S (.slice j0 S.nc k0) (.slice j1 S.nl k1) (.slice j2 S.nw k2)) ∧ ApartS S (.slice j0 S.nc k0) (.slice j1 S.nl k1) (.slice j2 S.nw k2)) := ⟨⟨by rw [World.size_alloc] at s6; exact s6, fa6.1⟩, fa6.2⟩
  have E6 : Hid (OwnIn S (.slice j0 S.nc k0) (.slice j1 S.nl k1) (.slice j2 S.nw k2) (fun k => k < w6.heap.size)) := s6.ownIn.mono (fun k hk => hk.2)
  have P6 : Hid ((One w (.slice a0 S.nc c0) (.slice a1 S.nl c1) (.slice a2 S.nw c2) w6 ∧ Blk4 w6 w5.heap.size (.int .i64 c) (.slice m0 R.nc p0) (.slice m1 R.nl p1) (.slice m2 R.nw p2)) ∧ St w6 w.heap.size R (.slice m0 R.nc p0) (.slice m1 R.nl p1) (.slice m2 R.nw p2)) := ⟨⟨P5.out.1.later q6, P5.out.2.later q6⟩, RW.out.1.later q6⟩
  have LW : Hid (OwnIn R (.slice m0 R.nc p0) (.slice m1 R.nl p1) (.slice m2 R.nw p2) (fun k => k < w5.heap.size)) := RW.out.2
  have zw5 : Hid (w.heap.size < w5.heap.size) := z5
  clear s6 fa6 q6 P5 f0 f1 f2 z5 RW
  go_wp2_with fail
  refine (HI.out _ _ _ _ ((S6.out.1.1.mono (Nat.zero_le _)).alloc _) (HL.out.later (P6.out.1.1.1.alloc P6.out.1.1.1.size _))).mono ?_
  rintro e w8 ⟨g0, q0, g1, q1, g2, q2, rfl, ⟨rg8, fg8, ag8⟩, q8⟩
  have q8' := (below_alloc w6 (.cells #[.slice j0 S.nc k0, .slice j1 S.nl k1, .slice j2 S.nw k2] 32)).trans (q8.mono (by simp))
  have zz8 : Hid (w6.heap.size + 1 ≤ w8.heap.size) := by have := q8.size; simp at this; unfold Hid; omega
  have Q9 : Hid (LawT w (.slice a0 S.nc c0) (.slice a1 S.nl c1) (.slice a2 S.nw c2) w5.heap.size c (.slice m0 R.nc p0) (.slice m1 R.nl p1) (.slice m2 R.nw p2) w6.heap.size (.slice j0 S.nc k0) (.slice j1 S.nl k1) (.slice j2 S.nw k2) w8.heap.size (.slice g0 R.nc q0) (.slice g1 R.nl q1) (.slice g2 R.nw q2) (w8.alloc (.cells #[.int .i64 c, .slice g0 R.nc q0, .slice g1 R.nl q1, .slice g2 R.nw q2] 34))) := ⟨(P6.out.1.1.later q8').later (below_alloc _ _), (P6.out.1.2.later q8').later (below_alloc _ _), ((Blk3.new w6 (.slice j0 S.nc k0) (.slice j1 S.nl k1) (.slice j2 S.nw k2) 32).later q8).later (below_alloc _ _), Blk4.new w8 _ _ _ _ _⟩
  have R9 : Hid (St (w8.alloc (.cells #[.int .i64 c, .slice g0 R.nc q0, .slice g1 R.nl q1, .slice g2 R.nw q2] 34)) w.heap.size R (.slice m0 R.nc p0) (.slice m1 R.nl p1) (.slice m2 R.nw p2)) := (P6.out.2.later q8').alloc _
  rw [World.size_alloc] at rg8
  have G9 : Hid ((St (w8.alloc (.cells #[.int .i64 c, .slice g0 R.nc q0, .slice g1 R.nl q1, .slice g2 R.nw q2] 34)) (w6.heap.size + 1) R (.slice g0 R.nc q0) (.slice g1 R.nl q1) (.slice g2 R.nw q2) ∧ FreeS (w8.alloc (.cells #[.int .i64 c, .slice g0 R.nc q0, .slice g1 R.nl q1, .slice g2 R.nw q2] 34)) R (.slice g0 R.nc q0) (.slice g1 R.nl q1) (.slice g2 R.nw q2)) ∧ ApartD R (.slice g0 R.nc q0) (.slice g1 R.nl q1) (.slice g2 R.nw q2)) := ⟨⟨rg8.alloc _, fg8.later rg8 (below_alloc _ _)⟩, ag8⟩
  have LG : Hid (OwnIn R (.slice g0 R.nc q0) (.slice g1 R.nl q1) (.slice g2 R.nw q2) (fun k => w6.heap.size + 1 ≤ k ∧ k < w8.heap.size)) := rg8.ownIn
  have S9 : Hid ((St (w8.alloc (.cells #[.int .i64 c, .slice g0 R.nc q0, .slice g1 R.nl q1, .slice g2 R.nw q2] 34)) (w5.heap.size + 1) S (.slice j0 S.nc k0) (.slice j1 S.nl k1) (.slice j2 S.nw k2) ∧ FreeS (w8.alloc (.cells #[.int .i64 c, .slice g0 R.nc q0, .slice g1 R.nl q1, .slice g2 R.nw q2] 34)) S (.slice j0 S.nc k0) (.slice j1 S.nl k1) (.slice j2 S.nw k2)) ∧ ApartS S (.slice j0 S.nc k0) (.slice j1 S.nl k1) (.slice j2 S.nw k2)) := ⟨⟨(S6.out.1.1.later q8').alloc _, (S6.out.1.2.later S6.out.1.1 q8').later (S6.out.1.1.later q8') (below_alloc _ _)⟩, S6.out.2⟩
  obtain ⟨⟨t0, t1, t2, t3⟩, _⟩ := P6.out.1.2.later q8'
  have z8 := World.block_lt_of_cell? w8 _ t0
  clear q8 q8' S6 P6 rg8 fg8 ag8
  go_wp2_with fail
  refine (eqStoreResult_same c R _ _ _ _ _ _ _ _ _ G9.out.1.1 R9.out HR.out.1 HR.out.2.1 HR.out.2.2).mono ?_
  rintro e w9 ⟨rfl, q9⟩
  have Q : Hid (LawT w (.slice a0 S.nc c0) (.slice a1 S.nl c1) (.slice a2 S.nw c2) w5.heap.size c (.slice m0 R.nc p0) (.slice m1 R.nl p1) (.slice m2 R.nw p2) w6.heap.size (.slice j0 S.nc k0) (.slice j1 S.nl k1) (.slice j2 S.nw k2) w8.heap.size (.slice g0 R.nc q0) (.slice g1 R.nl q1) (.slice g2 R.nw q2) w9) := Q9.out.later q9
  have RR : Hid (St w9 w.heap.size R (.slice m0 R.nc p0) (.slice m1 R.nl p1) (.slice m2 R.nw p2)) := R9.out.later q9
  have GK : Hid ((St w9 (w6.heap.size + 1) R (.slice g0 R.nc q0) (.slice g1 R.nl q1) (.slice g2 R.nw q2) ∧ FreeS w9 R (.slice g0 R.nc q0) (.slice g1 R.nl q1) (.slice g2 R.nw q2)) ∧ ApartD R (.slice g0 R.nc q0) (.slice g1 R.nl q1) (.slice g2 R.nw q2)) := ⟨⟨G9.out.1.1.later q9, G9.out.1.2.later G9.out.1.1 q9⟩, G9.out.2⟩
  have SS : Hid ((St w9 (w5.heap.size + 1) S (.slice j0 S.nc k0) (.slice j1 S.nl k1) (.slice j2 S.nw k2) ∧ FreeS w9 S (.slice j0 S.nc k0) (.slice j1 S.nl k1) (.slice j2 S.nw k2)) ∧ ApartS S (.slice j0 S.nc k0) (.slice j1 S.nl k1) (.slice j2 S.nw k2)) := ⟨⟨S9.out.1.1.later q9, S9.out.1.2.later S9.out.1.1 q9⟩, S9.out.2⟩
  clear q9 Q9 R9 G9 S9 t0 t1 t2 t3 z8
  go_wp2_with fail
  refine wp_region_held_drew (S := LawT w (.slice a0 S.nc c0) (.slice a1 S.nl c1) (.slice a2 S.nw c2) w5.heap.size c (.slice m0 R.nc p0) (.slice m1 R.nl p1) (.slice m2 R.nw p2) w6.heap.size (.slice j0 S.nc k0) (.slice j1 S.nl k1) (.slice j2 S.nw k2) w8.heap.size (.slice g0 R.nc q0) (.slice g1 R.nl q1) (.slice g2 R.nw q2)) (by kernel_rfl) Q.out.drew (fun hS => ?_)
  clear Q
  refine wpAnyH_take (i := 0) (v := ?_) rfl (by kernel_rfl) (by kernel_rfl) (by kernel_rfl) (fun _ _ _ h => h) (Or.inl ⟨by kernel_rfl, ?_⟩) hS ?_
  rotate_left
  · intro wx hx
    obtain ⟨⟨_, ⟨hx0, hx1, hx2⟩, _⟩, _, ⟨⟨hx3, hx4, hx5⟩, _⟩, _⟩ := hx
    go_simp
    try with_reducible rfl
  refine wpAnyH_take (i := 1) (v := ?_) rfl (by kernel_rfl) (by kernel_rfl) (by kernel_rfl) (fun _ _ _ h => h) (Or.inl ⟨by kernel_rfl, ?_⟩) hS ?_
  rotate_left
  · intro wx hx
    obtain ⟨⟨_, ⟨hx0, hx1, hx2⟩, _⟩, _, ⟨⟨hx3, hx4, hx5⟩, _⟩, _⟩ := hx
    go_simp
    try with_reducible rfl
  refine wpAnyH_ready (rs := [2]) (by kernel_rfl) (by simp) ?_
  refine AllReadyH.cons rfl (fun K hK => ?_) AllReadyH.nil
  go_simp
  go_wp2_with fail
  refine (toStore_any S _ _ _ 0 _ (H.out.later hS.1.1) Hb.out.1 Hb.out.2.1 Hb.out.2.2).mono ?_
  rintro e w11 ⟨n0, n1, n2, rfl, s11, _, q11⟩
  have q11' : Below w9.heap.size w9 w11 := ⟨q11.os, q11.tape, q11.output, q11.size, q11.block⟩
  have S11 : Hid (((St w11 (w5.heap.size + 1) S (.slice j0 S.nc k0) (.slice j1 S.nl k1) (.slice j2 S.nw k2) ∧ FreeS w11 S (.slice j0 S.nc k0) (.slice j1 S.nl k1) (.slice j2 S.nw k2)) ∧ ApartS S (.slice j0 S.nc k0) (.slice j1 S.nl k1) (.slice j2 S.nw k2)) ∧ St w11 0 S n0 n1 n2) := ⟨⟨⟨SS.out.1.1.later q11', SS.out.1.2.later SS.out.1.1 q11'⟩, SS.out.2⟩, s11.mono (Nat.zero_le _)⟩
  have RR : Hid (St w11 w.heap.size R (.slice m0 R.nc p0) (.slice m1 R.nl p1) (.slice m2 R.nw p2)) := RR.out.later q11'
  have GK : Hid ((St w11 (w6.heap.size + 1) R (.slice g0 R.nc q0) (.slice g1 R.nl q1) (.slice g2 R.nw q2) ∧ FreeS w11 R (.slice g0 R.nc q0) (.slice g1 R.nl q1) (.slice g2 R.nw q2)) ∧ ApartD R (.slice g0 R.nc q0) (.slice g1 R.nl q1) (.slice g2 R.nw q2)) := ⟨⟨GK.out.1.1.later q11', GK.out.1.2.later GK.out.1.1 q11'⟩, GK.out.2⟩
  have hS' := hS.later q11
  clear s11 q11 q11' SS
  go_wp2_with fail
  refine hK.out _ _ hS' (fun hS => ?_)
  clear hK K hS'
  refine wpAnyH_ready (rs := [3]) (by kernel_rfl) (by simp) ?_
  refine AllReadyH.cons rfl (fun K hK => ?_) AllReadyH.nil
  go_simp
  go_wp2_with fail
  refine (eqStore_same S _ _ _ _ _ _ _ 0 _ S11.out.1.1.1 S11.out.2 Hb.out.1 Hb.out.2.1 Hb.out.2.2).mono ?_
  rintro e w12 ⟨rfl, q12⟩
  have SS : Hid ((St w12 (w5.heap.size + 1) S (.slice j0 S.nc k0) (.slice j1 S.nl k1) (.slice j2 S.nw k2) ∧ FreeS w12 S (.slice j0 S.nc k0) (.slice j1 S.nl k1) (.slice j2 S.nw k2)) ∧ ApartS S (.slice j0 S.nc k0) (.slice j1 S.nl k1) (.slice j2 S.nw k2)) := ⟨⟨S11.out.1.1.1.later q12, S11.out.1.1.2.later S11.out.1.1.1 q12⟩, S11.out.1.2⟩
  have RR : Hid (St w12 w.heap.size R (.slice m0 R.nc p0) (.slice m1 R.nl p1) (.slice m2 R.nw p2)) := RR.out.later q12
  have GK : Hid ((St w12 (w6.heap.size + 1) R (.slice g0 R.nc q0) (.slice g1 R.nl q1) (.slice g2 R.nw q2) ∧ FreeS w12 R (.slice g0 R.nc q0) (.slice g1 R.nl q1) (.slice g2 R.nw q2)) ∧ ApartD R (.slice g0 R.nc q0) (.slice g1 R.nl q1) (.slice g2 R.nw q2)) := ⟨⟨GK.out.1.1.later q12, GK.out.1.2.later GK.out.1.1 q12⟩, GK.out.2⟩
  have hS' := hS.later q12
  clear q12 S11
  go_wp2_with fail
  refine hK.out _ _ hS' (fun hS => ?_)
  clear hK K hS'
  refine wpAnyH_take (i := 4) (v := ?_) rfl (by kernel_rfl) (by kernel_rfl) (by kernel_rfl) (fun _ _ _ h => h) (Or.inl ⟨by kernel_rfl, ?_⟩) hS ?_
  rotate_left
  · intro wx hx
    obtain ⟨⟨_, ⟨hx0, hx1, hx2⟩, _⟩, _, ⟨⟨hx3, hx4, hx5⟩, _⟩, _⟩ := hx
    go_simp
    try with_reducible rfl
  refine wpAnyH_done (by kernel_rfl) ?_ _
  have Q : Hid (LawT w (.slice a0 S.nc c0) (.slice a1 S.nl c1) (.slice a2 S.nw c2) w5.heap.size c (.slice m0 R.nc p0) (.slice m1 R.nl p1) (.slice m2 R.nw p2) w6.heap.size (.slice j0 S.nc k0) (.slice j1 S.nl k1) (.slice j2 S.nw k2) w8.heap.size (.slice g0 R.nc q0) (.slice g1 R.nl q1) (.slice g2 R.nw q2) w12) := hS
  obtain ⟨_, _, ⟨⟨f0, f1, f2⟩, _⟩, _⟩ := hS
  go_simp
  go_wp2_with fail
  refine (markStore_any S _ _ _ (w5.heap.size + 1) w6.heap.size _ SS.out.1.1 SS.out.1.2 SS.out.2 E6.out (by have h1 := Q.out.2.2.1.lt; omega) Hb.out.1 Hb.out.2.1 Hb.out.2.2).mono ?_
  rintro e w13 ⟨rfl, W13⟩
  have Q13 : Hid (LawT w (.slice a0 S.nc c0) (.slice a1 S.nl c1) (.slice a2 S.nw c2) w5.heap.size c (.slice m0 R.nc p0) (.slice m1 R.nl p1) (.slice m2 R.nw p2) w6.heap.size (.slice j0 S.nc k0) (.slice j1 S.nl k1) (.slice j2 S.nw k2) w8.heap.size (.slice g0 R.nc q0) (.slice g1 R.nl q1) (.slice g2 R.nw q2) w13) := Q.out.within W13 (by have := zw5.out; omega) (Or.inl (by omega)) (Or.inr (Nat.le_refl _)) (Or.inr (by have := zz8.out; omega))
  have R13 : Hid (St w13 w.heap.size R (.slice m0 R.nc p0) (.slice m1 R.nl p1) (.slice m2 R.nw p2)) := RR.out.within W13 (LW.out.mono (fun k hk => Or.inl (by omega)))
  have oG : OwnIn R (.slice g0 R.nc q0) (.slice g1 R.nl q1) (.slice g2 R.nw q2) (fun k => k < w5.heap.size + 1 ∨ w6.heap.size ≤ k) := LG.out.mono (fun k hk => Or.inr (by omega))
  have G13 : Hid ((St w13 (w6.heap.size + 1) R (.slice g0 R.nc q0) (.slice g1 R.nl q1) (.slice g2 R.nw q2) ∧ FreeS w13 R (.slice g0 R.nc q0) (.slice g1 R.nl q1) (.slice g2 R.nw q2)) ∧ ApartD R (.slice g0 R.nc q0) (.slice g1 R.nl q1) (.slice g2 R.nw q2)) := ⟨⟨GK.out.1.1.within W13 oG, GK.out.1.2.within GK.out.1.1 W13 oG⟩, GK.out.2⟩
  clear W13 Q RR GK SS f0 f1 f2 oG
  obtain ⟨_, ⟨⟨t0, t1, t2, t3⟩, _⟩, _, ⟨⟨y0, y1, y2, y3⟩, _⟩⟩ := Q13.out
  go_wp2_with fail
  refine (eqStoreResult_same c R _ _ _ _ _ _ _ _ _ G13.out.1.1 R13.out HR.out.1 HR.out.2.1 HR.out.2.2).mono ?_
  rintro e w14 ⟨rfl, q14⟩
  have Q : Hid (LawT w (.slice a0 S.nc c0) (.slice a1 S.nl c1) (.slice a2 S.nw c2) w5.heap.size c (.slice m0 R.nc p0) (.slice m1 R.nl p1) (.slice m2 R.nw p2) w6.heap.size (.slice j0 S.nc k0) (.slice j1 S.nl k1) (.slice j2 S.nw k2) w8.heap.size (.slice g0 R.nc q0) (.slice g1 R.nl q1) (.slice g2 R.nw q2) w14) := Q13.out.later q14
  have RR : Hid (St w14 w.heap.size R (.slice m0 R.nc p0) (.slice m1 R.nl p1) (.slice m2 R.nw p2)) := R13.out.later q14
  have GK : Hid ((St w14 (w6.heap.size + 1) R (.slice g0 R.nc q0) (.slice g1 R.nl q1) (.slice g2 R.nw q2) ∧ FreeS w14 R (.slice g0 R.nc q0) (.slice g1 R.nl q1) (.slice g2 R.nw q2)) ∧ ApartD R (.slice g0 R.nc q0) (.slice g1 R.nl q1) (.slice g2 R.nw q2)) := ⟨⟨G13.out.1.1.later q14, G13.out.1.2.later G13.out.1.1 q14⟩, G13.out.2⟩
  clear q14 Q13 R13 G13 t0 t1 t2 t3 y0 y1 y2 y3
  obtain ⟨_, _, _, ⟨⟨y0, y1, y2, y3⟩, _⟩⟩ := Q.out
  go_wp2_with fail
  refine (markStoreResult_any c R _ _ _ (w6.heap.size + 1) w8.heap.size _ GK.out.1.1 GK.out.1.2 GK.out.2 (LG.out.mono (fun k hk => hk.2)) (by have h1 := Q.out.2.2.2.lt; omega) HR.out.1 HR.out.2.1 HR.out.2.2).mono ?_
  rintro e w15 ⟨rfl, m15, W15⟩
  have Q15 : Hid (LawT w (.slice a0 S.nc c0) (.slice a1 S.nl c1) (.slice a2 S.nw c2) w5.heap.size c (.slice m0 R.nc p0) (.slice m1 R.nl p1) (.slice m2 R.nw p2) w6.heap.size (.slice j0 S.nc k0) (.slice j1 S.nl k1) (.slice j2 S.nw k2) w8.heap.size (.slice g0 R.nc q0) (.slice g1 R.nl q1) (.slice g2 R.nw q2) w15) := Q.out.within W15 (by have := zw5.out; have := zz6.out; omega) (Or.inl (by have := zz6.out; omega)) (Or.inl (by omega)) (Or.inr (Nat.le_refl _))
  have R15 : Hid (St w15 w.heap.size R (.slice m0 R.nc p0) (.slice m1 R.nl p1) (.slice m2 R.nw p2)) := RR.out.within W15 (LW.out.mono (fun k hk => Or.inl (by have := zz6.out; omega)))
  have M15 : Hid (St w15 (w6.heap.size + 1) (markS R) (.slice g0 R.nc q0) (.slice g1 R.nl q1) (.slice g2 R.nw q2)) := m15
  clear m15 W15 Q RR GK y0 y1 y2 y3
  obtain ⟨_, _, _, ⟨⟨y0, y1, y2, y3⟩, _⟩⟩ := Q15.out
  go_wp2_with fail
  refine (heldStoreResult_any c R _ _ _ _ _ M15.out HR.out.1 HR.out.2.1 HR.out.2.2).mono ?_
  rintro e w16 ⟨rfl, q16⟩
  have Q16 : Hid (LawT w (.slice a0 S.nc c0) (.slice a1 S.nl c1) (.slice a2 S.nw c2) w5.heap.size c (.slice m0 R.nc p0) (.slice m1 R.nl p1) (.slice m2 R.nw p2) w6.heap.size (.slice j0 S.nc k0) (.slice j1 S.nl k1) (.slice j2 S.nw k2) w8.heap.size (.slice g0 R.nc q0) (.slice g1 R.nl q1) (.slice g2 R.nw q2) w16) := Q15.out.later q16
  have R16 : Hid (St w16 w.heap.size R (.slice m0 R.nc p0) (.slice m1 R.nl p1) (.slice m2 R.nw p2)) := R15.out.later q16
  have M16 : Hid (St w16 (w6.heap.size + 1) (markS R) (.slice g0 R.nc q0) (.slice g1 R.nl q1) (.slice g2 R.nw q2)) := M15.out.later q16
  clear q16 Q15 R15 M15 y0 y1 y2 y3
  obtain ⟨⟨_, ⟨f0, f1, f2⟩, _⟩, _⟩ := Q16.out
  go_wp2_with fail
  refine (toStore_any S _ _ _ 0 _ (H.out.later Q16.out.1.1) Hb.out.1 Hb.out.2.1 Hb.out.2.2).mono ?_
  rintro e w17 ⟨x0, x1, x2, rfl, s17, _, q17⟩
  have S17 : Hid (St w17 0 S x0 x1 x2) := s17.mono (Nat.zero_le _)
  have Q17 : Hid (LawT w (.slice a0 S.nc c0) (.slice a1 S.nl c1) (.slice a2 S.nw c2) w5.heap.size c (.slice m0 R.nc p0) (.slice m1 R.nl p1) (.slice m2 R.nw p2) w6.heap.size (.slice j0 S.nc k0) (.slice j1 S.nl k1) (.slice j2 S.nw k2) w8.heap.size (.slice g0 R.nc q0) (.slice g1 R.nl q1) (.slice g2 R.nw q2) w17) := Q16.out.later q17
  have R17 : Hid (St w17 w.heap.size R (.slice m0 R.nc p0) (.slice m1 R.nl p1) (.slice m2 R.nw p2)) := R16.out.later q17
  have M17 : Hid (St w17 (w6.heap.size + 1) (markS R) (.slice g0 R.nc q0) (.slice g1 R.nl q1) (.slice g2 R.nw q2)) := M16.out.later q17
  clear s17 q17 Q16 R16 M16 f0 f1 f2
  go_wp2_with fail
  refine (HI.out _ _ _ _ S17.out (HL.out.later Q17.out.1.1)).mono ?_
  rintro e w18 ⟨h0, r0, h1, r1, h2, r2, rfl, ⟨rh, _, _⟩, q18⟩
  have Q18 : Hid (LawT w (.slice a0 S.nc c0) (.slice a1 S.nl c1) (.slice a2 S.nw c2) w5.heap.size c (.slice m0 R.nc p0) (.slice m1 R.nl p1) (.slice m2 R.nw p2) w6.heap.size (.slice j0 S.nc k0) (.slice j1 S.nl k1) (.slice j2 S.nw k2) w8.heap.size (.slice g0 R.nc q0) (.slice g1 R.nl q1) (.slice g2 R.nw q2) w18) := Q17.out.later q18
  have Q19 : Hid (LawT w (.slice a0 S.nc c0) (.slice a1 S.nl c1) (.slice a2 S.nw c2) w5.heap.size c (.slice m0 R.nc p0) (.slice m1 R.nl p1) (.slice m2 R.nw p2) w6.heap.size (.slice j0 S.nc k0) (.slice j1 S.nl k1) (.slice j2 S.nw k2) w8.heap.size (.slice g0 R.nc q0) (.slice g1 R.nl q1) (.slice g2 R.nw q2) (w18.alloc (.cells #[.int .i64 c, .slice h0 R.nc r0, .slice h1 R.nl r1, .slice h2 R.nw r2] 34))) := Q18.out.later (below_alloc _ _)
  have R19 : Hid (St (w18.alloc (.cells #[.int .i64 c, .slice h0 R.nc r0, .slice h1 R.nl r1, .slice h2 R.nw r2] 34)) w.heap.size R (.slice m0 R.nc p0) (.slice m1 R.nl p1) (.slice m2 R.nw p2)) := (R17.out.later q18).alloc _
  have H19 : Hid (St (w18.alloc (.cells #[.int .i64 c, .slice h0 R.nc r0, .slice h1 R.nl r1, .slice h2 R.nw r2] 34)) 0 R (.slice h0 R.nc r0) (.slice h1 R.nl r1) (.slice h2 R.nw r2)) := (rh.mono (Nat.zero_le _)).alloc _
  have M19 : Hid (St (w18.alloc (.cells #[.int .i64 c, .slice h0 R.nc r0, .slice h1 R.nl r1, .slice h2 R.nw r2] 34)) (w6.heap.size + 1) (markS R) (.slice g0 R.nc q0) (.slice g1 R.nl q1) (.slice g2 R.nw q2)) := (M17.out.later q18).alloc _
  obtain ⟨_, ⟨⟨t0, t1, t2, t3⟩, _⟩, _⟩ := Q18.out
  have z18 := World.block_lt_of_cell? w18 _ t0
  clear q18 rh Q17 R17 M17 S17 Q18
  go_wp2_with fail
  refine (eqStoreResult_same c R _ _ _ _ _ _ _ _ _ H19.out R19.out HR.out.1 HR.out.2.1 HR.out.2.2).mono ?_
  rintro e w20 ⟨rfl, q20⟩
  have Q20 : Hid (LawT w (.slice a0 S.nc c0) (.slice a1 S.nl c1) (.slice a2 S.nw c2) w5.heap.size c (.slice m0 R.nc p0) (.slice m1 R.nl p1) (.slice m2 R.nw p2) w6.heap.size (.slice j0 S.nc k0) (.slice j1 S.nl k1) (.slice j2 S.nw k2) w8.heap.size (.slice g0 R.nc q0) (.slice g1 R.nl q1) (.slice g2 R.nw q2) w20) := Q19.out.later q20
  have M20 : Hid (St w20 (w6.heap.size + 1) (markS R) (.slice g0 R.nc q0) (.slice g1 R.nl q1) (.slice g2 R.nw q2)) := M19.out.later q20
  clear q20 Q19 R19 H19 M19 t0 t1 t2 t3 z18
  obtain ⟨_, _, _, ⟨⟨y0, y1, y2, y3⟩, _⟩⟩ := Q20.out
  go_wp2_with fail
  refine (heldStoreResult_any c R _ _ _ _ _ M20.out HR.out.1 HR.out.2.1 HR.out.2.2).mono ?_
  rintro e w21 ⟨rfl, q21⟩
  have Q21 : Hid (LawT w (.slice a0 S.nc c0) (.slice a1 S.nl c1) (.slice a2 S.nw c2) w5.heap.size c (.slice m0 R.nc p0) (.slice m1 R.nl p1) (.slice m2 R.nw p2) w6.heap.size (.slice j0 S.nc k0) (.slice j1 S.nl k1) (.slice j2 S.nw k2) w8.heap.size (.slice g0 R.nc q0) (.slice g1 R.nl q1) (.slice g2 R.nw q2) w21) := Q20.out.later q21
  clear q21 Q20 M20 y0 y1 y2 y3
  go_wp2
  go_ret
  exact ⟨rfl, Q21.out.1.1⟩
end

section
open Go.RowKit Go.Maps Go.Lib
-- Own text. Prewrite: what the program's answers; the law's walk.
set_option maxRecDepth 100000 in
set_option maxHeartbeats 8000000 in
theorem implPrewrite_is (S : Sto) (v0 v1 v2 : Value) (a s kd va pr un r : Int) (R : Sto) (B : Nat) (w : World) (h : St w B S v0 v1 v2) (hL : Laid w) (hA : PreAns S a s kd va pr un r R) :
    Calls Tryz.prog 7 #[.agg #[v0, v1, v2], .int .i64 a, .int .i64 s, .int .i64 kd, .int .i64 va, .int .i64 pr, .int .i64 un] w (ResSto w r R) := by
  obtain ⟨a0, c0, a1, c1, a2, c2, rfl, rfl, rfl⟩ := h.form
  have HE : Hid (CallSto w B S (.slice a0 S.nc c0) (.slice a1 S.nl c1) (.slice a2 S.nw c2) ((w.alloc (.cells #[.slice a0 S.nc c0, .slice a1 S.nl c1, .slice a2 S.nw c2] 32)).alloc (.cells #[.int .i64 0, .slice none 0 0, .slice none 0 0, .slice none 0 0] 34))) := CallSto.new h _ _
  have HL : Hid (Laid w) := hL
  clear h hL
  unfold ResSto
  rcases hA with ⟨hz, rfl, rfl⟩ | ⟨hz, hp, rfl, rfl⟩ | ⟨hz, hp, ht, rfl, rfl⟩ | ⟨hz, hp, ht, hv, hk, rfl, rfl⟩ | ⟨hz, hp, ht, hv, hR⟩
  · obtain ⟨f, hf⟩ : ∃ f, askF S a = f := ⟨_, rfl⟩
    have HF : Hid (askF S a = f) := hf
    have hfn : (f == 0) = false := beq_eq_false_iff_ne.2 (by rw [← hf]; exact hz)
    rw [hf]
    clear hz hf
    go_enter Tryz.func7, Tryz.ntmps7
    go_wp2_with fail
    refine (askFault_any S _ _ _ a B _ HE.out.2.2.1).mono ?_
    rw [HF.out]
    rintro e w1 ⟨rfl, q1⟩
    have HE : Hid (CallSto w B S (.slice a0 S.nc c0) (.slice a1 S.nl c1) (.slice a2 S.nw c2) w1) := HE.out.later q1
    obtain ⟨⟨⟨p0, p1, p2⟩, _⟩, ⟨⟨r0, r1, r2, r3⟩, f0, f1, f2, f3⟩, _⟩ := HE.out
    clear q1
    go_wp2
    exact bodyPost_ret (v := .agg #[.int .i64 f, .slice none 0 0, .slice none 0 0, .slice none 0 0]) (by simp [results, Tryz.results7, go_sem, r0, r1, r2, r3]) rfl ⟨none, 0, none, 0, none, 0, rfl, empty_sto _ _, (((HE.out.2.2.2.setCell (Nat.le_succ _) _).setCell (Nat.le_succ _) _).setCell (Nat.le_succ _) _).setCell (Nat.le_succ _) _⟩
  · have HA : Hid (askF S a = 0) := hz
    obtain ⟨f, hf⟩ : ∃ f, faultOf pr = f := ⟨_, rfl⟩
    have HF : Hid (faultOf pr = f) := hf
    have hfn : (f == 0) = false := beq_eq_false_iff_ne.2 (by rw [← hf]; exact hp)
    rw [hf]
    clear hz hf hp
    go_enter Tryz.func7, Tryz.ntmps7
    go_wp2_with fail
    refine (askFault_any S _ _ _ a B _ HE.out.2.2.1).mono ?_
    rw [HA.out]
    rintro e w1 ⟨rfl, q1⟩
    have HE : Hid (CallSto w B S (.slice a0 S.nc c0) (.slice a1 S.nl c1) (.slice a2 S.nw c2) w1) := HE.out.later q1
    obtain ⟨⟨⟨p0, p1, p2⟩, _⟩, ⟨⟨r0, r1, r2, r3⟩, f0, f1, f2, f3⟩, _⟩ := HE.out
    clear q1
    go_wp2_with fail
    refine (keyFault_any pr _).mono ?_
    rw [HF.out]
    rintro e w2k ⟨rfl, rfl⟩
    go_wp2
    exact bodyPost_ret (v := .agg #[.int .i64 f, .slice none 0 0, .slice none 0 0, .slice none 0 0]) (by simp [results, Tryz.results7, go_sem, r0, r1, r2, r3]) rfl ⟨none, 0, none, 0, none, 0, rfl, empty_sto _ _, (((HE.out.2.2.2.setCell (Nat.le_succ _) _).setCell (Nat.le_succ _) _).setCell (Nat.le_succ _) _).setCell (Nat.le_succ _) _⟩
  · have HA : Hid (askF S a = 0) := hz
    have HF : Hid (faultOf pr = 0) := hp
    clear hz hp
    rcases ht with q1 | ⟨q1, q2⟩ | ⟨q1, q2, q3⟩ | ⟨q1, q2, q3, q4⟩
    · have H1 : Hid (decide (1 ≤ s ∧ s ≤ 100000) = false) := decide_eq_false q1
      clear q1
      go_enter Tryz.func7, Tryz.ntmps7
      go_wp2_with fail
      refine (askFault_any S _ _ _ a B _ HE.out.2.2.1).mono ?_
      rw [HA.out]
      rintro e w1 ⟨rfl, q1⟩
      have HE : Hid (CallSto w B S (.slice a0 S.nc c0) (.slice a1 S.nl c1) (.slice a2 S.nw c2) w1) := HE.out.later q1
      obtain ⟨⟨⟨p0, p1, p2⟩, _⟩, ⟨⟨r0, r1, r2, r3⟩, f0, f1, f2, f3⟩, _⟩ := HE.out
      clear q1
      go_wp2_with fail
      refine (keyFault_any pr _).mono ?_
      rw [HF.out]
      rintro e w2k ⟨rfl, rfl⟩
      go_wp2_with fail
      refine (isTime_is s false H1.out _).mono ?_
      rintro e w3k ⟨rfl, rfl⟩
      go_wp2
      exact bodyPost_ret (v := .agg #[.int .i64 3, .slice none 0 0, .slice none 0 0, .slice none 0 0]) (by simp [results, Tryz.results7, go_sem, r0, r1, r2, r3]) rfl ⟨none, 0, none, 0, none, 0, rfl, empty_sto _ _, (((HE.out.2.2.2.setCell (Nat.le_succ _) _).setCell (Nat.le_succ _) _).setCell (Nat.le_succ _) _).setCell (Nat.le_succ _) _⟩
    · have H1 : Hid (decide (1 ≤ s ∧ s ≤ 100000) = true) := decide_eq_true q1
      have H2 : Hid (decide (1 ≤ kd ∧ kd ≤ 3) = false) := decide_eq_false q2
      clear q1 q2
      go_enter Tryz.func7, Tryz.ntmps7
      go_wp2_with fail
      refine (askFault_any S _ _ _ a B _ HE.out.2.2.1).mono ?_
      rw [HA.out]
      rintro e w1 ⟨rfl, q1⟩
      have HE : Hid (CallSto w B S (.slice a0 S.nc c0) (.slice a1 S.nl c1) (.slice a2 S.nw c2) w1) := HE.out.later q1
      obtain ⟨⟨⟨p0, p1, p2⟩, _⟩, ⟨⟨r0, r1, r2, r3⟩, f0, f1, f2, f3⟩, _⟩ := HE.out
      clear q1
      go_wp2_with fail
      refine (keyFault_any pr _).mono ?_
      rw [HF.out]
      rintro e w2k ⟨rfl, rfl⟩
      go_wp2_with fail
      refine (isTime_is s true H1.out _).mono ?_
      rintro e w3k ⟨rfl, rfl⟩
      go_wp2_with fail
      refine (isLockKind_is kd false H2.out _).mono ?_
      rintro e w4k ⟨rfl, rfl⟩
      go_wp2
      exact bodyPost_ret (v := .agg #[.int .i64 3, .slice none 0 0, .slice none 0 0, .slice none 0 0]) (by simp [results, Tryz.results7, go_sem, r0, r1, r2, r3]) rfl ⟨none, 0, none, 0, none, 0, rfl, empty_sto _ _, (((HE.out.2.2.2.setCell (Nat.le_succ _) _).setCell (Nat.le_succ _) _).setCell (Nat.le_succ _) _).setCell (Nat.le_succ _) _⟩
    · have H1 : Hid (decide (1 ≤ s ∧ s ≤ 100000) = true) := decide_eq_true q1
      have H2 : Hid (decide (1 ≤ kd ∧ kd ≤ 3) = true) := decide_eq_true q2
      have H3 : Hid (decide (0 ≤ va ∧ va ≤ 9999) = false) := decide_eq_false q3
      clear q1 q2 q3
      go_enter Tryz.func7, Tryz.ntmps7
      go_wp2_with fail
      refine (askFault_any S _ _ _ a B _ HE.out.2.2.1).mono ?_
      rw [HA.out]
      rintro e w1 ⟨rfl, q1⟩
      have HE : Hid (CallSto w B S (.slice a0 S.nc c0) (.slice a1 S.nl c1) (.slice a2 S.nw c2) w1) := HE.out.later q1
      obtain ⟨⟨⟨p0, p1, p2⟩, _⟩, ⟨⟨r0, r1, r2, r3⟩, f0, f1, f2, f3⟩, _⟩ := HE.out
      clear q1
      go_wp2_with fail
      refine (keyFault_any pr _).mono ?_
      rw [HF.out]
      rintro e w2k ⟨rfl, rfl⟩
      go_wp2_with fail
      refine (isTime_is s true H1.out _).mono ?_
      rintro e w3k ⟨rfl, rfl⟩
      go_wp2_with fail
      refine (isLockKind_is kd true H2.out _).mono ?_
      rintro e w4k ⟨rfl, rfl⟩
      go_wp2_with fail
      refine (isValue_is va false H3.out _).mono ?_
      rintro e w5k ⟨rfl, rfl⟩
      go_wp2
      exact bodyPost_ret (v := .agg #[.int .i64 3, .slice none 0 0, .slice none 0 0, .slice none 0 0]) (by simp [results, Tryz.results7, go_sem, r0, r1, r2, r3]) rfl ⟨none, 0, none, 0, none, 0, rfl, empty_sto _ _, (((HE.out.2.2.2.setCell (Nat.le_succ _) _).setCell (Nat.le_succ _) _).setCell (Nat.le_succ _) _).setCell (Nat.le_succ _) _⟩
    · have H1 : Hid (decide (1 ≤ s ∧ s ≤ 100000) = true) := decide_eq_true q1
      have H2 : Hid (decide (1 ≤ kd ∧ kd ≤ 3) = true) := decide_eq_true q2
      have H3 : Hid (decide (0 ≤ va ∧ va ≤ 9999) = true) := decide_eq_true q3
      have H4 : Hid (decide (0 ≤ un ∧ un ≤ 100000) = false) := decide_eq_false q4
      clear q1 q2 q3 q4
      go_enter Tryz.func7, Tryz.ntmps7
      go_wp2_with fail
      refine (askFault_any S _ _ _ a B _ HE.out.2.2.1).mono ?_
      rw [HA.out]
      rintro e w1 ⟨rfl, q1⟩
      have HE : Hid (CallSto w B S (.slice a0 S.nc c0) (.slice a1 S.nl c1) (.slice a2 S.nw c2) w1) := HE.out.later q1
      obtain ⟨⟨⟨p0, p1, p2⟩, _⟩, ⟨⟨r0, r1, r2, r3⟩, f0, f1, f2, f3⟩, _⟩ := HE.out
      clear q1
      go_wp2_with fail
      refine (keyFault_any pr _).mono ?_
      rw [HF.out]
      rintro e w2k ⟨rfl, rfl⟩
      go_wp2_with fail
      refine (isTime_is s true H1.out _).mono ?_
      rintro e w3k ⟨rfl, rfl⟩
      go_wp2_with fail
      refine (isLockKind_is kd true H2.out _).mono ?_
      rintro e w4k ⟨rfl, rfl⟩
      go_wp2_with fail
      refine (isValue_is va true H3.out _).mono ?_
      rintro e w5k ⟨rfl, rfl⟩
      go_wp2_with fail
      refine (isUntil_is un false H4.out _).mono ?_
      rintro e w2' ⟨rfl, rfl⟩
      go_wp2
      exact bodyPost_ret (v := .agg #[.int .i64 3, .slice none 0 0, .slice none 0 0, .slice none 0 0]) (by simp [results, Tryz.results7, go_sem, r0, r1, r2, r3]) rfl ⟨none, 0, none, 0, none, 0, rfl, empty_sto _ _, (((HE.out.2.2.2.setCell (Nat.le_succ _) _).setCell (Nat.le_succ _) _).setCell (Nat.le_succ _) _).setCell (Nat.le_succ _) _⟩
  · have HA : Hid (askF S a = 0) := hz
    have HF : Hid (faultOf pr = 0) := hp
    obtain ⟨q1, q2, q3, q4⟩ := ht
    have H1 : Hid (decide (1 ≤ s ∧ s ≤ 100000) = true) := decide_eq_true q1
    have H2 : Hid (decide (1 ≤ kd ∧ kd ≤ 3) = true) := decide_eq_true q2
    have H3 : Hid (decide (0 ≤ va ∧ va ≤ 9999) = true) := decide_eq_true q3
    have H4 : Hid (decide (0 ≤ un ∧ un ≤ 100000) = true) := decide_eq_true q4
    have dv : (va != 0) = true := bne_iff_ne.2 hv
    have dv' : (va == 0) = false := beq_eq_false_iff_ne.2 hv
    have dk : (kd != 1) = true := bne_iff_ne.2 hk
    have dk' : (kd == 1) = false := beq_eq_false_iff_ne.2 hk
    clear hz hp q1 q2 q3 q4 hv hk
    go_enter Tryz.func7, Tryz.ntmps7
    go_wp2_with fail
    refine (askFault_any S _ _ _ a B _ HE.out.2.2.1).mono ?_
    rw [HA.out]
    rintro e w1 ⟨rfl, q1⟩
    have HE : Hid (CallSto w B S (.slice a0 S.nc c0) (.slice a1 S.nl c1) (.slice a2 S.nw c2) w1) := HE.out.later q1
    obtain ⟨⟨⟨p0, p1, p2⟩, _⟩, ⟨⟨r0, r1, r2, r3⟩, f0, f1, f2, f3⟩, _⟩ := HE.out
    clear q1
    go_wp2_with fail
    refine (keyFault_any pr _).mono ?_
    rw [HF.out]
    rintro e w2k ⟨rfl, rfl⟩
    go_wp2_with fail
    refine (isTime_is s true H1.out _).mono ?_
    rintro e w3k ⟨rfl, rfl⟩
    go_wp2_with fail
    refine (isLockKind_is kd true H2.out _).mono ?_
    rintro e w4k ⟨rfl, rfl⟩
    go_wp2_with fail
    refine (isValue_is va true H3.out _).mono ?_
    rintro e w5k ⟨rfl, rfl⟩
    go_wp2_with fail
    refine (isUntil_is un true H4.out _).mono ?_
    rintro e w2' ⟨rfl, rfl⟩
    go_wp2
    exact bodyPost_ret (v := .agg #[.int .i64 1, .slice none 0 0, .slice none 0 0, .slice none 0 0]) (by simp [results, Tryz.results7, go_sem, r0, r1, r2, r3]) rfl ⟨none, 0, none, 0, none, 0, rfl, empty_sto _ _, (((HE.out.2.2.2.setCell (Nat.le_succ _) _).setCell (Nat.le_succ _) _).setCell (Nat.le_succ _) _).setCell (Nat.le_succ _) _⟩
  · have HA : Hid (askF S a = 0) := hz
    have HF : Hid (faultOf pr = 0) := hp
    have hs := (askF_zero hz).1
    have hka := faultOf_zero (askF_zero hz).2
    obtain ⟨q1, q2, q3, q4⟩ := ht
    have WA : Hid (Wf a ∧ Wf s ∧ Wf va) := ⟨wf_small hka.1 (by omega), by unfold isT at q1; exact wf_small (by omega) q1.2, by unfold valOk at q3; exact wf_small q3.1 (by omega)⟩
    have Z := storeF_zero hs
    have HZ : Hid (scan (cellF S.c) S.nc = 0 ∧ (S.nc ≤ 200 ∧ S.nl ≤ 200 ∧ S.nw ≤ 200)) := ⟨Z.2.1, Z.1⟩
    have HS : Hid (storeF S = 0) := hs
    have HR : Hid (PreRes S a s kd pr un va r R) := hR
    have H1 : Hid (decide (1 ≤ s ∧ s ≤ 100000) = true) := decide_eq_true q1
    have H2 : Hid (decide (1 ≤ kd ∧ kd ≤ 3) = true) := decide_eq_true q2
    have H3 : Hid (decide (0 ≤ va ∧ va ≤ 9999) = true) := decide_eq_true q3
    have H4 : Hid (decide (0 ≤ un ∧ un ≤ 100000) = true) := decide_eq_true q4
    clear hz hs hp q1 q2 q3 q4 hR Z hka
    by_cases hv0 : va = 0
    · have dv : (va != 0) = false := by rw [hv0]; rfl
      have dv' : (va == 0) = true := beq_iff_eq.2 hv0
      clear hv hv0
      go_enter Tryz.func7, Tryz.ntmps7
      go_wp2_with fail
      refine (askFault_any S _ _ _ a B _ HE.out.2.2.1).mono ?_
      rw [HA.out]
      rintro e w1 ⟨rfl, q1⟩
      have HE : Hid (CallSto w B S (.slice a0 S.nc c0) (.slice a1 S.nl c1) (.slice a2 S.nw c2) w1) := HE.out.later q1
      obtain ⟨⟨⟨p0, p1, p2⟩, _⟩, ⟨⟨r0, r1, r2, r3⟩, f0, f1, f2, f3⟩, _⟩ := HE.out
      clear q1
      go_wp2_with fail
      refine (keyFault_any pr _).mono ?_
      rw [HF.out]
      rintro e w2k ⟨rfl, rfl⟩
      go_wp2_with fail
      refine (isTime_is s true H1.out _).mono ?_
      rintro e w3k ⟨rfl, rfl⟩
      go_wp2_with fail
      refine (isLockKind_is kd true H2.out _).mono ?_
      rintro e w4k ⟨rfl, rfl⟩
      go_wp2_with fail
      refine (isValue_is va true H3.out _).mono ?_
      rintro e w5k ⟨rfl, rfl⟩
      go_wp2_with fail
      refine (isUntil_is un true H4.out _).mono ?_
      rintro e w2' ⟨rfl, rfl⟩
      go_wp2_with fail
      refine (columnsOf_apart S B _ _ _ _ HE.out.2.2.1 HZ.out.2.1 HZ.out.2.2.1 HZ.out.2.2.2 HZ.out.1).mono ?_
      rintro e w2 ⟨b, g, u1, u2, rfl, hC, hap, q1⟩
      clear p0 p1 p2 r0 r1 r2 r3 f0 f1 f2 f3
      have HC : Hid (Cols w2 w2'.heap.size b S.nc (cellM S S.nc) S.nl S.l S.nw S.k g u1 u2 ∧ ApartC b g u1 u2) := ⟨hC, hap⟩
      have zw : Hid (w.heap.size + 2 ≤ w2'.heap.size) := HE.out.2.1.lt
      have z2w : Hid (w2'.heap.size ≤ w2.heap.size) := q1.size
      have HE : Hid (CallSto w B S (.slice a0 S.nc c0) (.slice a1 S.nl c1) (.slice a2 S.nw c2) w2) := HE.out.later q1
      clear q1 hC hap
      go_wp2_with fail
      refine (colPre_res S HS.out _ b g u1 u2 a s kd pr un va r WA.out.1 WA.out.2.1 WA.out.2.2 R _ (HC.out.1.later (below_alloc _ _)) HC.out.2 HR.out).mono ?_
      rintro e w3 ⟨hb3a, hans⟩
      have hb3 : Below w2'.heap.size w2 w3 := ((below_alloc w2 _).mono z2w.out).trans hb3a
      clear hb3a
      have HR3 : Hid (Blk4 w3 (w.heap.size + 1) (.int .i64 0) (.slice none 0 0) (.slice none 0 0) (.slice none 0 0) ∧ Below w.heap.size w w3) := ⟨HE.out.2.1.kept (hb3.block (w.heap.size + 1) (by have := zw.out; omega)), HE.out.2.2.2.trans (hb3.mono (by have := zw.out; omega))⟩
      have z3 : Hid (w.heap.size + 2 ≤ w3.heap.size) := HR3.out.1.lt
      clear hb3 HE HC
      rcases hans with ⟨kk, rfl, hk, rfl⟩ | ⟨rfl, rfl, hn, NN, mm, y1, y2, hNN, hMM, hC3⟩
      · have hrn : (r == 0) = false := beq_eq_false_iff_ne.2 (by unfold codeOf at hk; omega)
        have HK : Hid (codeOf kk r) := hk
        clear hk HR
        go_wp2_with fail
        refine (unless_hit kk r HK.out hrn (some ⟨b, 0, none⟩) w3 (HL.out.later HR3.out.2)).mono ?_
        rintro e w4 ⟨d0, e0, d1, e1, d2, e2, rfl, ⟨s3, f3', a3⟩, q4⟩
        have S3 : Hid ((St w4 (w.heap.size + 2) emptyS (.slice d0 (emptyS).nc e0) (.slice d1 (emptyS).nl e1) (.slice d2 (emptyS).nw e2) ∧ FreeS w4 emptyS (.slice d0 (emptyS).nc e0) (.slice d1 (emptyS).nl e1) (.slice d2 (emptyS).nw e2)) ∧ ApartD emptyS (.slice d0 (emptyS).nc e0) (.slice d1 (emptyS).nl e1) (.slice d2 (emptyS).nw e2)) := ⟨⟨s3.mono z3.out, f3'⟩, a3⟩
        have HBW : Hid (Below w.heap.size w w4) := HR3.out.2.trans (q4.mono HR3.out.2.size)
        obtain ⟨⟨r0, r1, r2, r3⟩, f0, f1, f2, f3⟩ := HR3.out.1.later q4
        clear s3 f3' a3 q4
        have hlo : (w.heap.size + 1 : Nat) < w.heap.size + 2 := Nat.lt_succ_self _
        go_wp2
        exact bodyPost_ret (v := .agg #[.int .i64 r, .slice d0 emptyS.nc e0, .slice d1 emptyS.nl e1, .slice d2 emptyS.nw e2]) (by simp [results, Tryz.results7, go_sem, r0, r1, r2, r3]) rfl ⟨d0, e0, d1, e1, d2, e2, rfl, ⟨((((S3.out.1.1.far hlo _).far hlo _).far hlo _).far hlo _).mono (by omega), (((S3.out.1.2.far _ _).far _ _).far _ _).far _ _, S3.out.2⟩, (((HBW.out.setCell (Nat.le_succ _) _).setCell (Nat.le_succ _) _).setCell (Nat.le_succ _) _).setCell (Nat.le_succ _) _⟩
      · obtain ⟨nc, cc, nl, l, nw, k⟩ := R
        have HC3 : Hid (Cols w3 w2'.heap.size b NN mm nl l nw k g y1 y2 ∧ MapRow mm nc cc) := ⟨hC3, hMM⟩
        have HM : Hid ((nl ≤ 200 ∧ nw ≤ 200) ∧ NN ≤ 400) := ⟨hn, hNN⟩
        clear hC3 hn hNN hMM HR
        go_wp2_with fail
        refine (unless_ok _ b NN mm nl l nw k g y1 y2 w3 HC3.out.1 HM.out.1.1 HM.out.1.2 HM.out.2 nc cc HC3.out.2).mono ?_
        rintro e w4 ⟨d0, e0, d1, e1, d2, e2, rfl, ⟨s3, f3', a3⟩, q4⟩
        obtain ⟨RR, hRR⟩ : ∃ RR : Sto, RR = ⟨nc, cc, nl, l, nw, k⟩ := ⟨_, rfl⟩
        rw [← hRR] at s3 f3' a3 ⊢
        have HRR : Hid (RR = ⟨nc, cc, nl, l, nw, k⟩) := hRR
        clear hRR
        have S3 : Hid ((St w4 (w.heap.size + 2) RR (.slice d0 (RR).nc e0) (.slice d1 (RR).nl e1) (.slice d2 (RR).nw e2) ∧ FreeS w4 RR (.slice d0 (RR).nc e0) (.slice d1 (RR).nl e1) (.slice d2 (RR).nw e2)) ∧ ApartD RR (.slice d0 (RR).nc e0) (.slice d1 (RR).nl e1) (.slice d2 (RR).nw e2)) := ⟨⟨s3.mono z3.out, f3'⟩, a3⟩
        have HBW : Hid (Below w.heap.size w w4) := HR3.out.2.trans (q4.mono HR3.out.2.size)
        obtain ⟨⟨r0, r1, r2, r3⟩, f0, f1, f2, f3⟩ := HR3.out.1.later q4
        clear s3 f3' a3 q4
        have hlo : (w.heap.size + 1 : Nat) < w.heap.size + 2 := Nat.lt_succ_self _
        go_wp2
        have hRR := HRR.out
        clear HRR
        subst hRR
        exact bodyPost_ret (v := .agg #[.int .i64 0, .slice d0 nc e0, .slice d1 nl e1, .slice d2 nw e2]) (by simp [results, Tryz.results7, go_sem, r0, r1, r2, r3]) rfl ⟨d0, e0, d1, e1, d2, e2, rfl, ⟨((((S3.out.1.1.far hlo _).far hlo _).far hlo _).far hlo _).mono (by omega), (((S3.out.1.2.far _ _).far _ _).far _ _).far _ _, S3.out.2⟩, (((HBW.out.setCell (Nat.le_succ _) _).setCell (Nat.le_succ _) _).setCell (Nat.le_succ _) _).setCell (Nat.le_succ _) _⟩
    · have dv : (va != 0) = true := bne_iff_ne.2 hv0
      have dv' : (va == 0) = false := beq_eq_false_iff_ne.2 hv0
      have hk1 : kd = 1 := by omega
      have dk : (kd != 1) = false := by rw [hk1]; rfl
      have dk' : (kd == 1) = true := beq_iff_eq.2 hk1
      clear hv hv0 hk1
      go_enter Tryz.func7, Tryz.ntmps7
      go_wp2_with fail
      refine (askFault_any S _ _ _ a B _ HE.out.2.2.1).mono ?_
      rw [HA.out]
      rintro e w1 ⟨rfl, q1⟩
      have HE : Hid (CallSto w B S (.slice a0 S.nc c0) (.slice a1 S.nl c1) (.slice a2 S.nw c2) w1) := HE.out.later q1
      obtain ⟨⟨⟨p0, p1, p2⟩, _⟩, ⟨⟨r0, r1, r2, r3⟩, f0, f1, f2, f3⟩, _⟩ := HE.out
      clear q1
      go_wp2_with fail
      refine (keyFault_any pr _).mono ?_
      rw [HF.out]
      rintro e w2k ⟨rfl, rfl⟩
      go_wp2_with fail
      refine (isTime_is s true H1.out _).mono ?_
      rintro e w3k ⟨rfl, rfl⟩
      go_wp2_with fail
      refine (isLockKind_is kd true H2.out _).mono ?_
      rintro e w4k ⟨rfl, rfl⟩
      go_wp2_with fail
      refine (isValue_is va true H3.out _).mono ?_
      rintro e w5k ⟨rfl, rfl⟩
      go_wp2_with fail
      refine (isUntil_is un true H4.out _).mono ?_
      rintro e w2' ⟨rfl, rfl⟩
      go_wp2_with fail
      refine (columnsOf_apart S B _ _ _ _ HE.out.2.2.1 HZ.out.2.1 HZ.out.2.2.1 HZ.out.2.2.2 HZ.out.1).mono ?_
      rintro e w2 ⟨b, g, u1, u2, rfl, hC, hap, q1⟩
      clear p0 p1 p2 r0 r1 r2 r3 f0 f1 f2 f3
      have HC : Hid (Cols w2 w2'.heap.size b S.nc (cellM S S.nc) S.nl S.l S.nw S.k g u1 u2 ∧ ApartC b g u1 u2) := ⟨hC, hap⟩
      have zw : Hid (w.heap.size + 2 ≤ w2'.heap.size) := HE.out.2.1.lt
      have z2w : Hid (w2'.heap.size ≤ w2.heap.size) := q1.size
      have HE : Hid (CallSto w B S (.slice a0 S.nc c0) (.slice a1 S.nl c1) (.slice a2 S.nw c2) w2) := HE.out.later q1
      clear q1 hC hap
      go_wp2_with fail
      refine (colPre_res S HS.out _ b g u1 u2 a s kd pr un va r WA.out.1 WA.out.2.1 WA.out.2.2 R _ (HC.out.1.later (below_alloc _ _)) HC.out.2 HR.out).mono ?_
      rintro e w3 ⟨hb3a, hans⟩
      have hb3 : Below w2'.heap.size w2 w3 := ((below_alloc w2 _).mono z2w.out).trans hb3a
      clear hb3a
      have HR3 : Hid (Blk4 w3 (w.heap.size + 1) (.int .i64 0) (.slice none 0 0) (.slice none 0 0) (.slice none 0 0) ∧ Below w.heap.size w w3) := ⟨HE.out.2.1.kept (hb3.block (w.heap.size + 1) (by have := zw.out; omega)), HE.out.2.2.2.trans (hb3.mono (by have := zw.out; omega))⟩
      have z3 : Hid (w.heap.size + 2 ≤ w3.heap.size) := HR3.out.1.lt
      clear hb3 HE HC
      rcases hans with ⟨kk, rfl, hk, rfl⟩ | ⟨rfl, rfl, hn, NN, mm, y1, y2, hNN, hMM, hC3⟩
      · have hrn : (r == 0) = false := beq_eq_false_iff_ne.2 (by unfold codeOf at hk; omega)
        have HK : Hid (codeOf kk r) := hk
        clear hk HR
        go_wp2_with fail
        refine (unless_hit kk r HK.out hrn (some ⟨b, 0, none⟩) w3 (HL.out.later HR3.out.2)).mono ?_
        rintro e w4 ⟨d0, e0, d1, e1, d2, e2, rfl, ⟨s3, f3', a3⟩, q4⟩
        have S3 : Hid ((St w4 (w.heap.size + 2) emptyS (.slice d0 (emptyS).nc e0) (.slice d1 (emptyS).nl e1) (.slice d2 (emptyS).nw e2) ∧ FreeS w4 emptyS (.slice d0 (emptyS).nc e0) (.slice d1 (emptyS).nl e1) (.slice d2 (emptyS).nw e2)) ∧ ApartD emptyS (.slice d0 (emptyS).nc e0) (.slice d1 (emptyS).nl e1) (.slice d2 (emptyS).nw e2)) := ⟨⟨s3.mono z3.out, f3'⟩, a3⟩
        have HBW : Hid (Below w.heap.size w w4) := HR3.out.2.trans (q4.mono HR3.out.2.size)
        obtain ⟨⟨r0, r1, r2, r3⟩, f0, f1, f2, f3⟩ := HR3.out.1.later q4
        clear s3 f3' a3 q4
        have hlo : (w.heap.size + 1 : Nat) < w.heap.size + 2 := Nat.lt_succ_self _
        go_wp2
        exact bodyPost_ret (v := .agg #[.int .i64 r, .slice d0 emptyS.nc e0, .slice d1 emptyS.nl e1, .slice d2 emptyS.nw e2]) (by simp [results, Tryz.results7, go_sem, r0, r1, r2, r3]) rfl ⟨d0, e0, d1, e1, d2, e2, rfl, ⟨((((S3.out.1.1.far hlo _).far hlo _).far hlo _).far hlo _).mono (by omega), (((S3.out.1.2.far _ _).far _ _).far _ _).far _ _, S3.out.2⟩, (((HBW.out.setCell (Nat.le_succ _) _).setCell (Nat.le_succ _) _).setCell (Nat.le_succ _) _).setCell (Nat.le_succ _) _⟩
      · obtain ⟨nc, cc, nl, l, nw, k⟩ := R
        have HC3 : Hid (Cols w3 w2'.heap.size b NN mm nl l nw k g y1 y2 ∧ MapRow mm nc cc) := ⟨hC3, hMM⟩
        have HM : Hid ((nl ≤ 200 ∧ nw ≤ 200) ∧ NN ≤ 400) := ⟨hn, hNN⟩
        clear hC3 hn hNN hMM HR
        go_wp2_with fail
        refine (unless_ok _ b NN mm nl l nw k g y1 y2 w3 HC3.out.1 HM.out.1.1 HM.out.1.2 HM.out.2 nc cc HC3.out.2).mono ?_
        rintro e w4 ⟨d0, e0, d1, e1, d2, e2, rfl, ⟨s3, f3', a3⟩, q4⟩
        obtain ⟨RR, hRR⟩ : ∃ RR : Sto, RR = ⟨nc, cc, nl, l, nw, k⟩ := ⟨_, rfl⟩
        rw [← hRR] at s3 f3' a3 ⊢
        have HRR : Hid (RR = ⟨nc, cc, nl, l, nw, k⟩) := hRR
        clear hRR
        have S3 : Hid ((St w4 (w.heap.size + 2) RR (.slice d0 (RR).nc e0) (.slice d1 (RR).nl e1) (.slice d2 (RR).nw e2) ∧ FreeS w4 RR (.slice d0 (RR).nc e0) (.slice d1 (RR).nl e1) (.slice d2 (RR).nw e2)) ∧ ApartD RR (.slice d0 (RR).nc e0) (.slice d1 (RR).nl e1) (.slice d2 (RR).nw e2)) := ⟨⟨s3.mono z3.out, f3'⟩, a3⟩
        have HBW : Hid (Below w.heap.size w w4) := HR3.out.2.trans (q4.mono HR3.out.2.size)
        obtain ⟨⟨r0, r1, r2, r3⟩, f0, f1, f2, f3⟩ := HR3.out.1.later q4
        clear s3 f3' a3 q4
        have hlo : (w.heap.size + 1 : Nat) < w.heap.size + 2 := Nat.lt_succ_self _
        go_wp2
        have hRR := HRR.out
        clear HRR
        subst hRR
        exact bodyPost_ret (v := .agg #[.int .i64 0, .slice d0 nc e0, .slice d1 nl e1, .slice d2 nw e2]) (by simp [results, Tryz.results7, go_sem, r0, r1, r2, r3]) rfl ⟨d0, e0, d1, e1, d2, e2, rfl, ⟨((((S3.out.1.1.far hlo _).far hlo _).far hlo _).far hlo _).mono (by omega), (((S3.out.1.2.far _ _).far _ _).far _ _).far _ _, S3.out.2⟩, (((HBW.out.setCell (Nat.le_succ _) _).setCell (Nat.le_succ _) _).setCell (Nat.le_succ _) _).setCell (Nat.le_succ _) _⟩
theorem PreRes.get (S : Sto) (hz : storeF S = 0) (a s kd pr un va : Int) : ∃ r R, Small R ∧ PreRes S a s kd pr un va r R := by
  obtain ⟨⟨hc, hl, hw⟩, _⟩ := storeF_zero hz
  have hS : Small S := ⟨by omega, by omega, by omega⟩
  by_cases h1 : lateP S.k S.nw a s
  · exact ⟨8, emptyS, small_empty, Or.inl ⟨h1, rfl, rfl⟩⟩
  obtain ⟨i, hi⟩ := FirstAt.get (lockIs S.l a) S.nl
  rcases hi with ⟨rfl, hn⟩ | ⟨j, hj, rfl, hp, hq⟩
  · have h2 : FirstAt (lockIs S.l a) S.nl (-1) := Or.inl ⟨rfl, hn⟩
    obtain ⟨hv, h3⟩ := FirstAt.get (cellIs S.c a s) S.nc
    by_cases h4 : 200 ≤ S.nl
    · exact ⟨2, emptyS, small_empty, Or.inr (Or.inr (Or.inr (Or.inl ⟨h1, h2, hv, h3, Or.inl h4, rfl, rfl⟩)))⟩
    obtain ⟨k, hk⟩ := placeAt.get (aheadL S.l a) S.nl
    by_cases h5 : kd = 1
    · rcases h3 with ⟨rfl, h3⟩ | ⟨j, hj, rfl, hp, hq⟩
      · have h3' : FirstAt (cellIs S.c a s) S.nc (-1) := Or.inl ⟨rfl, h3⟩
        by_cases h6 : 200 ≤ S.nc
        · exact ⟨2, emptyS, small_empty, Or.inr (Or.inr (Or.inr (Or.inl ⟨h1, h2, -1, h3', Or.inr ⟨h5, rfl, h6⟩, rfl, rfl⟩)))⟩
        · obtain ⟨q, hq⟩ := placeAt.get (aheadC S.c a s) S.nc
          refine ⟨0, putS S k q a s pr un va, ⟨?_, ?_, hS.2.2⟩, Or.inr (Or.inr (Or.inr (Or.inr (Or.inr (Or.inl ⟨h1, h2, by omega, h5, h3', by omega, k, q, hk, hq, rfl, rfl⟩)))))⟩
          · show S.nc + 1 ≤ _; omega
          · show S.nl + 1 ≤ _; omega
      · obtain ⟨q, hqq⟩ := placeAt.get (aheadC (fun p => (unlC S.c a s S.nc).flatten.getD p 0) a s) (unlC S.c a s S.nc).length
        refine ⟨0, reputS S k q a s pr un va, ⟨?_, ?_, hS.2.2⟩, Or.inr (Or.inr (Or.inr (Or.inr (Or.inr (Or.inr ⟨h1, h2, by omega, h5, j, k, q, Or.inr ⟨j, hj, rfl, hp, hq⟩, hk, hqq, rfl, rfl⟩)))))⟩
        · show (unlC S.c a s S.nc).length + 1 ≤ _
          have : (unlC S.c a s S.nc).length ≤ S.nc := selD_le _ _ _ _
          omega
        · show S.nl + 1 ≤ _; omega
    · refine ⟨0, lockS S k a s kd pr un, ⟨hS.1, ?_, hS.2.2⟩, Or.inr (Or.inr (Or.inr (Or.inr (Or.inl ⟨h1, h2, by omega, h5, hv, k, h3, hk, rfl, rfl⟩))))⟩
      show S.nl + 1 ≤ _; omega
  · by_cases h4 : S.l (j * 5 + 1) = s
    · exact ⟨0, S, hS, Or.inr (Or.inl ⟨h1, j, Or.inr ⟨j, hj, rfl, hp, hq⟩, h4, rfl, rfl⟩)⟩
    · exact ⟨7, emptyS, small_empty, Or.inr (Or.inr (Or.inl ⟨h1, j, Or.inr ⟨j, hj, rfl, hp, hq⟩, h4, rfl, rfl⟩))⟩
theorem PreAns.get (S : Sto) (a s kd va pr un : Int) : ∃ r R, Small R ∧ PreAns S a s kd va pr un r R := by
  by_cases hz : askF S a = 0
  case neg => exact ⟨_, emptyS, small_empty, Or.inl ⟨hz, rfl, rfl⟩⟩
  by_cases hp : faultOf pr = 0
  case neg => exact ⟨_, emptyS, small_empty, Or.inr (Or.inl ⟨hz, hp, rfl, rfl⟩)⟩
  by_cases q1 : isT s
  case neg => exact ⟨3, emptyS, small_empty, Or.inr (Or.inr (Or.inl ⟨hz, hp, Or.inl q1, rfl, rfl⟩))⟩
  by_cases q2 : kindOk kd
  case neg => exact ⟨3, emptyS, small_empty, Or.inr (Or.inr (Or.inl ⟨hz, hp, Or.inr (Or.inl ⟨q1, q2⟩), rfl, rfl⟩))⟩
  by_cases q3 : valOk va
  case neg => exact ⟨3, emptyS, small_empty, Or.inr (Or.inr (Or.inl ⟨hz, hp, Or.inr (Or.inr (Or.inl ⟨q1, q2, q3⟩)), rfl, rfl⟩))⟩
  by_cases q4 : untOk un
  case neg => exact ⟨3, emptyS, small_empty, Or.inr (Or.inr (Or.inl ⟨hz, hp, Or.inr (Or.inr (Or.inr ⟨q1, q2, q3, q4⟩)), rfl, rfl⟩))⟩
  by_cases hv : va = 0 ∨ kd = 1
  · obtain ⟨r, R, h1, h2⟩ := PreRes.get S (askF_zero hz).1 a s kd pr un va
    exact ⟨r, R, h1, Or.inr (Or.inr (Or.inr (Or.inr ⟨hz, hp, ⟨q1, q2, q3, q4⟩, hv, h2⟩)))⟩
  · exact ⟨1, emptyS, small_empty, Or.inr (Or.inr (Or.inr (Or.inl ⟨hz, hp, ⟨q1, q2, q3, q4⟩, fun q => hv (Or.inl q), fun q => hv (Or.inr q), rfl, rfl⟩)))⟩
theorem prewrite_ans (S : Sto) (a s kd va pr un : Int) : ∃ r R, (R.nc ≤ 1048576 ∧ R.nl ≤ 1048576 ∧ R.nw ≤ 1048576) ∧
      (∀ y0 y1 y2 x, St x 0 S y0 y1 y2 → Calls Tryz.prog 5 #[.agg #[y0, y1, y2], .int .i64 a, .int .i64 s, .int .i64 kd, .int .i64 va, .int .i64 pr, .int .i64 un] x (ResSto x r R)) ∧
      (∀ y0 y1 y2 x, St x 0 S y0 y1 y2 → Laid x → Calls Tryz.prog 7 #[.agg #[y0, y1, y2], .int .i64 a, .int .i64 s, .int .i64 kd, .int .i64 va, .int .i64 pr, .int .i64 un] x (ResSto x r R)) := by
  obtain ⟨r, R, hb, hA⟩ := PreAns.get S a s kd va pr un
  exact ⟨r, R, hb, fun y0 y1 y2 x hx => specPrewrite_is S y0 y1 y2 a s kd va pr un r R 0 x hx hA, fun y0 y1 y2 x hx hL => implPrewrite_is S y0 y1 y2 a s kd va pr un r R 0 x hx hL hA⟩
theorem prewrite_walk (S : Sto) (v0 v1 v2 : Value) (a s kd va pr un : Int) (w : World) (h : St w 0 S v0 v1 v2) (hc : S.nc ≤ 9223372036854775807) (hl : S.nl ≤ 9223372036854775807) (hk : S.nw ≤ 9223372036854775807) (_ : (∀ p, (Lit.int .i64 (S.c p)).wf = true) ∧ (∀ p, (Lit.int .i64 (S.l p)).wf = true) ∧ ∀ p, (Lit.int .i64 (S.k p)).wf = true) (_ : (Lit.int .i64 a).wf = true) (_ : (Lit.int .i64 s).wf = true) (_ : (Lit.int .i64 kd).wf = true) (_ : (Lit.int .i64 va).wf = true) (_ : (Lit.int .i64 pr).wf = true) (_ : (Lit.int .i64 un).wf = true) (hL : Laid w) :
    Calls Tryz.prog 3 #[.agg #[v0, v1, v2], .int .i64 a, .int .i64 s, .int .i64 kd, .int .i64 va, .int .i64 pr, .int .i64 un] w fun e w' => e = .returned (.bool true) ∧ Below w.heap.size w w' :=
  exactPrewrite_walk S v0 v1 v2 a s kd va pr un w h hc hl hk hL (fun _ _ _ => prewrite_ans S a s kd va pr un)
end
end Go.Proofs.YtkbjlnnincknaaaGreatDoor
