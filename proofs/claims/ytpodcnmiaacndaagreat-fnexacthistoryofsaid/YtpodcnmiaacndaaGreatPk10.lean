/-
  Own text, merged of RunH, RunI, RunJ, DonF, ModC, IntsA, FsE, RunK, TxsD, TxsE, AcmD, RunM, RunZ.
-/
import Derived.Test.YtpodcnmiaacndaaGreatPk9
namespace Go.Proofs.YtpodcnmiaacndaaGreat
open Go.RowKit

/-- The commit of place p among the first m of a list: 0 where there is none. -/
def lastC (D : Prs) (p : Int) : Nat → Int
  | 0 => 0
  | m + 1 => if (D.getD m (0, 0)).1 = p then (D.getD m (0, 0)).2 else lastC D p m
/-- When a run counts: 0 where it doesn't. -/
def whenC (D : Prs) (pl ts : Int) : Int := if 0 ≤ pl then lastC D pl D.length else ts
/-- The history of the first k runs. -/
def histL (D : Prs) (R : Nat → Int) : Nat → Prs
  | 0 => []
  | k + 1 => if whenC D (R (k * 10 + 6)) (R (k * 10 + 7)) = 0 then histL D R k else putD (histL D R k) (k, whenC D (R (k * 10 + 6)) (R (k * 10 + 7)))
theorem histL_lt (D : Prs) (R : Nat → Int) : ∀ (k : Nat) (e : Int × Int), e ∈ histL D R k → e.1 < k
  | 0, e, h => absurd h (by simp [histL])
  | k + 1, e, h => by
    rw [histL] at h
    split at h
    · have := histL_lt D R k e h; omega
    · rcases putD_mem h with rfl | q
      · show (k : Int) < _; omega
      · have := histL_lt D R k e q; omega
theorem histL_len (D : Prs) (R : Nat → Int) : ∀ k, (histL D R k).length ≤ k
  | 0 => by simp [histL]
  | k + 1 => by
    have := histL_len D R k
    rw [histL]
    split
    · omega
    · rw [putD_length]; omega
theorem histL_rises (D : Prs) (R : Nat → Int) : ∀ k, RisesD (histL D R k)
  | 0 => List.Pairwise.nil
  | k + 1 => by
    rw [histL]
    split
    · exact histL_rises D R k
    · exact putD_rises (histL_rises D R k) (fun e he => by have := histL_lt D R k e he; show e.1 ≠ (k : Int); omega)
theorem lastC_hit {D : Prs} {p : Int} {m : Nat} (h : (D.getD m (0, 0)).1 = p) : lastC D p (m + 1) = (D.getD m (0, 0)).2 := by rw [lastC, if_pos h]
theorem lastC_miss {D : Prs} {p : Int} {m : Nat} (h : (D.getD m (0, 0)).1 ≠ p) : lastC D p (m + 1) = lastC D p m := by rw [lastC, if_neg h]
/-- What stands while the place is looked for. -/
def InH (w : World) (z k : Nat) (c : Int) (L : Prs) (v : Value) (D : Prs) (vl : Value) (X : World) : Prop := Blk2 X z (.int .i64 k) (.int .i64 c) ∧ Own X w.heap.size 92 2 L.length (rowL L) v ∧ Below w.heap.size w X ∧ Row X 0 2 D.length (rowL D) vl
theorem InH.drewN {w X : World} {z k : Nat} {c : Int} {L : Prs} {v : Value} {D : Prs} {vl : Value} (h : InH w z k c L v D vl X) (q : Nat) : InH w z k c L v D vl (X.drewN q) := ⟨h.1, h.2.1, below_dn h.2.2.1 _, h.2.2.2⟩
theorem Blk2.put1H {x : World} {b : Nat} {a0 a1 : Value} (h : Blk2 x b a0 a1) (u : Value) : Blk2 (x.setCell ⟨b, 1, none⟩ u) b a0 u := by
  obtain ⟨⟨h0, h1⟩, f0, f1⟩ := h
  refine ⟨⟨(World.cell?_setCell_other _ _ _ _ (by simp)).trans h0, World.cell?_setCell_same _ _ _ h1⟩, ?_, ?_⟩
  all_goals rw [World.frozen?_setCell]; assumption
theorem below_dH {B : Nat} {a w : World} (h : Below B a w) (q : Nat) : Below B a (w.drewN q) := ⟨h.os, h.tape, h.output, h.size, h.block⟩
set_option maxRecDepth 100000 in
set_option maxHeartbeats 8000000 in
theorem l15History_is (b : Nat) (nw nx bd : Int) (nr : Nat) (F : Nat → Int) (n : Nat) (S : Nat → Sto) (V : Nat → Nat → Value) (vr vs : Value) (nt : Nat) (T : Nat → Tx) (X : Nat → Value) (vt : Value) (nk : Nat) (R : Nat → Int) (vq : Value) (Q : Nat → Option Int) (D : Prs) (w : World) (h : LiesF w b nw nx bd nr F n S V vr vs nt T X vt nk R vq) (hr : nr ≤ 6) (hn : n = nr) (hs : ∀ i, i < n → (S i).nl ≤ 200 ∧ (S i).nw ≤ 200) (hnt : nt ≤ 16) (hit : ∀ i, i < nt → 1 ≤ (T i).m) (hQ : ∀ i, i < nt → DoneAt nr F S (T i) (Q i)) (hD : donesL Q nt = D) (hnk : nk ≤ 30) (hft : ∀ i, i < nk → 1 ≤ R (i * 10 + 7)) :
    Calls Tryz.prog 35 #[.pointer (some ⟨b, 0, none⟩)] w fun e w' => ∃ ao cp, e = .returned (.slice ao (histL D R nk).length cp) ∧ Own w' w.heap.size 92 2 (histL D R nk).length (rowL (histL D R nk)) (.slice ao (histL D R nk).length cp) ∧ Below w.heap.size w w' := by
  obtain ⟨a0, c0, a1, c1, rfl, rfl⟩ := h.2.1.form
  obtain ⟨a2, c2, rfl⟩ := h.2.2.1.form
  obtain ⟨a3, c3, rfl⟩ := h.2.2.2.form
  have H : Hid (LiesF w b nw nx bd nr F n S V (.slice a0 nr c0) (.slice a1 n c1) nt T X (.slice a2 nt c2) nk R (.slice a3 nk c3)) := h
  have HQ' : Hid (∀ i, i < nt → DoneAt nr F S (T i) (Q i)) := hQ
  have HIT : Hid (∀ i, i < nt → 1 ≤ (T i).m) := hit
  have HS : Hid (∀ i, i < n → (S i).nl ≤ 200 ∧ (S i).nw ≤ 200) := hs
  have HFT : Hid (∀ i, i < nk → 1 ≤ R (i * 10 + 7)) := hft
  have HDD : Hid (donesL Q nt = D ∧ D.length ≤ 16) := ⟨hD, by rw [← hD]; exact Nat.le_trans (donesL_len Q nt) hnt⟩
  have p6 : w.cell? ⟨b, 6, none⟩ = some (.slice a3 nk c3) := h.1.1.2.2.2.2.2.2
  have hb : b < w.heap.size := h.1.lt
  obtain ⟨i0, hi, hz0, hz1, hz2⟩ := info_parts infoz_Done
  clear h hQ hit hs hft hD
  go_enter Tryz.func35, Tryz.ntmps35
  go_wp2_with fail
  refine (l11Committed_is b nw nx bd nr F n S V _ _ nt T X _ Q _ (H.out.later (below_alloc _ _)).world hr hn HS.out hnt HIT.out HQ'.out).mono ?_
  rw [HDD.out.1]
  rintro e w1 ⟨lo, lc, rfl, O1, q1⟩
  have HO1 : Hid (Own w1 w.heap.size 92 2 0 (rowL ([] : Prs)) (.slice (some ⟨w.heap.size, 0, none⟩) 0 0)) := ((OwnM.lit0 w w.heap.size 92 2 rfl).own rfl).later q1
  have HB1 : Hid (Below w.heap.size w w1 ∧ Row w1 0 2 D.length (rowL D) (.slice lo D.length lc)) := ⟨(below_alloc _ _).trans (q1.mono (by simp)), O1.row.1.mono (Nat.zero_le _)⟩
  have hDl : D.length ≤ 16 := HDD.out.2
  clear O1 q1 HDD
  go_wp2
  go_loopw [3, 5] (fun out i wr => ∃ (k : Nat) (ao : Option Addr) (cp : Nat), k ≤ nk ∧ i = .int .i64 k ∧ out = .slice ao (histL D R k).length cp ∧ Hid (Own wr w.heap.size 92 2 (histL D R k).length (rowL (histL D R k)) (.slice ao (histL D R k).length cp)) ∧ Hid (Below w.heap.size w wr ∧ Row wr 0 2 D.length (rowL D) (.slice lo D.length lc))) (fun _ i _ => nk - (intOf i).toNat)
  case atStart => exact ⟨0, _, _, Nat.zero_le _, rfl, rfl, HO1, HB1⟩
  case round =>
    clear HO1 HB1
    obtain ⟨k, ao, cp, hk, rfl, rfl, HO, HB⟩ := hrel
    obtain ⟨wa, rfl⟩ : ∃ x, x = wr := ⟨_, rfl⟩
    have q6 := (HB.out.1.cell (p := ⟨b, 6, none⟩) hb).trans p6
    by_cases hlt : k < nk
    case neg =>
      obtain rfl : k = nk := by omega
      obtain ⟨LN, hLN⟩ : ∃ LN, (histL D R k).length = LN := ⟨_, rfl⟩
      have HLN : Hid ((histL D R k).length = LN) := hLN
      rw [hLN]
      clear hLN
      go_wp2
      refine bodyPost_ret (v := .slice ao LN cp) (by simp [results, Tryz.results35, go_sem]) rfl ?_
      rw [← HLN.out]
      exact ⟨ao, cp, rfl, HO.out, HB.out.1⟩
    obtain ⟨L, hL⟩ : ∃ L, histL D R k = L := ⟨_, rfl⟩
    have hLl : L.length ≤ 30 := by have := histL_len D R k; rw [hL] at this; omega
    have HLT : Hid ((∀ e ∈ L, e.1 < (k : Int)) ∧ histL D R k = L) := ⟨fun e he => histL_lt D R k e (by rw [hL]; exact he), hL⟩
    rw [hL] at HO ⊢
    clear hL
    obtain ⟨gq, oq, haq, _, hgq, _, _, _, _, _, _, y6, y7, _, _⟩ := H.out.2.2.2.at10 hlt
    subst haq
    obtain ⟨pl, hpl⟩ : ∃ x, R (k * 10 + 6) = x := ⟨_, rfl⟩
    obtain ⟨ts, hts⟩ : ∃ x, R (k * 10 + 7) = x := ⟨_, rfl⟩
    rw [hpl] at y6
    rw [hts] at y7
    have ht1 : 1 ≤ ts := by rw [← hts]; exact HFT.out k hlt
    have HPT : Hid (R (k * 10 + 6) = pl ∧ R (k * 10 + 7) = ts) := ⟨hpl, hts⟩
    clear hpl hts
    have z6 := (HB.out.1.cell (p := ⟨gq, oq + k * 10 + 6, none⟩) hgq).trans y6
    have z7 := (HB.out.1.cell (p := ⟨gq, oq + k * 10 + 7, none⟩) hgq).trans y7
    have hgqa : gq < wa.heap.size := Nat.lt_of_lt_of_le hgq HB.out.1.size
    have hba : b < wa.heap.size := Nat.lt_of_lt_of_le hb HB.out.1.size
    by_cases hp : 0 ≤ pl
    case neg =>
      have d1 : decide (0 ≤ pl) = false := decide_eq_false hp
      have d2 : (ts == 0) = false := beq_eq_false_iff_ne.2 (by omega)
      obtain ⟨c, rfl⟩ : ∃ c, c = ts := ⟨_, rfl⟩
      have HNX : Hid (histL D R (k + 1) = putD L (k, c)) := by
        have e1 : whenC D (R (k * 10 + 6)) (R (k * 10 + 7)) = c := by rw [HPT.out.1, HPT.out.2]; unfold whenC; rw [if_neg hp]
        unfold Hid
        rw [histL, e1, if_neg (by omega), HLT.out.2]
      have HI0 : Hid (InH w wa.heap.size k c L (.slice ao L.length cp) D (.slice lo D.length lc) (wa.alloc (.cells #[.int .i64 k, .int .i64 c] 92))) := ⟨Blk2.new wa _ _ _, HO.out.alloc _, HB.out.1.alloc HB.out.1.size _, HB.out.2.later (below_alloc _ _)⟩
      clear HO HB HPT
      go_wp2
      generalize (wa.alloc (.cells #[.int .i64 k, .int .i64 c] 92)) = Xa at HI0 ⊢
      clear q6 z6 z7 d1 d2 hp ht1
      go_loopw [8] (fun i2 wr2 => ∃ q : Nat, i2 = .int .i64 q ∧ q ≤ L.length ∧ Hid (∀ j, j < q → (L.getD j (0, 0)).2 ≤ c) ∧ Hid (InH w wa.heap.size k c L (.slice ao L.length cp) D (.slice lo D.length lc) wr2)) (fun i2 _ => L.length - (intOf i2).toNat)
      case atStart => exact ⟨0, rfl, Nat.zero_le _, fun j hj => absurd hj (Nat.not_lt_zero j), HI0⟩
      case round =>
        clear HI0
        obtain ⟨q, rfl, hq, hP, HI⟩ := hrel
        have hcap : L.length ≤ cp := HI.out.2.1.capD
        obtain ⟨⟨t0, t1⟩, _, _⟩ := HI.out.1
        by_cases hlt2 : q < L.length
        · obtain ⟨g2, o2, hao2, _, hg2, _, z1⟩ := HI.out.2.1.row.1.at2 hlt2
          subst hao2
          rw [rowL_val] at z1
          obtain ⟨y2, N2⟩ : ∃ y, (L.getD q (0, 0)).2 = y := ⟨_, rfl⟩
          rw [N2] at z1
          have HN2 : Hid ((L.getD q (0, 0)).2 = y2) := N2
          clear N2
          by_cases hle : y2 ≤ c
          · have HP : Hid (∀ j, j < q + 1 → (L.getD j (0, 0)).2 ≤ c) := fun j hj => by
              rcases Nat.lt_or_ge j q with r | r
              · exact hP.out j r
              · obtain rfl : j = q := by omega
                rw [HN2.out]
                exact hle
            have d2 : decide (y2 ≤ c) = true := decide_eq_true hle
            clear hP
            go_wp2
            go_quiet (fail)
            go_wp2
            go_roundw
            case rel => exact ⟨q + 1, by go_num, by omega, HP, HI.out.drewN _⟩
            case measure => simp [intOf]; omega
          · have HQ : Hid (q = aheadDN L (k, c)) := place_model HLT.out.1 ⟨hq, hP.out, fun _ => by show ¬ ((L.getD q (0, 0)).2 ≤ c); rw [HN2.out]; exact hle⟩
            have d2 : decide (y2 ≤ c) = false := decide_eq_false hle
            clear hP
            go_wp2
            go_quiet (fail)
            have HI : Hid (InH w wa.heap.size k c L (.slice (some ⟨g2, o2, none⟩) L.length cp) D (.slice lo D.length lc) (wr.drewN nq)) := HI.out.drewN _
            generalize wr.drewN nq = Xr at HI ⊢
            have hzr : wa.heap.size < Xr.heap.size := HI.out.1.lt
            have HRow : Hid (Row Xr 0 2 L.length (rowL L) (.slice (some ⟨g2, o2, none⟩) L.length cp)) := HI.out.2.1.row.1.mono (Nat.zero_le _)
            have HBX : Hid (Below w.heap.size w Xr) := HI.out.2.2.1
            have HRX : Hid (Row Xr 0 2 D.length (rowL D) (.slice lo D.length lc)) := HI.out.2.2.2
            have hqcp : q ≤ cp := by omega
            go_wp2_with (at_builtin; refine wpList_app 92 i0 (.agg #[.int .i64 0, .int .i64 0]) 2 16 rfl _ _ 50 rfl Tryz.underlying50 hi hz0 hz1 hz2 rfl (by omega) (by omega) _ Xr.heap.size 0 [] _ rfl (OwnM.lit0 _ _ _ _ (by simp)) 0 q (rowL L) _ rfl ((HRow.out.head hq cp).alloc _) (by omega) (by simp) ?_; intro ao1 cp1 w2 O2 G2)
            rw [Nat.zero_add, List.nil_append] at O2
            have D2 : Below Xr.heap.size Xr w2 := (below_alloc _ _).grown G2 (by simp) (fun r e => by cases e; exact Nat.le_refl _)
            have O2' : Hid (OwnM w2 Xr.heap.size 92 2 (.slice ao1 q cp1) q (nums (rowL L) (q * 2))) := O2
            clear O2 G2
            refine wp_region_held_drew (S := fun Y : World => Below Xr.heap.size Xr Y) (by kernel_rfl) D2.drew (fun hS => ?_)
            refine tkH 0 ?_ hS (fun wx hx => ?_) ?_; rotate_left
            · have hx0 := (hx.cell (p := ⟨wa.heap.size, 0, none⟩) hzr).trans HI.out.1.1.1; have hx1 := (hx.cell (p := ⟨wa.heap.size, 1, none⟩) hzr).trans HI.out.1.1.2; go_simp; try with_reducible rfl
            refine tkH 1 ?_ hS (fun wx hx => ?_) ?_; rotate_left
            · have hx0 := (hx.cell (p := ⟨wa.heap.size, 0, none⟩) hzr).trans HI.out.1.1.1; have hx1 := (hx.cell (p := ⟨wa.heap.size, 1, none⟩) hzr).trans HI.out.1.1.2; go_simp; try with_reducible rfl
            refine tkH 4 ?_ hS (fun wx hx => ?_) ?_; rotate_left
            · have hx0 := (hx.cell (p := ⟨wa.heap.size, 0, none⟩) hzr).trans HI.out.1.1.1; have hx1 := (hx.cell (p := ⟨wa.heap.size, 1, none⟩) hzr).trans HI.out.1.1.2; go_simp; try with_reducible rfl
            refine tkH 5 ?_ hS (fun wx hx => ?_) ?_; rotate_left
            · have hx0 := (hx.cell (p := ⟨wa.heap.size, 0, none⟩) hzr).trans HI.out.1.1.1; have hx1 := (hx.cell (p := ⟨wa.heap.size, 1, none⟩) hzr).trans HI.out.1.1.2; go_simp; try with_reducible rfl
            refine tkH 6 ?_ hS (fun wx hx => ?_) ?_; rotate_left
            · have hx0 := (hx.cell (p := ⟨wa.heap.size, 0, none⟩) hzr).trans HI.out.1.1.1; have hx1 := (hx.cell (p := ⟨wa.heap.size, 1, none⟩) hzr).trans HI.out.1.1.2; go_simp; try with_reducible rfl
            try simp only [Act.put, List.getElem_toArray, List.getElem_cons_zero, List.getElem_cons_succ, List.setIfInBounds_toArray, List.set_cons_succ, List.set_cons_zero]
            refine rdH 2 (fun K hK => ?_)
            go_simp
            have S3 : Below Xr.heap.size Xr (w2.drew.alloc (.cells #[.int .i64 k, .int .i64 c] 92)) := hS.alloc hS.size _
            have O3 : Hid (OwnM (w2.drew.alloc (.cells #[.int .i64 k, .int .i64 c] 92)) Xr.heap.size 92 2 (.slice ao1 q cp1) q (nums (rowL L) (q * 2))) := O2'.out.later (below_alloc w2 _).drew
            have R3 : Hid (Row (w2.drew.alloc (.cells #[.int .i64 k, .int .i64 c] 92)) 0 2 1 (fun p => [(k : Int), c].getD p 0) (.slice (some ⟨w2.heap.size, 0, none⟩) 1 1)) := row_litD w2.drew k c 92
            refine hK.out _ _ S3 (fun hS => ?_)
            clear hK K S3
            refine rdH 3 (fun K hK => ?_)
            refine step_app 92 i0 (.agg #[.int .i64 0, .int .i64 0]) 2 16 (by rfl) _ _ 50 (by rfl) Tryz.underlying50 hi hz0 hz1 hz2 rfl (by omega) (by omega) _ Xr.heap.size q (nums (rowL L) (q * 2)) (.slice ao1 q cp1) (by rfl) O3.out 0 1 (fun p => [(k : Int), c].getD p 0) (.slice (some ⟨w2.heap.size, 0, none⟩) 1 1) (by rfl) R3.out (by omega) hS.size ?_
            intro ao3 cp3 w4 O4 G4
            have S4 : Below Xr.heap.size Xr w4 := hS.grown G4 hS.size (fun r e => (O3.out.block r e).1)
            have O4' : Hid (OwnM w4 Xr.heap.size 92 2 (.slice ao3 (q + 1) cp3) (q + 1) (nums (rowL L) (q * 2) ++ [(k : Int), c])) := O4
            clear O4 G4 O3 R3 O2'
            refine hK.out _ _ S4 (fun hS => ?_)
            clear hK K S4
            refine rdH 7 (fun K hK => ?_)
            refine step_app 92 i0 (.agg #[.int .i64 0, .int .i64 0]) 2 16 (by rfl) _ _ 50 (by rfl) Tryz.underlying50 hi hz0 hz1 hz2 rfl (by omega) (by omega) _ Xr.heap.size (q + 1) (nums (rowL L) (q * 2) ++ [(k : Int), c]) (.slice ao3 (q + 1) cp3) (by rfl) O4'.out 0 (L.length - q) (fun p => rowL L (q * 2 + p)) (.slice (if cp = q then some ⟨g2, o2, none⟩ else some ⟨g2, o2 + q * 2, none⟩) (L.length - q) (cp - q)) (by rfl) ((HRow.out.later hS).tailS hlt2 hcap) (by omega) hS.size ?_
            intro ao5 cp5 w6 O6 G6
            have S6 : Below Xr.heap.size Xr w6 := hS.grown G6 hS.size (fun r e => (O4'.out.block r e).1)
            have HO6 : Hid (Own w6 w.heap.size 92 2 (histL D R (k + 1)).length (rowL (histL D R (k + 1))) (.slice ao5 (histL D R (k + 1)).length cp5)) := by
              have e1 : q + 1 + (L.length - q) = L.length + 1 := by omega
              rw [e1] at O6
              unfold Hid
              rw [HNX.out, putD_length]
              refine own_eqP ((OwnM.own O6 (by rw [List.length_append, List.length_append, nums_length, nums_length]; simp; omega)).mono HBX.out.size) (fun p hp => ?_)
              unfold putD
              rw [← HQ.out]
              exact rowL_insert hq hp
            have e8 : Hid (q + 1 + (L.length - q) = (histL D R (k + 1)).length) := by unfold Hid; rw [HNX.out, putD_length]; omega
            clear O6 G6 O4'
            refine hK.out _ _ S6 (fun hS => ?_)
            clear hK K S6
            refine tkH 8 ?_ hS (fun wx hx => ?_) ?_; rotate_left
            · have hx0 := (hx.cell (p := ⟨wa.heap.size, 0, none⟩) hzr).trans HI.out.1.1.1; have hx1 := (hx.cell (p := ⟨wa.heap.size, 1, none⟩) hzr).trans HI.out.1.1.2; go_simp; try with_reducible rfl
            refine wpAnyH_done (by kernel_rfl) ?_ _
            go_simp
            go_wp2
            all_goals
              go_roundw
              case rel => exact ⟨k + 1, ao5, cp5, by omega, by go_num, by rw [e8.out], HO6, HBX.out.trans (hS.mono HBX.out.size), HRX.out.later hS⟩
              case measure => simp [intOf]; omega
        · have HQ : Hid (q = aheadDN L (k, c)) := place_model HLT.out.1 ⟨hq, hP.out, fun r => absurd r hlt2⟩
          clear hP
          go_wp2
          go_quiet (fail)
          have HI : Hid (InH w wa.heap.size k c L (.slice ao L.length cp) D (.slice lo D.length lc) (wr.drewN nq)) := HI.out.drewN _
          generalize wr.drewN nq = Xr at HI ⊢
          have hzr : wa.heap.size < Xr.heap.size := HI.out.1.lt
          have HRow : Hid (Row Xr 0 2 L.length (rowL L) (.slice ao L.length cp)) := HI.out.2.1.row.1.mono (Nat.zero_le _)
          have HBX : Hid (Below w.heap.size w Xr) := HI.out.2.2.1
          have HRX : Hid (Row Xr 0 2 D.length (rowL D) (.slice lo D.length lc)) := HI.out.2.2.2
          have hqcp : q ≤ cp := by omega
          go_wp2_with (at_builtin; refine wpList_app 92 i0 (.agg #[.int .i64 0, .int .i64 0]) 2 16 rfl _ _ 50 rfl Tryz.underlying50 hi hz0 hz1 hz2 rfl (by omega) (by omega) _ Xr.heap.size 0 [] _ rfl (OwnM.lit0 _ _ _ _ (by simp)) 0 q (rowL L) _ rfl ((HRow.out.head hq cp).alloc _) (by omega) (by simp) ?_; intro ao1 cp1 w2 O2 G2)
          rw [Nat.zero_add, List.nil_append] at O2
          have D2 : Below Xr.heap.size Xr w2 := (below_alloc _ _).grown G2 (by simp) (fun r e => by cases e; exact Nat.le_refl _)
          have O2' : Hid (OwnM w2 Xr.heap.size 92 2 (.slice ao1 q cp1) q (nums (rowL L) (q * 2))) := O2
          clear O2 G2
          refine wp_region_held_drew (S := fun Y : World => Below Xr.heap.size Xr Y) (by kernel_rfl) D2.drew (fun hS => ?_)
          refine tkH 0 ?_ hS (fun wx hx => ?_) ?_; rotate_left
          · have hx0 := (hx.cell (p := ⟨wa.heap.size, 0, none⟩) hzr).trans HI.out.1.1.1; have hx1 := (hx.cell (p := ⟨wa.heap.size, 1, none⟩) hzr).trans HI.out.1.1.2; go_simp; try with_reducible rfl
          refine tkH 1 ?_ hS (fun wx hx => ?_) ?_; rotate_left
          · have hx0 := (hx.cell (p := ⟨wa.heap.size, 0, none⟩) hzr).trans HI.out.1.1.1; have hx1 := (hx.cell (p := ⟨wa.heap.size, 1, none⟩) hzr).trans HI.out.1.1.2; go_simp; try with_reducible rfl
          refine tkH 4 ?_ hS (fun wx hx => ?_) ?_; rotate_left
          · have hx0 := (hx.cell (p := ⟨wa.heap.size, 0, none⟩) hzr).trans HI.out.1.1.1; have hx1 := (hx.cell (p := ⟨wa.heap.size, 1, none⟩) hzr).trans HI.out.1.1.2; go_simp; try with_reducible rfl
          refine tkH 5 ?_ hS (fun wx hx => ?_) ?_; rotate_left
          · have hx0 := (hx.cell (p := ⟨wa.heap.size, 0, none⟩) hzr).trans HI.out.1.1.1; have hx1 := (hx.cell (p := ⟨wa.heap.size, 1, none⟩) hzr).trans HI.out.1.1.2; go_simp; try with_reducible rfl
          refine tkH 6 ?_ hS (fun wx hx => ?_) ?_; rotate_left
          · have hx0 := (hx.cell (p := ⟨wa.heap.size, 0, none⟩) hzr).trans HI.out.1.1.1; have hx1 := (hx.cell (p := ⟨wa.heap.size, 1, none⟩) hzr).trans HI.out.1.1.2; go_simp; try with_reducible rfl
          try simp only [Act.put, List.getElem_toArray, List.getElem_cons_zero, List.getElem_cons_succ, List.setIfInBounds_toArray, List.set_cons_succ, List.set_cons_zero]
          refine rdH 2 (fun K hK => ?_)
          go_simp
          have S3 : Below Xr.heap.size Xr (w2.drew.alloc (.cells #[.int .i64 k, .int .i64 c] 92)) := hS.alloc hS.size _
          have O3 : Hid (OwnM (w2.drew.alloc (.cells #[.int .i64 k, .int .i64 c] 92)) Xr.heap.size 92 2 (.slice ao1 q cp1) q (nums (rowL L) (q * 2))) := O2'.out.later (below_alloc w2 _).drew
          have R3 : Hid (Row (w2.drew.alloc (.cells #[.int .i64 k, .int .i64 c] 92)) 0 2 1 (fun p => [(k : Int), c].getD p 0) (.slice (some ⟨w2.heap.size, 0, none⟩) 1 1)) := row_litD w2.drew k c 92
          refine hK.out _ _ S3 (fun hS => ?_)
          clear hK K S3
          refine rdH 3 (fun K hK => ?_)
          refine step_app 92 i0 (.agg #[.int .i64 0, .int .i64 0]) 2 16 (by rfl) _ _ 50 (by rfl) Tryz.underlying50 hi hz0 hz1 hz2 rfl (by omega) (by omega) _ Xr.heap.size q (nums (rowL L) (q * 2)) (.slice ao1 q cp1) (by rfl) O3.out 0 1 (fun p => [(k : Int), c].getD p 0) (.slice (some ⟨w2.heap.size, 0, none⟩) 1 1) (by rfl) R3.out (by omega) hS.size ?_
          intro ao3 cp3 w4 O4 G4
          have S4 : Below Xr.heap.size Xr w4 := hS.grown G4 hS.size (fun r e => (O3.out.block r e).1)
          have O4' : Hid (OwnM w4 Xr.heap.size 92 2 (.slice ao3 (q + 1) cp3) (q + 1) (nums (rowL L) (q * 2) ++ [(k : Int), c])) := O4
          clear O4 G4 O3 R3 O2'
          refine hK.out _ _ S4 (fun hS => ?_)
          clear hK K S4
          refine rdH 7 (fun K hK => ?_)
          refine step_app 92 i0 (.agg #[.int .i64 0, .int .i64 0]) 2 16 (by rfl) _ _ 50 (by rfl) Tryz.underlying50 hi hz0 hz1 hz2 rfl (by omega) (by omega) _ Xr.heap.size (q + 1) (nums (rowL L) (q * 2) ++ [(k : Int), c]) (.slice ao3 (q + 1) cp3) (by rfl) O4'.out 0 (L.length - q) (fun p => rowL L (q * 2 + p)) (.slice (if cp = q then ao else Option.map (fun x => x.add (q * 2)) ao) (L.length - q) (cp - q)) (by rfl) (Row.over _ _ _ _ _ _ _ _ hlt2) (by omega) hS.size ?_
          intro ao5 cp5 w6 O6 G6
          have S6 : Below Xr.heap.size Xr w6 := hS.grown G6 hS.size (fun r e => (O4'.out.block r e).1)
          have HO6 : Hid (Own w6 w.heap.size 92 2 (histL D R (k + 1)).length (rowL (histL D R (k + 1))) (.slice ao5 (histL D R (k + 1)).length cp5)) := by
            have e1 : q + 1 + (L.length - q) = L.length + 1 := by omega
            rw [e1] at O6
            unfold Hid
            rw [HNX.out, putD_length]
            refine own_eqP ((OwnM.own O6 (by rw [List.length_append, List.length_append, nums_length, nums_length]; simp; omega)).mono HBX.out.size) (fun p hp => ?_)
            unfold putD
            rw [← HQ.out]
            exact rowL_insert hq hp
          have e8 : Hid (q + 1 + (L.length - q) = (histL D R (k + 1)).length) := by unfold Hid; rw [HNX.out, putD_length]; omega
          clear O6 G6 O4'
          refine hK.out _ _ S6 (fun hS => ?_)
          clear hK K S6
          refine tkH 8 ?_ hS (fun wx hx => ?_) ?_; rotate_left
          · have hx0 := (hx.cell (p := ⟨wa.heap.size, 0, none⟩) hzr).trans HI.out.1.1.1; have hx1 := (hx.cell (p := ⟨wa.heap.size, 1, none⟩) hzr).trans HI.out.1.1.2; go_simp; try with_reducible rfl
          refine wpAnyH_done (by kernel_rfl) ?_ _
          go_simp
          go_wp2
          all_goals
            go_roundw
            case rel => exact ⟨k + 1, ao5, cp5, by omega, by go_num, by rw [e8.out], HO6, HBX.out.trans (hS.mono HBX.out.size), HRX.out.later hS⟩
            case measure => simp [intOf]; omega
    have d1 : decide (0 ≤ pl) = true := decide_eq_true hp
    have HA0 : Hid (Blk2 (wa.alloc (.cells #[.int .i64 k, .int .i64 0] 92)) wa.heap.size (.int .i64 k) (.int .i64 (lastC D pl 0)) ∧ Below wa.heap.size wa (wa.alloc (.cells #[.int .i64 k, .int .i64 0] 92))) := ⟨Blk2.new wa _ _ _, below_alloc _ _⟩
    go_wp2
    generalize (wa.alloc (.cells #[.int .i64 k, .int .i64 0] 92)) = Xa at HA0 ⊢
    clear z7 d1
    go_loopw [7] (fun i2 wx => ∃ m : Nat, i2 = .int .i64 m ∧ m ≤ D.length ∧ Hid (Blk2 wx wa.heap.size (.int .i64 k) (.int .i64 (lastC D pl m)) ∧ Below wa.heap.size wa wx)) (fun i2 _ => D.length - (intOf i2).toNat)
    case atStart => exact ⟨0, rfl, Nat.zero_le _, HA0⟩
    case round =>
      clear HA0
      obtain ⟨m, rfl, hm, HA⟩ := hrel
      have r6 := (HA.out.2.cell (p := ⟨b, 6, none⟩) hba).trans q6
      have v6 := (HA.out.2.cell (p := ⟨gq, oq + k * 10 + 6, none⟩) hgqa).trans z6
      by_cases hlm : m < D.length
      · obtain ⟨g3, o3, hlo, _, hg3, u0, u1⟩ := (HB.out.2.later HA.out.2).at2 hlm
        subst hlo
        rw [rowL_key] at u0
        rw [rowL_val] at u1
        obtain ⟨e0, he0⟩ : ∃ y, (D.getD m (0, 0)).1 = y := ⟨_, rfl⟩
        obtain ⟨e1, he1⟩ : ∃ y, (D.getD m (0, 0)).2 = y := ⟨_, rfl⟩
        rw [he0] at u0
        rw [he1] at u1
        have HE : Hid ((D.getD m (0, 0)).1 = e0 ∧ (D.getD m (0, 0)).2 = e1) := ⟨he0, he1⟩
        clear he0 he1
        obtain ⟨⟨t0, t1⟩, t2, t3⟩ := HA.out.1
        by_cases he : e0 = pl
        · have d3 : (e0 == pl) = true := beq_iff_eq.2 he
          have HN : Hid (lastC D pl (m + 1) = e1) := by
            unfold Hid
            rw [lastC_hit (by rw [HE.out.1]; exact he), HE.out.2]
          clear he
          go_wp2
          go_quiet (fail)
          go_wp2
          go_roundw
          case rel => exact ⟨m + 1, by go_num, by omega, by rw [HN.out]; exact ⟨Blk2.put1H (HA.out.1.later (below_dH (Below.refl _ _) _)) _, (below_dH HA.out.2 _).setCell (Nat.le_refl _) _⟩⟩
          case measure => simp [intOf]; omega
        · have d3 : (e0 == pl) = false := beq_eq_false_iff_ne.2 he
          have HN : Hid (lastC D pl (m + 1) = lastC D pl m) := lastC_miss (by rw [HE.out.1]; exact he)
          clear he
          go_wp2
          go_quiet (fail)
          go_wp2
          go_roundw
          case rel => exact ⟨m + 1, by go_num, by omega, by rw [HN.out]; exact ⟨HA.out.1.later (below_dH (Below.refl _ _) _), below_dH HA.out.2 _⟩⟩
          case measure => simp [intOf]; omega
      · obtain rfl : m = D.length := by omega
        obtain ⟨c, hc⟩ : ∃ c, lastC D pl D.length = c := ⟨_, rfl⟩
        have HC : Hid (whenC D (R (k * 10 + 6)) (R (k * 10 + 7)) = c) := by
          unfold Hid
          rw [HPT.out.1, HPT.out.2]
          unfold whenC
          rw [if_pos hp, hc]
        rw [hc] at HA
        clear hc
        obtain ⟨⟨t0, t1⟩, t2, t3⟩ := HA.out.1
        by_cases hz : c = 0
        · subst hz
          have HNX : Hid (histL D R (k + 1) = L) := by unfold Hid; rw [histL, HC.out, if_pos rfl, HLT.out.2]
          clear HC HPT
          go_wp2
          go_roundw
          case rel => exact ⟨k + 1, ao, cp, by omega, by go_num, by rw [HNX.out], by rw [HNX.out]; exact HO.out.later HA.out.2, HB.out.1.trans (HA.out.2.mono HB.out.1.size), HB.out.2.later HA.out.2⟩
          case measure => simp [intOf]; omega
        have d4 : (c == 0) = false := beq_eq_false_iff_ne.2 hz
        have HNX : Hid (histL D R (k + 1) = putD L (k, c)) := by unfold Hid; rw [histL, HC.out, if_neg hz, HLT.out.2]
        obtain ⟨Xa, rfl⟩ : ∃ x, x = wr := ⟨_, rfl⟩
        have HI0 : Hid (InH w wa.heap.size k c L (.slice ao L.length cp) D (.slice lo D.length lc) Xa) := ⟨HA.out.1, HO.out.later HA.out.2, HB.out.1.trans (HA.out.2.mono HB.out.1.size), HB.out.2.later HA.out.2⟩
        clear HO HB HPT HC
        go_wp2
        clear q6 z6 r6 v6 d4 hp ht1 t0 t1 t2 t3 HA hz
        go_loopw [8] (fun i2 wr2 => ∃ q : Nat, i2 = .int .i64 q ∧ q ≤ L.length ∧ Hid (∀ j, j < q → (L.getD j (0, 0)).2 ≤ c) ∧ Hid (InH w wa.heap.size k c L (.slice ao L.length cp) D (.slice lo D.length lc) wr2)) (fun i2 _ => L.length - (intOf i2).toNat)
        case atStart => exact ⟨0, rfl, Nat.zero_le _, fun j hj => absurd hj (Nat.not_lt_zero j), HI0⟩
        case round =>
          clear HI0
          obtain ⟨q, rfl, hq, hP, HI⟩ := hrel
          have hcap : L.length ≤ cp := HI.out.2.1.capD
          obtain ⟨⟨t0, t1⟩, _, _⟩ := HI.out.1
          by_cases hlt2 : q < L.length
          · obtain ⟨g2, o2, hao2, _, hg2, _, z1⟩ := HI.out.2.1.row.1.at2 hlt2
            subst hao2
            rw [rowL_val] at z1
            obtain ⟨y2, N2⟩ : ∃ y, (L.getD q (0, 0)).2 = y := ⟨_, rfl⟩
            rw [N2] at z1
            have HN2 : Hid ((L.getD q (0, 0)).2 = y2) := N2
            clear N2
            by_cases hle : y2 ≤ c
            · have HP : Hid (∀ j, j < q + 1 → (L.getD j (0, 0)).2 ≤ c) := fun j hj => by
                rcases Nat.lt_or_ge j q with r | r
                · exact hP.out j r
                · obtain rfl : j = q := by omega
                  rw [HN2.out]
                  exact hle
              have d2 : decide (y2 ≤ c) = true := decide_eq_true hle
              clear hP
              go_wp2
              go_quiet (fail)
              go_wp2
              go_roundw
              case rel => exact ⟨q + 1, by go_num, by omega, HP, HI.out.drewN _⟩
              case measure => simp [intOf]; omega
            · have HQ : Hid (q = aheadDN L (k, c)) := place_model HLT.out.1 ⟨hq, hP.out, fun _ => by show ¬ ((L.getD q (0, 0)).2 ≤ c); rw [HN2.out]; exact hle⟩
              have d2 : decide (y2 ≤ c) = false := decide_eq_false hle
              clear hP
              go_wp2
              go_quiet (fail)
              have HI : Hid (InH w wa.heap.size k c L (.slice (some ⟨g2, o2, none⟩) L.length cp) D (.slice lo D.length lc) (wr.drewN nq)) := HI.out.drewN _
              generalize wr.drewN nq = Xr at HI ⊢
              have hzr : wa.heap.size < Xr.heap.size := HI.out.1.lt
              have HRow : Hid (Row Xr 0 2 L.length (rowL L) (.slice (some ⟨g2, o2, none⟩) L.length cp)) := HI.out.2.1.row.1.mono (Nat.zero_le _)
              have HBX : Hid (Below w.heap.size w Xr) := HI.out.2.2.1
              have HRX : Hid (Row Xr 0 2 D.length (rowL D) (.slice lo D.length lc)) := HI.out.2.2.2
              have hqcp : q ≤ cp := by omega
              go_wp2_with (at_builtin; refine wpList_app 92 i0 (.agg #[.int .i64 0, .int .i64 0]) 2 16 rfl _ _ 50 rfl Tryz.underlying50 hi hz0 hz1 hz2 rfl (by omega) (by omega) _ Xr.heap.size 0 [] _ rfl (OwnM.lit0 _ _ _ _ (by simp)) 0 q (rowL L) _ rfl ((HRow.out.head hq cp).alloc _) (by omega) (by simp) ?_; intro ao1 cp1 w2 O2 G2)
              rw [Nat.zero_add, List.nil_append] at O2
              have D2 : Below Xr.heap.size Xr w2 := (below_alloc _ _).grown G2 (by simp) (fun r e => by cases e; exact Nat.le_refl _)
              have O2' : Hid (OwnM w2 Xr.heap.size 92 2 (.slice ao1 q cp1) q (nums (rowL L) (q * 2))) := O2
              clear O2 G2
              refine wp_region_held_drew (S := fun Y : World => Below Xr.heap.size Xr Y) (by kernel_rfl) D2.drew (fun hS => ?_)
              refine tkH 0 ?_ hS (fun wx hx => ?_) ?_; rotate_left
              · have hx0 := (hx.cell (p := ⟨wa.heap.size, 0, none⟩) hzr).trans HI.out.1.1.1; have hx1 := (hx.cell (p := ⟨wa.heap.size, 1, none⟩) hzr).trans HI.out.1.1.2; go_simp; try with_reducible rfl
              refine tkH 1 ?_ hS (fun wx hx => ?_) ?_; rotate_left
              · have hx0 := (hx.cell (p := ⟨wa.heap.size, 0, none⟩) hzr).trans HI.out.1.1.1; have hx1 := (hx.cell (p := ⟨wa.heap.size, 1, none⟩) hzr).trans HI.out.1.1.2; go_simp; try with_reducible rfl
              refine tkH 4 ?_ hS (fun wx hx => ?_) ?_; rotate_left
              · have hx0 := (hx.cell (p := ⟨wa.heap.size, 0, none⟩) hzr).trans HI.out.1.1.1; have hx1 := (hx.cell (p := ⟨wa.heap.size, 1, none⟩) hzr).trans HI.out.1.1.2; go_simp; try with_reducible rfl
              refine tkH 5 ?_ hS (fun wx hx => ?_) ?_; rotate_left
              · have hx0 := (hx.cell (p := ⟨wa.heap.size, 0, none⟩) hzr).trans HI.out.1.1.1; have hx1 := (hx.cell (p := ⟨wa.heap.size, 1, none⟩) hzr).trans HI.out.1.1.2; go_simp; try with_reducible rfl
              refine tkH 6 ?_ hS (fun wx hx => ?_) ?_; rotate_left
              · have hx0 := (hx.cell (p := ⟨wa.heap.size, 0, none⟩) hzr).trans HI.out.1.1.1; have hx1 := (hx.cell (p := ⟨wa.heap.size, 1, none⟩) hzr).trans HI.out.1.1.2; go_simp; try with_reducible rfl
              try simp only [Act.put, List.getElem_toArray, List.getElem_cons_zero, List.getElem_cons_succ, List.setIfInBounds_toArray, List.set_cons_succ, List.set_cons_zero]
              refine rdH 2 (fun K hK => ?_)
              go_simp
              have S3 : Below Xr.heap.size Xr (w2.drew.alloc (.cells #[.int .i64 k, .int .i64 c] 92)) := hS.alloc hS.size _
              have O3 : Hid (OwnM (w2.drew.alloc (.cells #[.int .i64 k, .int .i64 c] 92)) Xr.heap.size 92 2 (.slice ao1 q cp1) q (nums (rowL L) (q * 2))) := O2'.out.later (below_alloc w2 _).drew
              have R3 : Hid (Row (w2.drew.alloc (.cells #[.int .i64 k, .int .i64 c] 92)) 0 2 1 (fun p => [(k : Int), c].getD p 0) (.slice (some ⟨w2.heap.size, 0, none⟩) 1 1)) := row_litD w2.drew k c 92
              refine hK.out _ _ S3 (fun hS => ?_)
              clear hK K S3
              refine rdH 3 (fun K hK => ?_)
              refine step_app 92 i0 (.agg #[.int .i64 0, .int .i64 0]) 2 16 (by rfl) _ _ 50 (by rfl) Tryz.underlying50 hi hz0 hz1 hz2 rfl (by omega) (by omega) _ Xr.heap.size q (nums (rowL L) (q * 2)) (.slice ao1 q cp1) (by rfl) O3.out 0 1 (fun p => [(k : Int), c].getD p 0) (.slice (some ⟨w2.heap.size, 0, none⟩) 1 1) (by rfl) R3.out (by omega) hS.size ?_
              intro ao3 cp3 w4 O4 G4
              have S4 : Below Xr.heap.size Xr w4 := hS.grown G4 hS.size (fun r e => (O3.out.block r e).1)
              have O4' : Hid (OwnM w4 Xr.heap.size 92 2 (.slice ao3 (q + 1) cp3) (q + 1) (nums (rowL L) (q * 2) ++ [(k : Int), c])) := O4
              clear O4 G4 O3 R3 O2'
              refine hK.out _ _ S4 (fun hS => ?_)
              clear hK K S4
              refine rdH 7 (fun K hK => ?_)
              refine step_app 92 i0 (.agg #[.int .i64 0, .int .i64 0]) 2 16 (by rfl) _ _ 50 (by rfl) Tryz.underlying50 hi hz0 hz1 hz2 rfl (by omega) (by omega) _ Xr.heap.size (q + 1) (nums (rowL L) (q * 2) ++ [(k : Int), c]) (.slice ao3 (q + 1) cp3) (by rfl) O4'.out 0 (L.length - q) (fun p => rowL L (q * 2 + p)) (.slice (if cp = q then some ⟨g2, o2, none⟩ else some ⟨g2, o2 + q * 2, none⟩) (L.length - q) (cp - q)) (by rfl) ((HRow.out.later hS).tailS hlt2 hcap) (by omega) hS.size ?_
              intro ao5 cp5 w6 O6 G6
              have S6 : Below Xr.heap.size Xr w6 := hS.grown G6 hS.size (fun r e => (O4'.out.block r e).1)
              have HO6 : Hid (Own w6 w.heap.size 92 2 (histL D R (k + 1)).length (rowL (histL D R (k + 1))) (.slice ao5 (histL D R (k + 1)).length cp5)) := by
                have e1 : q + 1 + (L.length - q) = L.length + 1 := by omega
                rw [e1] at O6
                unfold Hid
                rw [HNX.out, putD_length]
                refine own_eqP ((OwnM.own O6 (by rw [List.length_append, List.length_append, nums_length, nums_length]; simp; omega)).mono HBX.out.size) (fun p hp => ?_)
                unfold putD
                rw [← HQ.out]
                exact rowL_insert hq hp
              have e8 : Hid (q + 1 + (L.length - q) = (histL D R (k + 1)).length) := by unfold Hid; rw [HNX.out, putD_length]; omega
              clear O6 G6 O4'
              refine hK.out _ _ S6 (fun hS => ?_)
              clear hK K S6
              refine tkH 8 ?_ hS (fun wx hx => ?_) ?_; rotate_left
              · have hx0 := (hx.cell (p := ⟨wa.heap.size, 0, none⟩) hzr).trans HI.out.1.1.1; have hx1 := (hx.cell (p := ⟨wa.heap.size, 1, none⟩) hzr).trans HI.out.1.1.2; go_simp; try with_reducible rfl
              refine wpAnyH_done (by kernel_rfl) ?_ _
              go_simp
              go_wp2
              all_goals
                go_roundw
                case rel => exact ⟨k + 1, ao5, cp5, by omega, by go_num, by rw [e8.out], HO6, HBX.out.trans (hS.mono HBX.out.size), HRX.out.later hS⟩
                case measure => simp [intOf]; omega
          · have HQ : Hid (q = aheadDN L (k, c)) := place_model HLT.out.1 ⟨hq, hP.out, fun r => absurd r hlt2⟩
            clear hP
            go_wp2
            go_quiet (fail)
            have HI : Hid (InH w wa.heap.size k c L (.slice ao L.length cp) D (.slice lo D.length lc) (wr.drewN nq)) := HI.out.drewN _
            generalize wr.drewN nq = Xr at HI ⊢
            have hzr : wa.heap.size < Xr.heap.size := HI.out.1.lt
            have HRow : Hid (Row Xr 0 2 L.length (rowL L) (.slice ao L.length cp)) := HI.out.2.1.row.1.mono (Nat.zero_le _)
            have HBX : Hid (Below w.heap.size w Xr) := HI.out.2.2.1
            have HRX : Hid (Row Xr 0 2 D.length (rowL D) (.slice lo D.length lc)) := HI.out.2.2.2
            have hqcp : q ≤ cp := by omega
            go_wp2_with (at_builtin; refine wpList_app 92 i0 (.agg #[.int .i64 0, .int .i64 0]) 2 16 rfl _ _ 50 rfl Tryz.underlying50 hi hz0 hz1 hz2 rfl (by omega) (by omega) _ Xr.heap.size 0 [] _ rfl (OwnM.lit0 _ _ _ _ (by simp)) 0 q (rowL L) _ rfl ((HRow.out.head hq cp).alloc _) (by omega) (by simp) ?_; intro ao1 cp1 w2 O2 G2)
            rw [Nat.zero_add, List.nil_append] at O2
            have D2 : Below Xr.heap.size Xr w2 := (below_alloc _ _).grown G2 (by simp) (fun r e => by cases e; exact Nat.le_refl _)
            have O2' : Hid (OwnM w2 Xr.heap.size 92 2 (.slice ao1 q cp1) q (nums (rowL L) (q * 2))) := O2
            clear O2 G2
            refine wp_region_held_drew (S := fun Y : World => Below Xr.heap.size Xr Y) (by kernel_rfl) D2.drew (fun hS => ?_)
            refine tkH 0 ?_ hS (fun wx hx => ?_) ?_; rotate_left
            · have hx0 := (hx.cell (p := ⟨wa.heap.size, 0, none⟩) hzr).trans HI.out.1.1.1; have hx1 := (hx.cell (p := ⟨wa.heap.size, 1, none⟩) hzr).trans HI.out.1.1.2; go_simp; try with_reducible rfl
            refine tkH 1 ?_ hS (fun wx hx => ?_) ?_; rotate_left
            · have hx0 := (hx.cell (p := ⟨wa.heap.size, 0, none⟩) hzr).trans HI.out.1.1.1; have hx1 := (hx.cell (p := ⟨wa.heap.size, 1, none⟩) hzr).trans HI.out.1.1.2; go_simp; try with_reducible rfl
            refine tkH 4 ?_ hS (fun wx hx => ?_) ?_; rotate_left
            · have hx0 := (hx.cell (p := ⟨wa.heap.size, 0, none⟩) hzr).trans HI.out.1.1.1; have hx1 := (hx.cell (p := ⟨wa.heap.size, 1, none⟩) hzr).trans HI.out.1.1.2; go_simp; try with_reducible rfl
            refine tkH 5 ?_ hS (fun wx hx => ?_) ?_; rotate_left
            · have hx0 := (hx.cell (p := ⟨wa.heap.size, 0, none⟩) hzr).trans HI.out.1.1.1; have hx1 := (hx.cell (p := ⟨wa.heap.size, 1, none⟩) hzr).trans HI.out.1.1.2; go_simp; try with_reducible rfl
            refine tkH 6 ?_ hS (fun wx hx => ?_) ?_; rotate_left
            · have hx0 := (hx.cell (p := ⟨wa.heap.size, 0, none⟩) hzr).trans HI.out.1.1.1; have hx1 := (hx.cell (p := ⟨wa.heap.size, 1, none⟩) hzr).trans HI.out.1.1.2; go_simp; try with_reducible rfl
            try simp only [Act.put, List.getElem_toArray, List.getElem_cons_zero, List.getElem_cons_succ, List.setIfInBounds_toArray, List.set_cons_succ, List.set_cons_zero]
            refine rdH 2 (fun K hK => ?_)
            go_simp
            have S3 : Below Xr.heap.size Xr (w2.drew.alloc (.cells #[.int .i64 k, .int .i64 c] 92)) := hS.alloc hS.size _
            have O3 : Hid (OwnM (w2.drew.alloc (.cells #[.int .i64 k, .int .i64 c] 92)) Xr.heap.size 92 2 (.slice ao1 q cp1) q (nums (rowL L) (q * 2))) := O2'.out.later (below_alloc w2 _).drew
            have R3 : Hid (Row (w2.drew.alloc (.cells #[.int .i64 k, .int .i64 c] 92)) 0 2 1 (fun p => [(k : Int), c].getD p 0) (.slice (some ⟨w2.heap.size, 0, none⟩) 1 1)) := row_litD w2.drew k c 92
            refine hK.out _ _ S3 (fun hS => ?_)
            clear hK K S3
            refine rdH 3 (fun K hK => ?_)
            refine step_app 92 i0 (.agg #[.int .i64 0, .int .i64 0]) 2 16 (by rfl) _ _ 50 (by rfl) Tryz.underlying50 hi hz0 hz1 hz2 rfl (by omega) (by omega) _ Xr.heap.size q (nums (rowL L) (q * 2)) (.slice ao1 q cp1) (by rfl) O3.out 0 1 (fun p => [(k : Int), c].getD p 0) (.slice (some ⟨w2.heap.size, 0, none⟩) 1 1) (by rfl) R3.out (by omega) hS.size ?_
            intro ao3 cp3 w4 O4 G4
            have S4 : Below Xr.heap.size Xr w4 := hS.grown G4 hS.size (fun r e => (O3.out.block r e).1)
            have O4' : Hid (OwnM w4 Xr.heap.size 92 2 (.slice ao3 (q + 1) cp3) (q + 1) (nums (rowL L) (q * 2) ++ [(k : Int), c])) := O4
            clear O4 G4 O3 R3 O2'
            refine hK.out _ _ S4 (fun hS => ?_)
            clear hK K S4
            refine rdH 7 (fun K hK => ?_)
            refine step_app 92 i0 (.agg #[.int .i64 0, .int .i64 0]) 2 16 (by rfl) _ _ 50 (by rfl) Tryz.underlying50 hi hz0 hz1 hz2 rfl (by omega) (by omega) _ Xr.heap.size (q + 1) (nums (rowL L) (q * 2) ++ [(k : Int), c]) (.slice ao3 (q + 1) cp3) (by rfl) O4'.out 0 (L.length - q) (fun p => rowL L (q * 2 + p)) (.slice (if cp = q then ao else Option.map (fun x => x.add (q * 2)) ao) (L.length - q) (cp - q)) (by rfl) (Row.over _ _ _ _ _ _ _ _ hlt2) (by omega) hS.size ?_
            intro ao5 cp5 w6 O6 G6
            have S6 : Below Xr.heap.size Xr w6 := hS.grown G6 hS.size (fun r e => (O4'.out.block r e).1)
            have HO6 : Hid (Own w6 w.heap.size 92 2 (histL D R (k + 1)).length (rowL (histL D R (k + 1))) (.slice ao5 (histL D R (k + 1)).length cp5)) := by
              have e1 : q + 1 + (L.length - q) = L.length + 1 := by omega
              rw [e1] at O6
              unfold Hid
              rw [HNX.out, putD_length]
              refine own_eqP ((OwnM.own O6 (by rw [List.length_append, List.length_append, nums_length, nums_length]; simp; omega)).mono HBX.out.size) (fun p hp => ?_)
              unfold putD
              rw [← HQ.out]
              exact rowL_insert hq hp
            have e8 : Hid (q + 1 + (L.length - q) = (histL D R (k + 1)).length) := by unfold Hid; rw [HNX.out, putD_length]; omega
            clear O6 G6 O4'
            refine hK.out _ _ S6 (fun hS => ?_)
            clear hK K S6
            refine tkH 8 ?_ hS (fun wx hx => ?_) ?_; rotate_left
            · have hx0 := (hx.cell (p := ⟨wa.heap.size, 0, none⟩) hzr).trans HI.out.1.1.1; have hx1 := (hx.cell (p := ⟨wa.heap.size, 1, none⟩) hzr).trans HI.out.1.1.2; go_simp; try with_reducible rfl
            refine wpAnyH_done (by kernel_rfl) ?_ _
            go_simp
            go_wp2
            all_goals
              go_roundw
              case rel => exact ⟨k + 1, ao5, cp5, by omega, by go_num, by rw [e8.out], HO6, HBX.out.trans (hS.mono HBX.out.size), HRX.out.later hS⟩
              case measure => simp [intOf]; omega
end Go.Proofs.YtpodcnmiaacndaaGreat

namespace Go.Proofs.YtpodcnmiaacndaaGreat
open Go.RowKit Go.Maps

theorem intKeyedI : Keyed Tryz.prog 2 := int_keyed Tryz.underlying2
def intD (v : Int) : DataW Unit := .lit (.int .i64 v)
def intR (v : Value) : Option (DataW Unit × List MemPlace) :=
  match v with
  | .int .i64 x => some (intD x, [])
  | _ => none
theorem intR_mk (s : Int) : intR (.int .i64 s) = some (intD s, []) := rfl
theorem intR_inv {v : Value} {s : Int} {ps : List MemPlace} (h : intR v = some (intD s, ps)) : v = .int .i64 s := by
  unfold intR at h
  split at h
  · simp only [intD, Option.some.injEq, Prod.mk.injEq, DataW.lit.injEq, Lit.int.injEq, true_and] at h
    obtain ⟨rfl, _⟩ := h
    rfl
  · cases h
/-- Block b is a map of at most n entries: at key k it has m k. -/
def IM (w : World) (b n : Nat) (m : Int → Option Int) : Prop :=
  ∃ D : DataW Unit, w.ownsMap Tryz.prog 2 intR b n D ∧ ∀ x, (Lit.int .i64 x).wf = true → Maps.has D (.int .i64 x) = (m x).isSome ∧ D.atKey (.int .i64 x) (intD 0) = intD ((m x).getD 0)
theorem IM.made (w : World) : IM (w.alloc (.map #[] 0)) w.heap.size 0 (fun _ => none) := ⟨.map [], World.ownsMap_made w _ _ _, fun _ _ => ⟨rfl, rfl⟩⟩
theorem IM.lt {w : World} {b n : Nat} {m : Int → Option Int} (h : IM w b n m) : b < w.heap.size := by
  obtain ⟨D, h, _⟩ := h; exact h.lt
theorem IM.kept {w w' : World} {b n : Nat} {m : Int → Option Int} (h : IM w b n m) (hb : w'.heap[b]? = w.heap[b]?) : IM w' b n m := by
  obtain ⟨D, ⟨es, clock, h1, h2⟩, r⟩ := h
  exact ⟨D, ⟨es, clock, hb.trans h1, h2⟩, r⟩
theorem IM.later {w w' : World} {b n : Nat} {m : Int → Option Int} (h : IM w b n m) (hb : Below w.heap.size w w') : IM w' b n m := h.kept (hb.block b h.lt)
theorem zero_intI (w : World) : (zeroValue 2).run Tryz.prog w = .ok (.int .i64 0) w := by kernel_rfl
/-- 'v, ok := m[k]', 'm[k]'. -/
theorem IM.look {w : World} {b n : Nat} {m : Int → Option Int} (h : IM w b n m) {x : Int} (hx : (Lit.int .i64 x).wf = true) :
    (Instr.lookup 128 (.map (some b)) (.int .i64 x) true).run Tryz.prog w = .ok (.tuple #[.int .i64 ((m x).getD 0), .bool (m x).isSome]) w := by
  obtain ⟨D, h, r⟩ := h
  obtain ⟨v, ps, hrun, hv⟩ := h.look_ok intKeyedI Tryz.underlying128 (zero_intI w) (intR_mk 0) (keyOf_int_mk Tryz.underlying2 hx)
  rw [(r x hx).2] at hv
  rw [hrun, (r x hx).1, intR_inv hv]
theorem keyLitI (x : Int) : WideAt.IsKeyLit (.int .i64 x) := trivial
def putI1 (m : Int → Option Int) (a : Int) (v : Int) (x : Int) : Option Int := if x = a then some v else m x
/-- 'm[k] = v'. -/
theorem IM.put {w : World} {b n : Nat} {m : Int → Option Int} (h : IM w b n m) (hn : n < maxLen) {x : Int} (hx : (Lit.int .i64 x).wf = true) (s : Int) :
    ∃ w', (Instr.mapUpdate 128 (.map (some b)) (.int .i64 x) (.int .i64 s)).run Tryz.prog w = .ok () w' ∧ IM w' b (n + 1) (putI1 m x s) ∧ w.grownBy w' (some b) := by
  obtain ⟨D, h, r⟩ := h
  obtain ⟨w', hrun, h', hg⟩ := h.update intKeyedI Tryz.underlying128 hn (keyOf_int_mk Tryz.underlying2 hx) (intR_mk s)
  refine ⟨w', hrun, ⟨_, h', fun p hp => ?_⟩, hg⟩
  unfold putI1
  by_cases e : p = x
  · subst e
    rw [if_pos rfl]
    exact ⟨has_put_same h.isMap (keyLitI _) _, atKey_put_same h.isMap (keyLitI _) _ _⟩
  · rw [if_neg e, has_put_other (fun q => e (by simpa using q)), atKey_put_other (fun q => e (by simpa using q))]
    exact r p hp
theorem wf_keyI {a : Int} (h0 : -1 ≤ a) (h1 : a ≤ 100000) : (Lit.int .i64 a).wf = true := by
  have e0 : IntKind.i64.min = -9223372036854775808 := by decide
  have e1 : IntKind.i64.max = 9223372036854775807 := by decide
  simp [Lit.wf, e0, e1]
  omega
theorem run_mapI (w : World) : (Instr.makeMap 128 none).run Tryz.prog w = .ok (.map (some w.heap.size)) (w.alloc (.map #[] 0)) := by
  first | kernel_rfl | rfl
/-- The commits of the first m of a list, by place. -/
def mapC (D : Prs) : Nat → Int → Option Int
  | 0 => fun _ => none
  | m + 1 => putI1 (mapC D m) (D.getD m (0, 0)).1 (D.getD m (0, 0)).2
theorem mapC_last {D : Prs} (h : ∀ m, m < D.length → 1 ≤ (D.getD m (0, 0)).2) (p : Int) : ∀ m, m ≤ D.length → (mapC D m p = none ∧ lastC D p m = 0) ∨ (∃ v, 1 ≤ v ∧ mapC D m p = some v ∧ lastC D p m = v)
  | 0, _ => Or.inl ⟨rfl, rfl⟩
  | m + 1, hm => by
    by_cases e : (D.getD m (0, 0)).1 = p
    · refine Or.inr ⟨(D.getD m (0, 0)).2, h m (by omega), ?_, lastC_hit e⟩
      show putI1 _ _ _ p = _
      unfold putI1
      rw [if_pos e.symm]
    · have h1 : mapC D (m + 1) p = mapC D m p := by
        show putI1 _ _ _ p = _
        unfold putI1
        rw [if_neg (fun q => e q.symm)]
      rw [h1, lastC_miss e]
      exact mapC_last h p m (by omega)
end Go.Proofs.YtpodcnmiaacndaaGreat

namespace Go.Proofs.YtpodcnmiaacndaaGreat
open Go.RowKit Go.Maps

set_option maxRecDepth 100000 in
set_option maxHeartbeats 4000000 in
theorem history_is (x0 : World) (b : Nat) (nw nx bd : Int) (n : Nat) (F : Nat → Int) (S : Nat → Sto) (g : Nat) (P : Nat → Nat) (Bw nt : Nat) (T : Nat → Tx) (Y : Nat → Value) (v : Value) (Q : Nat → Option Int) (D : Prs) (nk : Nat) (R : Nat → Int) (vq : Value) (h : DonE x0 b nw nx bd n F S g P Bw nt T Y v x0) (hq : Row x0 0 10 nk R vq) (hQ : ∀ i, i < nt → DoneAt n F S (T i) (Q i)) (hD : donesL Q nt = D) (hn : n ≤ 12) (hnt : nt ≤ 16) (hit : ∀ i, i < nt → 1 ≤ (T i).m) (hnk : nk ≤ 30) (hpos : ∀ m, m < D.length → 1 ≤ (D.getD m (0, 0)).2) (hpl : ∀ m, m < D.length → 0 ≤ (D.getD m (0, 0)).1 ∧ (D.getD m (0, 0)).1 ≤ 16) (hft : ∀ i, i < nk → 1 ≤ R (i * 10 + 7) ∧ -1 ≤ R (i * 10 + 6) ∧ R (i * 10 + 6) ≤ 16) :
    Calls Tryz.prog 37 #[.pointer (some ⟨b, 0, none⟩), vq] x0 fun e x' => ∃ ao cp, e = .returned (.slice ao (histL D R nk).length cp) ∧ Own x' x0.heap.size 92 2 (histL D R nk).length (rowL (histL D R nk)) (.slice ao (histL D R nk).length cp) ∧ Below x0.heap.size x0 x' := by
  obtain ⟨a3, c3, rfl⟩ := hq.form
  have hH : DonE (x0.alloc (.map #[] 0)) b nw nx bd n F S g P Bw nt T Y v (x0.alloc (.map #[] 0)) := by
    have k := h.later (below_alloc x0 (.map #[] 0))
    exact ⟨Below.refl _ _, k.kb, k.work, k.txs⟩
  have HH : Hid (DonE (x0.alloc (.map #[] 0)) b nw nx bd n F S g P Bw nt T Y v (x0.alloc (.map #[] 0))) := hH
  have HRW : Hid (Row x0 0 10 nk R (.slice a3 nk c3)) := hq
  have HQ' : Hid ((∀ i, i < nt → DoneAt n F S (T i) (Q i)) ∧ ∀ i, i < nt → 1 ≤ (T i).m) := ⟨hQ, hit⟩
  have HDD : Hid (donesL Q nt = D ∧ D.length ≤ 16) := ⟨hD, by rw [← hD]; exact Nat.le_trans (donesL_len Q nt) hnt⟩
  have HP : Hid ((∀ m, m < D.length → 1 ≤ (D.getD m (0, 0)).2) ∧ ∀ m, m < D.length → 0 ≤ (D.getD m (0, 0)).1 ∧ (D.getD m (0, 0)).1 ≤ 16) := ⟨hpos, hpl⟩
  have HFT : Hid (∀ i, i < nk → 1 ≤ R (i * 10 + 7) ∧ -1 ≤ R (i * 10 + 6) ∧ R (i * 10 + 6) ≤ 16) := hft
  have hmk := fun w => run_mapI w
  clear h hH hq hQ hit hD hpos hpl hft
  go_enter Tryz.func37, Tryz.ntmps37
  go_wp2_with fail
  refine (dones_is (x0.alloc (.map #[] 0)) b nw nx bd n F S g P Bw nt T Y v Q HH.out HQ'.out.1 hn hnt HQ'.out.2).mono ?_
  rw [HDD.out.1]
  rintro e w1 ⟨lo, lc, rfl, O1, q1⟩
  have hDl : D.length ≤ 16 := HDD.out.2
  have HA : Hid (IM w1 x0.heap.size 0 (mapC D 0) ∧ Below x0.heap.size x0 w1 ∧ Row w1 (x0.heap.size + 1) 2 D.length (rowL D) (.slice lo D.length lc)) := by
    have k := O1.row.1
    rw [World.size_alloc] at k
    exact ⟨(IM.made x0).later q1, (below_alloc _ _).trans (q1.mono (by simp)), k⟩
  clear O1 q1 HH HQ' HDD hmk
  go_wp2_with fail
  go_loopw [17] (fun i wr => ∃ m : Nat, m ≤ D.length ∧ i = .int .i64 m ∧ Hid (IM wr x0.heap.size m (mapC D m) ∧ Below x0.heap.size x0 wr ∧ Row wr (x0.heap.size + 1) 2 D.length (rowL D) (.slice lo D.length lc))) (fun i _ => D.length - (intOf i).toNat)
  case atStart => exact ⟨0, Nat.zero_le _, rfl, HA⟩
  case round =>
    clear HA
    obtain ⟨m, hm, rfl, HA⟩ := hrel
    obtain ⟨wa, rfl⟩ : ∃ x, x = wr := ⟨_, rfl⟩
    by_cases hlm : m < D.length
    · obtain ⟨g3, o3, hlo, hB3, hg3, u0, u1⟩ := HA.out.2.2.at2 hlm
      subst hlo
      rw [rowL_key] at u0
      rw [rowL_val] at u1
      have hwf : (Lit.int .i64 (D.getD m (0, 0)).1).wf = true := wf_keyI (by have := (HP.out.2 m hlm).1; omega) (by have := (HP.out.2 m hlm).2; omega)
      have HMC : Hid (mapC D (m + 1) = putI1 (mapC D m) (D.getD m (0, 0)).1 (D.getD m (0, 0)).2) := rfl
      obtain ⟨e0, he0⟩ : ∃ y, (D.getD m (0, 0)).1 = y := ⟨_, rfl⟩
      obtain ⟨e1, he1⟩ : ∃ y, (D.getD m (0, 0)).2 = y := ⟨_, rfl⟩
      rw [he0] at u0 hwf HMC
      rw [he1] at u1 HMC
      clear he0 he1
      obtain ⟨w2, hrun, hP2, hg2⟩ := IM.put (HA.out.1.later (below_alloc wa (.cells #[.int .i64 e0, .int .i64 e1] 92))) (Nat.lt_of_le_of_lt (Nat.le_trans hm hDl) (by decide)) hwf e1
      have H2 : Hid (IM w2 x0.heap.size (m + 1) (mapC D (m + 1)) ∧ Below x0.heap.size x0 w2 ∧ Row w2 (x0.heap.size + 1) 2 D.length (rowL D) (.slice (some ⟨g3, o3, none⟩) D.length lc)) := by
        rw [HMC.out]
        refine ⟨hP2, (HA.out.2.1.alloc HA.out.2.1.size _).grown hg2 (by have := HA.out.2.1.size; simp; omega) (fun r e => by cases e; exact Nat.le_refl _), ?_⟩
        exact (HA.out.2.2.later (below_alloc wa _)).within (Within.of (B := x0.heap.size) (E := x0.heap.size + 1) hg2 (fun k e => by cases e; exact ⟨Nat.le_refl _, Nat.lt_succ_self _⟩)) (fun _ k hk => Or.inr (by cases hk; exact hB3))
      clear hP2 hg2 HMC hwf
      go_wp2
      go_roundw
      case rel => exact ⟨m + 1, by omega, by go_num, H2⟩
      case measure => simp [intOf]; omega
    obtain rfl : m = D.length := by omega
    go_wp2_with fail
    refine (filledD_nil _).mono ?_
    rintro e w1 ⟨rfl, r1, q1⟩
    have hmb : x0.heap.size < wa.heap.size := HA.out.1.lt
    have H1 : Hid (IM w1 x0.heap.size D.length (mapC D D.length) ∧ Below x0.heap.size x0 w1 ∧ RisD w1 wa.heap.size (histL D R 0)) := ⟨HA.out.1.later q1, HA.out.2.1.trans (q1.mono HA.out.2.1.size), r1⟩
    clear r1 q1 HA
    go_wp2_with fail
    go_loopw [30] (fun i wr => ∃ k : Nat, k ≤ nk ∧ i = .int .i64 k ∧ Hid (IM wr x0.heap.size D.length (mapC D D.length) ∧ Below x0.heap.size x0 wr ∧ RisD wr wa.heap.size (histL D R k))) (fun i _ => nk - (intOf i).toNat)
    case atStart => exact ⟨0, Nat.zero_le _, rfl, H1⟩
    case round =>
      clear H1
      obtain ⟨k, hk, rfl, HB⟩ := hrel
      obtain ⟨wb, rfl⟩ : ∃ x, x = wr := ⟨_, rfl⟩
      by_cases hlt : k < nk
      case neg =>
        obtain rfl : k = nk := by omega
        obtain ⟨vv, r1, r2⟩ := HB.out.2.2
        obtain ⟨ao, cp, rfl⟩ := r2.form
        obtain ⟨LN, hLN⟩ : ∃ LN, (histL D R k).length = LN := ⟨_, rfl⟩
        have HLN : Hid ((histL D R k).length = LN) := hLN
        have HO : Hid (Own wb x0.heap.size 92 2 (histL D R k).length (rowL (histL D R k)) (.slice ao (histL D R k).length cp) ∧ Below x0.heap.size x0 wb) := ⟨r2.mono (by omega), HB.out.2.1⟩
        rw [hLN] at r1
        obtain ⟨⟨s0, s1⟩, _⟩ := r1
        clear hLN r2 HB
        go_wp2
        refine bodyPost_ret (v := .slice ao LN cp) (by simp [results, Tryz.results37, go_sem]) rfl ?_
        rw [← HLN.out]
        exact ⟨ao, cp, rfl, HO.out.1, HO.out.2⟩
      obtain ⟨L, hL⟩ : ∃ L, histL D R k = L := ⟨_, rfl⟩
      have HLT : Hid ((∀ e ∈ L, e.1 < (k : Int)) ∧ histL D R k = L ∧ RisesD L ∧ L.length ≤ 30) := ⟨fun e he => histL_lt D R k e (by rw [hL]; exact he), hL, by rw [← hL]; exact histL_rises D R k, by have := histL_len D R k; rw [hL] at this; omega⟩
      rw [hL] at HB
      clear hL
      obtain ⟨gq, oq, haq, _, hgq, y0, y1, y2, y3, y4, y5, y6, y7, y8, y9⟩ := (HRW.out.later HB.out.2.1).at10 hlt
      subst haq
      have HF1 := HFT.out k hlt
      obtain ⟨j0, hx0⟩ : ∃ x, R (k * 10) = x := ⟨_, rfl⟩
      rw [hx0] at y0
      obtain ⟨j1, hx1⟩ : ∃ x, R (k * 10 + 1) = x := ⟨_, rfl⟩
      rw [hx1] at y1
      obtain ⟨j2, hx2⟩ : ∃ x, R (k * 10 + 2) = x := ⟨_, rfl⟩
      rw [hx2] at y2
      obtain ⟨j3, hx3⟩ : ∃ x, R (k * 10 + 3) = x := ⟨_, rfl⟩
      rw [hx3] at y3
      obtain ⟨j4, hx4⟩ : ∃ x, R (k * 10 + 4) = x := ⟨_, rfl⟩
      rw [hx4] at y4
      obtain ⟨j5, hx5⟩ : ∃ x, R (k * 10 + 5) = x := ⟨_, rfl⟩
      rw [hx5] at y5
      obtain ⟨j6, hx6⟩ : ∃ x, R (k * 10 + 6) = x := ⟨_, rfl⟩
      rw [hx6] at y6
      obtain ⟨j7, hx7⟩ : ∃ x, R (k * 10 + 7) = x := ⟨_, rfl⟩
      rw [hx7] at y7
      obtain ⟨j8, hx8⟩ : ∃ x, R (k * 10 + 8) = x := ⟨_, rfl⟩
      rw [hx8] at y8
      obtain ⟨j9, hx9⟩ : ∃ x, R (k * 10 + 9) = x := ⟨_, rfl⟩
      rw [hx9] at y9
      have HX : Hid (R (k * 10 + 6) = j6 ∧ R (k * 10 + 7) = j7) := ⟨hx6, hx7⟩
      rw [hx6, hx7] at HF1
      clear hx0 hx1 hx2 hx3 hx4 hx5 hx6 hx7 hx8 hx9
      have hwf : (Lit.int .i64 j6).wf = true := wf_keyI HF1.2.1 (by omega)
      have hlook := (HB.out.1.later (below_alloc wb (.cells #[.int .i64 j0, .int .i64 j1, .int .i64 j2, .int .i64 j3, .int .i64 j4, .int .i64 j5, .int .i64 j6, .int .i64 j7, .int .i64 j8, .int .i64 j9] 74))).look hwf
      have HB1 : Hid (IM (wb.alloc (.cells #[.int .i64 j0, .int .i64 j1, .int .i64 j2, .int .i64 j3, .int .i64 j4, .int .i64 j5, .int .i64 j6, .int .i64 j7, .int .i64 j8, .int .i64 j9] 74)) x0.heap.size D.length (mapC D D.length) ∧ Below x0.heap.size x0 (wb.alloc (.cells #[.int .i64 j0, .int .i64 j1, .int .i64 j2, .int .i64 j3, .int .i64 j4, .int .i64 j5, .int .i64 j6, .int .i64 j7, .int .i64 j8, .int .i64 j9] 74)) ∧ RisD (wb.alloc (.cells #[.int .i64 j0, .int .i64 j1, .int .i64 j2, .int .i64 j3, .int .i64 j4, .int .i64 j5, .int .i64 j6, .int .i64 j7, .int .i64 j8, .int .i64 j9] 74)) wa.heap.size L) := ⟨HB.out.1.later (below_alloc _ _), HB.out.2.1.alloc HB.out.2.1.size _, HB.out.2.2.later (below_alloc _ _)⟩
      have hput := fun c => put_anyD L wa.heap.size k c (wb.alloc (.cells #[.int .i64 j0, .int .i64 j1, .int .i64 j2, .int .i64 j3, .int .i64 j4, .int .i64 j5, .int .i64 j6, .int .i64 j7, .int .i64 j8, .int .i64 j9] 74)) HB1.out.2.2 HLT.out.2.2.1 (fun e he => by have := HLT.out.1 e he; omega) (by have := HLT.out.2.2.2; omega)
      have HPU : Hid (∀ c, Calls Tryz.prog 79 #[.pointer (some ⟨wa.heap.size, 0, none⟩), .agg #[.int .i64 k, .int .i64 c]] (wb.alloc (.cells #[.int .i64 j0, .int .i64 j1, .int .i64 j2, .int .i64 j3, .int .i64 j4, .int .i64 j5, .int .i64 j6, .int .i64 j7, .int .i64 j8, .int .i64 j9] 74)) fun e w' => e = .returned (.tuple #[]) ∧ RisD w' wa.heap.size (putD L (k, c)) ∧ Below wa.heap.size (wb.alloc (.cells #[.int .i64 j0, .int .i64 j1, .int .i64 j2, .int .i64 j3, .int .i64 j4, .int .i64 j5, .int .i64 j6, .int .i64 j7, .int .i64 j8, .int .i64 j9] 74)) w') := hput
      have hmbb : x0.heap.size < wb.heap.size := HB.out.1.lt
      clear hput HB
      by_cases hp : j6 = -1
      case pos =>
        have d1 : (j6 == -1) = true := beq_iff_eq.2 hp
        have HNX : Hid (histL D R (k + 1) = putD L (k, j7)) := by
          have e1 : whenC D (R (k * 10 + 6)) (R (k * 10 + 7)) = j7 := by rw [HX.out.1, HX.out.2]; unfold whenC; rw [if_neg (by omega)]
          unfold Hid
          rw [histL, e1, if_neg (by omega), HLT.out.2.1]
        clear HX hp
        obtain ⟨lv, hlv⟩ : ∃ lv, (mapC D D.length j6).getD 0 = lv := ⟨_, rfl⟩
        obtain ⟨lb, hlb⟩ : ∃ lb, (mapC D D.length j6).isSome = lb := ⟨_, rfl⟩
        rw [hlv, hlb] at hlook
        clear hlv hlb
        go_wp2_with fail
        refine (HPU.out j7).mono ?_
        rintro e w2 ⟨rfl, hr2, q2⟩
        have H2 : Hid (IM w2 x0.heap.size D.length (mapC D D.length) ∧ Below x0.heap.size x0 w2 ∧ RisD w2 wa.heap.size (histL D R (k + 1))) := ⟨HB1.out.1.kept (q2.block _ hmb), HB1.out.2.1.trans (q2.mono (by omega)), by rw [HNX.out]; exact hr2⟩
        clear hr2 q2 HB1 HPU hlook
        go_wp2
        go_roundw
        case rel => exact ⟨k + 1, by omega, by go_num, H2⟩
        case measure => simp [intOf]; omega
      have d1 : (j6 == -1) = false := beq_eq_false_iff_ne.2 hp
      have hge : 0 ≤ j6 := by omega
      rcases mapC_last HP.out.1 j6 D.length (Nat.le_refl _) with ⟨m1, m2⟩ | ⟨cv, hcv, m1, m2⟩
      · have HNX : Hid (histL D R (k + 1) = L) := by
          have e1 : whenC D (R (k * 10 + 6)) (R (k * 10 + 7)) = 0 := by rw [HX.out.1]; unfold whenC; rw [if_pos hge, m2]
          unfold Hid
          rw [histL, e1, if_pos rfl, HLT.out.2.1]
        rw [m1] at hlook
        have hlook' : (Instr.lookup 128 (.map (some x0.heap.size)) (.int .i64 j6) true).run Tryz.prog (wb.alloc (.cells #[.int .i64 j0, .int .i64 j1, .int .i64 j2, .int .i64 j3, .int .i64 j4, .int .i64 j5, .int .i64 j6, .int .i64 j7, .int .i64 j8, .int .i64 j9] 74)) = .ok (.tuple #[.int .i64 0, .bool false]) (wb.alloc (.cells #[.int .i64 j0, .int .i64 j1, .int .i64 j2, .int .i64 j3, .int .i64 j4, .int .i64 j5, .int .i64 j6, .int .i64 j7, .int .i64 j8, .int .i64 j9] 74)) := hlook
        clear HX hp m1 m2 hlook hge
        go_wp2
        go_roundw
        case rel => exact ⟨k + 1, by omega, by go_num, by rw [HNX.out]; exact HB1⟩
        case measure => simp [intOf]; omega
      · have HNX : Hid (histL D R (k + 1) = putD L (k, cv)) := by
          have e1 : whenC D (R (k * 10 + 6)) (R (k * 10 + 7)) = cv := by rw [HX.out.1]; unfold whenC; rw [if_pos hge, m2]
          unfold Hid
          rw [histL, e1, if_neg (by omega), HLT.out.2.1]
        rw [m1] at hlook
        have hlook' : (Instr.lookup 128 (.map (some x0.heap.size)) (.int .i64 j6) true).run Tryz.prog (wb.alloc (.cells #[.int .i64 j0, .int .i64 j1, .int .i64 j2, .int .i64 j3, .int .i64 j4, .int .i64 j5, .int .i64 j6, .int .i64 j7, .int .i64 j8, .int .i64 j9] 74)) = .ok (.tuple #[.int .i64 cv, .bool true]) (wb.alloc (.cells #[.int .i64 j0, .int .i64 j1, .int .i64 j2, .int .i64 j3, .int .i64 j4, .int .i64 j5, .int .i64 j6, .int .i64 j7, .int .i64 j8, .int .i64 j9] 74)) := hlook
        clear HX hp m1 m2 hlook hge
        go_wp2_with fail
        refine (HPU.out cv).mono ?_
        rintro e w2 ⟨rfl, hr2, q2⟩
        have H2 : Hid (IM w2 x0.heap.size D.length (mapC D D.length) ∧ Below x0.heap.size x0 w2 ∧ RisD w2 wa.heap.size (histL D R (k + 1))) := ⟨HB1.out.1.kept (q2.block _ hmb), HB1.out.2.1.trans (q2.mono (by omega)), by rw [HNX.out]; exact hr2⟩
        clear hr2 q2 HB1 HPU hlook'
        go_wp2
        go_roundw
        case rel => exact ⟨k + 1, by omega, by go_num, H2⟩
        case measure => simp [intOf]; omega
end Go.Proofs.YtpodcnmiaacndaaGreat

namespace Go.Proofs.YtpodcnmiaacndaaGreat
open Go.RowKit

set_option maxHeartbeats 400000 in
theorem eqDone_same (x0 x1 : Int) (w : World) :
    Calls Tryz.prog 80 #[.agg #[.int .i64 x0, .int .i64 x1], .agg #[.int .i64 x0, .int .i64 x1]] w fun e w' => e = .returned (.bool true) ∧ Below w.heap.size w w' := by
  go_enter Tryz.func80, Tryz.ntmps80
  go_wp2
  go_ret
  exact ⟨rfl, ((Below.refl _ _).alloc (Nat.le_refl _) _).alloc (by simp) _⟩
def TwoDone (w : World) (g o g' o' k : Nat) (F : Nat → Int) (x : World) : Prop := (x.cell? ⟨g, o + k * 2, none⟩ = some (.int .i64 (F (k * 2))) ∧ x.cell? ⟨g, o + k * 2 + 1, none⟩ = some (.int .i64 (F (k * 2 + 1))) ∧ x.cell? ⟨g', o' + k * 2, none⟩ = some (.int .i64 (F (k * 2))) ∧ x.cell? ⟨g', o' + k * 2 + 1, none⟩ = some (.int .i64 (F (k * 2 + 1)))) ∧ Below w.heap.size w x
theorem TwoDone.later {w x x' : World} {g o g' o' k : Nat} {F : Nat → Int} (h : TwoDone w g o g' o' k F x) (hg : g < w.heap.size) (hg' : g' < w.heap.size) (hb : Below x.heap.size x x') : TwoDone w g o g' o' k F x' := by
  obtain ⟨⟨hx0, hx1, hx2, hx3⟩, hy⟩ := h
  exact ⟨⟨(hb.cell (Nat.lt_of_lt_of_le hg hy.size)).trans hx0, (hb.cell (Nat.lt_of_lt_of_le hg hy.size)).trans hx1, (hb.cell (Nat.lt_of_lt_of_le hg' hy.size)).trans hx2, (hb.cell (Nat.lt_of_lt_of_le hg' hy.size)).trans hx3⟩, hy.trans (hb.mono hy.size)⟩
set_option maxRecDepth 100000 in
set_option maxHeartbeats 1000000 in
theorem eqDoneS_same (va vb : Value) (Ba Bb n : Nat) (F : Nat → Int) (w : World) (ha : Row w Ba 2 n F va) (hb : Row w Bb 2 n F vb) (hn : n ≤ 1048576) :
    Calls Tryz.prog 38 #[va, vb] w fun e w' => e = .returned (.bool true) ∧ Below w.heap.size w w' := by
  obtain ⟨ao, ca, rfl⟩ := ha.form
  obtain ⟨bo, cb, rfl⟩ := hb.form
  have HA : Hid (Row w Ba 2 n F (.slice ao n ca)) := ha
  have HB : Hid (Row w Bb 2 n F (.slice bo n cb)) := hb
  clear ha hb
  go_enter Tryz.func38, Tryz.ntmps38
  go_wp2
  go_loopw [5] (fun i wr => ∃ k : Nat, k ≤ n ∧ i = .int .i64 k ∧ Below w.heap.size w wr) (fun i _ => n - (intOf i).toNat)
  case atStart => exact ⟨0, Nat.zero_le _, rfl, Below.refl _ _⟩
  case round =>
    obtain ⟨k, hk, rfl, hbw⟩ := hrel
    by_cases hlt : k < n
    · obtain ⟨g, o, rfl, _, hg, c0, c1⟩ := HA.out.at2 hlt
      obtain ⟨g', o', rfl, _, hg', d0, d1⟩ := HB.out.at2 hlt
      have h0 : TwoDone w g o g' o' k F wr.drew := ⟨⟨(hbw.cell (p := ⟨g, o + k * 2, none⟩) hg).trans c0, (hbw.cell (p := ⟨g, o + k * 2 + 1, none⟩) hg).trans c1, (hbw.cell (p := ⟨g', o' + k * 2, none⟩) hg').trans d0, (hbw.cell (p := ⟨g', o' + k * 2 + 1, none⟩) hg').trans d1⟩, hbw.drew⟩
      clear c0 d0 c1 d1 hbw
      go_wp2_with fail
      refine wp_region_held_drew (S := TwoDone w g o g' o' k F) (by kernel_rfl) h0 (fun hS => ?_)
      clear h0
      refine tkH 0 ?_ hS (fun wx hx => ?_) ?_; rotate_left
      · obtain ⟨⟨hx0, hx1, hx2, hx3⟩, _⟩ := hx; go_simp; try with_reducible rfl
      refine tkH 1 ?_ hS (fun wx hx => ?_) ?_; rotate_left
      · obtain ⟨⟨hx0, hx1, hx2, hx3⟩, _⟩ := hx; go_simp; try with_reducible rfl
      refine tkH 2 ?_ hS (fun wx hx => ?_) ?_; rotate_left
      · obtain ⟨⟨hx0, hx1, hx2, hx3⟩, _⟩ := hx; go_simp; try with_reducible rfl
      refine tkH 3 ?_ hS (fun wx hx => ?_) ?_; rotate_left
      · obtain ⟨⟨hx0, hx1, hx2, hx3⟩, _⟩ := hx; go_simp; try with_reducible rfl
      refine tkH 4 ?_ hS (fun wx hx => ?_) ?_; rotate_left
      · obtain ⟨⟨hx0, hx1, hx2, hx3⟩, _⟩ := hx; go_simp; try with_reducible rfl
      refine tkH 5 ?_ hS (fun wx hx => ?_) ?_; rotate_left
      · obtain ⟨⟨hx0, hx1, hx2, hx3⟩, _⟩ := hx; go_simp; try with_reducible rfl
      refine tkH 6 ?_ hS (fun wx hx => ?_) ?_; rotate_left
      · obtain ⟨⟨hx0, hx1, hx2, hx3⟩, _⟩ := hx; go_simp; try with_reducible rfl
      refine tkH 7 ?_ hS (fun wx hx => ?_) ?_; rotate_left
      · obtain ⟨⟨hx0, hx1, hx2, hx3⟩, _⟩ := hx; go_simp; try with_reducible rfl
      refine rdH 8 (fun K hK => ?_)
      go_simp
      go_wp2_with fail
      refine (eqDone_same _ _ _).mono ?_
      rintro e w' ⟨rfl, hb⟩
      go_wp2_with fail
      refine hK.out _ _ (hS.later hg hg' hb) (fun hS => ?_)
      clear hK K
      refine tkH 9 ?_ hS (fun wx hx => ?_) ?_; rotate_left
      · obtain ⟨⟨hx0, hx1, hx2, hx3⟩, _⟩ := hx; go_simp; try with_reducible rfl
      refine wpAnyH_done (by kernel_rfl) ?_ _
      go_simp
      go_wp2
      go_roundw
      case rel => exact ⟨k + 1, by omega, by go_num, hS.2⟩
      case measure => simp [intOf]; omega
    · go_wp2
      go_ret
      exact ⟨rfl, hbw⟩
set_option maxRecDepth 100000 in
set_option maxHeartbeats 2000000 in
theorem markDoneS_any (v : Value) (B n : Nat) (F : Nat → Int) (k0 : Int) (w : World) (h : Row w B 2 n F v) (hf : Free w (n * 2) v) (hn : n ≤ 1048576) (hk0 : 0 ≤ k0) (hk1 : k0 ≤ 100000000) :
    Calls Tryz.prog 41 #[v, .int .i64 k0] w fun e w' => e = .returned (.int .i64 (k0 + n * 2)) ∧ Row w' B 2 n (fun p => k0 + (p : Nat)) v ∧ Free w' (n * 2) v ∧ w.grownBy w' v.ownBlock := by
  obtain ⟨ao, cp, rfl⟩ := h.form
  have H0 : Hid (Marked w w B 2 n 0 k0 ao cp) := Marked.start h hf k0
  clear h hf
  go_enter Tryz.func41, Tryz.ntmps41
  go_wp2
  go_loopw [1, 5] (fun k i wr => ∃ j : Nat, j ≤ n ∧ i = .int .i64 j ∧ k = .int .i64 (k0 + j * 2) ∧ Hid (Marked w wr B 2 n j k0 ao cp)) (fun _ i _ => n - (intOf i).toNat)
  case atStart => exact ⟨0, Nat.zero_le _, rfl, by go_num, H0⟩
  case round =>
    obtain ⟨j, hj, rfl, rfl, hM⟩ := hrel
    by_cases hlt : j < n
    · obtain ⟨g, o, rfl, hB, hF⟩ := hM.out.1 (by omega)
      obtain ⟨u0, c0, e0⟩ := hF.at (p := j * 2) (by omega)
      obtain ⟨u1, c1, e1⟩ := hF.at (p := j * 2 + 1) (by omega)
      simp only [← Nat.add_assoc] at c0 e0 c1 e1
      have HF : Hid (Fill wr g o (n * 2) (j * 2) (fun p => k0 + (p : Nat)) ∧ w.grownBy wr (some g)) := ⟨hF, hM.out.2⟩
      clear hF hM H0
      go_wp2
      go_roundw
      case rel => exact ⟨j + 1, by omega, by go_num, by go_num, fun _ => ⟨g, o, rfl, hB, by rw [Nat.succ_mul]; exact ((HF.out.1.step (by omega) (by omega) (by omega)).step (by omega) (by omega) (by omega))⟩, (grownBy_set (grownBy_set HF.out.2 _ _) _ _)⟩
      case measure => simp [intOf]; omega
    · obtain rfl : j = n := by omega
      go_wp2
      go_ret
      exact ⟨rfl, hM.out.done.1, hM.out.done.2, hM.out.2⟩
set_option maxHeartbeats 2000000 in
theorem heldDoneS_any (v : Value) (B n : Nat) (k0 : Int) (w : World) (h : Row w B 2 n (fun p => k0 + (p : Nat)) v) (hn : n ≤ 1048576) (hk0 : 0 ≤ k0) (hk1 : k0 ≤ 100000000) :
    Calls Tryz.prog 42 #[v, .int .i64 k0] w fun e w' => e = .returned (.int .i64 (k0 + n * 2)) ∧ w' = w := by
  obtain ⟨ao, cp, rfl⟩ := h.form
  have H0 : Hid (Row w B 2 n (fun p => k0 + (p : Nat)) (.slice ao n cp)) := h
  clear h
  go_enter Tryz.func42, Tryz.ntmps42
  go_wp2
  go_loop [1, 5] (fun k i => ∃ j : Nat, j ≤ n ∧ i = .int .i64 j ∧ k = .int .i64 (k0 + j * 2)) (fun _ i => n - (intOf i).toNat)
  case atStart => exact ⟨0, Nat.zero_le _, rfl, by go_num⟩
  case round =>
    obtain ⟨j, hj, rfl, rfl⟩ := hrel
    by_cases hlt : j < n
    · obtain ⟨g, o, rfl, _, _, c0, c1⟩ := H0.out.at2 hlt
      rw [show k0 + ((j * 2 : Nat) : Int) = k0 + j * 2 from by omega] at c0
      rw [show k0 + ((j * 2 + 1 : Nat) : Int) = k0 + j * 2 + 1 from by omega] at c1
      go_wp2
      go_round
      case rel => exact ⟨j + 1, by omega, by go_num, by go_num⟩
      case measure => simp [intOf]; omega
    · obtain rfl : j = n := by omega
      go_wp2
      go_ret
      exact ⟨rfl, rfl⟩
set_option maxHeartbeats 1000000 in
theorem markDoneS_none (ao : Option Addr) (cp : Nat) (k0 : Int) (w : World) :
    Calls Tryz.prog 41 #[.slice ao 0 cp, .int .i64 k0] w fun e w' => e = .returned (.int .i64 k0) ∧ w' = w := by
  go_enter Tryz.func41, Tryz.ntmps41
  go_wp2
  go_loop [1, 5] (fun k i => i = .int .i64 0 ∧ k = .int .i64 k0) (fun _ i => 1 - (intOf i).toNat)
  case atStart => exact ⟨rfl, rfl⟩
  case round =>
    obtain ⟨rfl, rfl⟩ := hrel
    go_wp2
    go_ret
    exact ⟨rfl, rfl⟩
theorem markDoneS_turn (v : Value) (B n : Nat) (F : Nat → Int) (k0 : Int) (w : World) (h : Row w B 2 n F v) (hf : Free w (n * 2) v) (hn : n ≤ 1048576) (hk0 : 0 ≤ k0) (hk1 : k0 ≤ 100000000) :
    Calls Tryz.prog 41 #[v, .int .i64 k0] w fun e w' => e = .returned (.int .i64 (k0 + n * 2)) ∧ Row w' B 2 n (fun p => k0 + (p : Nat)) v ∧ Free w' (n * 2) v ∧ w.grownBy w' (turn n v) := by
  rcases Nat.eq_zero_or_pos n with e | e
  · subst e
    obtain ⟨ao, cp, rfl⟩ := h.form
    refine (markDoneS_none ao cp k0 w).mono fun e w' ⟨he, hw⟩ => ?_
    subst hw
    exact ⟨by rw [he]; simp, ⟨_, _, rfl, fun q => absurd q (Nat.lt_irrefl 0)⟩, hf, rfl, rfl, rfl, Nat.le_refl _, fun _ _ _ => rfl⟩
  · refine (markDoneS_any v B n F k0 w h hf hn hk0 hk1).mono fun e' w' ⟨he, h1, h2, h3⟩ => ⟨he, h1, h2, ?_⟩
    unfold turn
    rw [if_neg (by omega)]
    exact h3
end Go.Proofs.YtpodcnmiaacndaaGreat

namespace Go.Proofs.YtpodcnmiaacndaaGreat
open Go.RowKit

theorem world_dones {nw nx bd : Int} {nr : Nat} {F : Nat → Int} {n : Nat} {S : Nat → Sto} {nt : Nat} {T : Nat → Tx} (h : worldF nw nx bd nr F n S nt T = 0) : ∃ R : Nat → Option Int, ∀ i, i < nt → DoneAt nr F S (T i) (R i) := by
  have Z := world_fine h
  have hall : ∀ i, ∃ r, i < nt → DoneAt nr F S (T i) r := fun i => by
    by_cases hi : i < nt
    · obtain ⟨r, hr⟩ := DoneAt.get (S := S) (groupsF_zero Z.1).1 (Z.2.2 i hi).2
      exact ⟨r, fun _ => hr⟩
    · exact ⟨none, fun q => absurd q hi⟩
  exact Classical.axiomOfChoice hall
end Go.Proofs.YtpodcnmiaacndaaGreat

namespace Go.Proofs.YtpodcnmiaacndaaGreat
open Go.RowKit

/-- n numbers from k on. -/
def up (k : Int) (n : Nat) : List Int := (List.range n).map (fun j => k + (j : Nat))
end Go.Proofs.YtpodcnmiaacndaaGreat

namespace Go.Proofs.YtpodcnmiaacndaaGreat
open Go.RowKit

/-- A list literal lies in its own block. -/
theorem OwnM.lit (Y : World) (e : TypeId) (m n : Nat) (L : List Int) (cs : Array Value) (hcs : cs = (L.map (Value.int .i64)).toArray) (hl : L.length = n * m) (hn : n ≤ maxLen) : OwnM (Y.alloc (.cells cs e)) Y.heap.size e m (.slice (some ⟨Y.heap.size, 0, none⟩) n n) n L := by
  subst hcs
  have := World.ownsRow_lit (e := e) Y (L.map (Value.int .i64)).toArray n (Nat.le_refl _) hn (size := m) (by simp [hl])
  simpa [OwnM] using this
theorem heap_setRow (x : World) (b : Nat) (cs : Array Value) (k : Nat) (hk : k ≠ b) : (x.setRow b cs).heap[k]? = x.heap[k]? := by simp [World.setRow, Array.getElem?_modify]; omega
theorem below_row {B : Nat} {w z : World} (h : Below B w z) {g : Nat} (hg : B ≤ g) (cs : Array Value) : Below B w (z.setRow g cs) :=
  ⟨h.os, h.tape, h.output, by simpa [World.setRow] using h.size, fun k hk => (heap_setRow z g cs k (by omega)).trans (h.block k hk)⟩
end Go.Proofs.YtpodcnmiaacndaaGreat

namespace Go.Proofs.YtpodcnmiaacndaaGreat
open Go.RowKit

set_option maxHeartbeats 1000000 in
theorem eqHistoryResult_same (c : Int) (n : Nat) (a b : Option Addr) (p q : Nat) (Ba Bb : Nat) (F : Nat → Int) (w : World) (ha : Row w Ba 2 n F (.slice a n p)) (hb : Row w Bb 2 n F (.slice b n q)) (hn : n ≤ 1048576) :
    Calls Tryz.prog 14 #[.agg #[.int .i64 c, .slice a n p], .agg #[.int .i64 c, .slice b n q]] w fun e w' => e = .returned (.bool true) ∧ Below w.heap.size w w' := by
  have HA : Hid (Row w Ba 2 n F (.slice a n p) ∧ Row w Bb 2 n F (.slice b n q)) := ⟨ha, hb⟩
  clear ha hb
  go_enter Tryz.func14, Tryz.ntmps14
  go_wp2_with fail
  refine (eqDoneS_same _ _ Ba Bb n F _ ((HA.out.1.alloc _).alloc _) ((HA.out.2.alloc _).alloc _) hn).mono ?_
  rintro e w1 ⟨rfl, q1⟩
  have Q : Hid (Below w.heap.size w w1) := ((below_alloc _ _).alloc (by simp) _).trans (q1.mono (by simp; omega))
  clear q1
  go_wp2
  go_ret
  exact ⟨rfl, Q.out⟩
set_option maxHeartbeats 1000000 in
theorem markHistoryResult_any (c : Int) (n : Nat) (a : Option Addr) (p : Nat) (B : Nat) (F : Nat → Int) (w : World) (h : Row w B 2 n F (.slice a n p)) (hf : Free w (n * 2) (.slice a n p)) (hn : n ≤ 1048576) :
    Calls Tryz.prog 16 #[.agg #[.int .i64 c, .slice a n p], .int .i64 1] w fun e w' => e = .returned (.int .i64 (1 + n * 2)) ∧ Row w' B 2 n (fun p => 1 + (p : Nat)) (.slice a n p) ∧ w.grownBy w' (turn n (.slice a n p)) := by
  have HA : Hid (Row w B 2 n F (.slice a n p) ∧ Free w (n * 2) (.slice a n p)) := ⟨h, hf⟩
  clear h hf
  go_enter Tryz.func16, Tryz.ntmps16
  go_wp2_with fail
  refine (markDoneS_turn _ B n F 1 _ (HA.out.1.alloc _) (HA.out.2.ofRow HA.out.1 (below_alloc _ _)) hn (by omega) (by omega)).mono ?_
  rintro e w1 ⟨rfl, r1, _, g1⟩
  have Q : Hid (w.grownBy w1 (turn n (.slice a n p))) := ⟨g1.os, g1.tape, g1.output, Nat.le_trans (by simp) g1.size, fun k hk hne => (g1.block k (by simp; omega) hne).trans ((below_alloc w _).block k hk)⟩
  have R : Hid (Row w1 B 2 n (fun p => 1 + (p : Nat)) (.slice a n p)) := r1
  clear r1 g1
  go_wp2
  go_ret
  exact ⟨rfl, R.out, Q.out⟩
set_option maxHeartbeats 1000000 in
theorem heldHistoryResult_any (c : Int) (n : Nat) (a : Option Addr) (p : Nat) (B : Nat) (w : World) (h : Row w B 2 n (fun p => 1 + (p : Nat)) (.slice a n p)) (hn : n ≤ 1048576) :
    Calls Tryz.prog 17 #[.agg #[.int .i64 c, .slice a n p], .int .i64 1] w fun e w' => e = .returned (.int .i64 (1 + n * 2)) ∧ Below w.heap.size w w' := by
  have HA : Hid (Row w B 2 n (fun p => 1 + (p : Nat)) (.slice a n p)) := h
  clear h
  go_enter Tryz.func17, Tryz.ntmps17
  go_wp2_with fail
  refine (heldDoneS_any _ B n 1 _ (HA.out.alloc _) hn (by omega) (by omega)).mono ?_
  rintro e w1 ⟨rfl, rfl⟩
  have hnn : decide ((1 : Int) + n * 2 < 0) = false := decide_eq_false (by omega)
  go_wp2
  go_ret
  exact ⟨rfl, below_alloc _ _⟩
theorem donesL_mem (Q : Nat → Option Int) : ∀ (k : Nat) (e : Int × Int), e ∈ donesL Q k → ∃ i : Nat, i < k ∧ e.1 = (i : Int) ∧ Q i = some e.2
  | 0, e, h => absurd h (by simp [donesL])
  | k + 1, e, h => by
    rw [donesL] at h
    split at h
    · rename_i c hc
      rcases putD_mem h with rfl | q
      · exact ⟨k, by omega, rfl, hc⟩
      · obtain ⟨i, h1, h2⟩ := donesL_mem Q k e q
        exact ⟨i, by omega, h2⟩
    · obtain ⟨i, h1, h2⟩ := donesL_mem Q k e h
      exact ⟨i, by omega, h2⟩
theorem write_pos {k : Nat → Int} {i : Nat} (h : writeF k i = 0) : 1 ≤ k (i * 4 + 1) := by
  unfold writeF at h
  split at h
  · rename_i q
    exact absurd h q
  · split at h
    · exact absurd h (by decide)
    · rename_i q
      omega
theorem dones_pos {nw nx bd : Int} {nr : Nat} {F : Nat → Int} {n : Nat} {S : Nat → Sto} {nt : Nat} {T : Nat → Tx} {Q : Nat → Option Int} (hw : worldF nw nx bd nr F n S nt T = 0) (hQ : ∀ i, i < nt → DoneAt nr F S (T i) (Q i)) : ∀ m, m < (donesL Q nt).length → 1 ≤ ((donesL Q nt).getD m (0, 0)).2 ∧ 0 ≤ ((donesL Q nt).getD m (0, 0)).1 ∧ ((donesL Q nt).getD m (0, 0)).1 ≤ 16 := fun m hm => by
  have Z := world_fine hw
  have ZG := groupsF_zero Z.1
  have hin : (donesL Q nt).getD m (0, 0) ∈ donesL Q nt := by rw [List.getD_eq_getElem?_getD, List.getElem?_eq_getElem hm]; exact List.getElem_mem hm
  obtain ⟨i, hi, h1, h2⟩ := donesL_mem Q nt _ hin
  have h16 := Z.2.1
  refine ⟨?_, by omega, by omega⟩
  obtain ⟨j, hj, hd⟩ := hQ i hi
  rw [h2] at hd
  rcases hd with ⟨k, hk, e⟩ | ⟨_, e⟩
  · have hjn : j < n := by rw [ZG.2.1]; exact hj.1
    have hs := scan_zero (storeF_zero (ZG.2.2.1 j hjn).1).2.2.2.1 k hk.1.1
    have := write_pos hs
    have e2 := Option.some.inj e
    omega
  · cases e
/-- What HistoryOf answers: a code and a list. -/
def HsAns (nw nx bd : Int) (nr : Nat) (F : Nat → Int) (n : Nat) (S : Nat → Sto) (nt : Nat) (T : Nat → Tx) (nq : Nat) (R : Nat → Int) (c : Int) (L : Prs) : Prop :=
  (fsW nw nx bd nr F n S nt T nq R ≠ 0 ∧ c = fsW nw nx bd nr F n S nt T nq R ∧ L = []) ∨
  (fsW nw nx bd nr F n S nt T nq R = 0 ∧ c = 0 ∧ ∃ D, (∀ i, i < nt → DoneAt nr F S (T i) (D i)) ∧ histL (donesL D nt) R nq = L)
theorem HsAns.get (nw nx bd : Int) (nr : Nat) (F : Nat → Int) (n : Nat) (S : Nat → Sto) (nt : Nat) (T : Nat → Tx) (nq : Nat) (R : Nat → Int) : ∃ c L, L.length ≤ 192 ∧ HsAns nw nx bd nr F n S nt T nq R c L := by
  by_cases h : fsW nw nx bd nr F n S nt T nq R = 0
  · have hw := (fsW_zero h).1
    obtain ⟨D, hD⟩ := world_dones hw
    exact ⟨0, _, Nat.le_trans (histL_len _ _ _) (by have := (fsW_zero h).2.1; omega), Or.inr ⟨h, rfl, D, hD, rfl⟩⟩
  · exact ⟨_, [], by simp, Or.inl ⟨h, rfl, rfl⟩⟩
/-- Block b is one that a history's answer lies in. -/
def HBk (x : World) (b : Nat) : Prop := ∃ old : Array Value, x.heap[b]? = some (.cells old 52 (0, 0)) ∧ old.size = 2
theorem HBk.lt {x : World} {b : Nat} (h : HBk x b) : b < x.heap.size := by
  obtain ⟨old, h, _⟩ := h
  exact (Array.getElem?_eq_some_iff.1 h).1
theorem HBk.kept {x x' : World} {b : Nat} (h : HBk x b) (hb : x'.heap[b]? = x.heap[b]?) : HBk x' b := by
  obtain ⟨old, h, hs⟩ := h
  exact ⟨old, hb.trans h, hs⟩
theorem HBk.later {x x' : World} {b : Nat} (h : HBk x b) (hb : Below x.heap.size x x') : HBk x' b := h.kept (hb.block b h.lt)
theorem HBk.new (w : World) (a0 a1 : Value) : HBk (w.alloc (.cells #[a0, a1] 52)) w.heap.size := ⟨_, heap_alloc_new w _, rfl⟩
theorem step_storeH {ops : Array Oper} {o : Oper} {a : Act} {w : World} {K : Act → World → Prop} {Q : Exit → Act → World → Prop} {E : Prop} (hgd : o.guard = none) (x y : Operand) (ho : o.op = .store 52 x y)
    (g : Nat) (a0 a1 : Value) (hx : a.eval x = .pointer (some ⟨g, 0, none⟩)) (hy : a.eval y = .agg #[a0, a1]) (hP : HBk w g) (h1 : (#[a0, a1] : Array Value).all (·.oneCell') = true)
    (h : K (a.put o.dst undef) (w.setRow g #[a0, a1])) : if Region.wanted o (yielded ops a.tmps) = true then Oper.wp Tryz.prog o a w K Q else E := by
  have hw : Region.wanted o (yielded ops a.tmps) = true := by simp [Region.wanted, hgd]
  rw [if_pos hw]
  obtain ⟨old, hg, hs⟩ := hP
  exact wp_store_row 52 x y ho g #[a0, a1] hx hy 52 old hg (by kernel_rfl) hs h1 h
theorem HBk.blk {x : World} {b : Nat} (h : HBk x b) (a0 a1 : Value) : Blk2 (x.setRow b #[a0, a1]) b a0 a1 := by
  obtain ⟨old, hg, _⟩ := h
  have e : (x.setRow b #[a0, a1]).heap[b]? = some (.cells #[a0, a1] 52 (0, 0)) := by simp [World.setRow, Array.getElem?_modify, hg]
  refine ⟨⟨?_, ?_⟩, ?_, ?_⟩ <;> simp [World.cell?, World.frozen?, e]
set_option maxRecDepth 100000 in
set_option maxHeartbeats 4000000 in
theorem specHistoryOf_is (nw nx bd : Int) (nr : Nat) (F : Nat → Int) (n : Nat) (S : Nat → Sto) (V : Nat → Nat → Value) (vr vs : Value) (nt : Nat) (T : Nat → Tx) (X : Nat → Value) (vt : Value) (nq : Nat) (R : Nat → Int) (vq : Value) (B : Nat) (c : Int) (L : Prs) (w : World) (h : Grs w B nr F n S V vr vs) (hx : Txs w B nt T X vt) (hq : Row w B 10 nq R vq) (hr : nr ≤ 9223372036854775807) (hn : n ≤ 9223372036854775807) (ht : nt ≤ 9223372036854775807) (hnq : nq ≤ 9223372036854775807) (hm : ∀ i, i < nt → (T i).m ≤ 9223372036854775807) (hA : HsAns nw nx bd nr F n S nt T nq R c L) :
    Calls Tryz.prog 12 #[.agg #[.int .i64 nw, .int .i64 nx, .int .i64 bd, vr, vs, vt, vq]] w (ResRow 2 w c L.length (rowL L)) := by
  obtain ⟨a0, c0, a1, c1, rfl, rfl⟩ := h.form
  obtain ⟨a2, c2, rfl⟩ := hx.form
  obtain ⟨a3, c3, rfl⟩ := hq.form
  have H0 : Hid (LiesF ((w.alloc (.cells #[.int .i64 nw, .int .i64 nx, .int .i64 bd, .slice a0 nr c0, .slice a1 n c1, .slice a2 nt c2, .slice a3 nq c3] 46)).alloc (.cells #[.int .i64 0, .slice none 0 0] 52)) w.heap.size nw nx bd nr F n S V (.slice a0 nr c0) (.slice a1 n c1) nt T X (.slice a2 nt c2) nq R (.slice a3 nq c3) ∧ Blk2 ((w.alloc (.cells #[.int .i64 nw, .int .i64 nx, .int .i64 bd, .slice a0 nr c0, .slice a1 n c1, .slice a2 nt c2, .slice a3 nq c3] 46)).alloc (.cells #[.int .i64 0, .slice none 0 0] 52)) (w.heap.size + 1) (.int .i64 0) (.slice none 0 0) ∧ Below w.heap.size w ((w.alloc (.cells #[.int .i64 nw, .int .i64 nx, .int .i64 bd, .slice a0 nr c0, .slice a1 n c1, .slice a2 nt c2, .slice a3 nq c3] 46)).alloc (.cells #[.int .i64 0, .slice none 0 0] 52))) := by
    have k := Blk2.new (w.alloc (.cells #[.int .i64 nw, .int .i64 nx, .int .i64 bd, .slice a0 nr c0, .slice a1 n c1, .slice a2 nt c2, .slice a3 nq c3] 46)) (.int .i64 0) (.slice none 0 0) 52
    rw [World.size_alloc] at k
    exact ⟨LiesF.later ⟨Blk7F.new w _ _ _ _ _ _ _ _, (h.mono (Nat.zero_le _)).alloc _, (hx.mono (Nat.zero_le _)).alloc _, (hq.mono (Nat.zero_le _)).later (below_alloc _ _)⟩ (below_alloc _ _), k, (below_alloc _ _).alloc (by simp) _⟩
  have HM : Hid (∀ i, i < nt → (T i).m ≤ 9223372036854775807) := hm
  clear h hx hm hq
  obtain ⟨f, E⟩ : ∃ f, Hid (fsW nw nx bd nr F n S nt T nq R = f) := ⟨_, rfl⟩
  rcases hA with ⟨h1, rfl, rfl⟩ | ⟨h1, rfl, D, hD, hL⟩
  · rw [E.out] at h1
    have d : (f != 0) = true := bne_iff_ne.2 h1
    rw [E.out]
    clear h1
    go_enter Tryz.func12, Tryz.ntmps12
    go_wp2_with fail
    refine (l15Fault_any _ nw nx bd nr F n S V _ _ nt T X _ nq R _ _ H0.out.1 hr hn ht hnq HM.out).mono ?_
    rw [E.out]
    rintro e w1 ⟨rfl, q1⟩
    have hb := H0.out.2.1.later q1
    have HB : Hid (Below w.heap.size w w1) := H0.out.2.2.trans (q1.mono (by simp; omega))
    obtain ⟨⟨b0, b1⟩, y0, y1⟩ := hb
    clear q1 H0
    go_wp2
    refine bodyPost_ret (v := .agg #[.int .i64 f, .slice none 0 0]) (by simp [results, Tryz.results12, go_sem, b0, b1]) rfl ?_
    exact res_noneD rfl ((HB.out.setCell (by simp) _).setCell (by simp) _)
  · have hw := (fsW_zero h1).1
    have Z := world_fine hw
    have ZG := groupsF_zero Z.1
    obtain rfl : f = 0 := E.out.symm.trans h1
    have HR : Hid ((∀ i, i < nt → DoneAt nr F S (T i) (D i)) ∧ histL (donesL D nt) R nq = L) := ⟨hD, hL⟩
    have HZ : Hid ((nr ≤ 6 ∧ n = nr) ∧ (∀ i, i < n → (S i).nl ≤ 200 ∧ (S i).nw ≤ 200) ∧ nt ≤ 16 ∧ (∀ i, i < nt → 1 ≤ (T i).m) ∧ nq ≤ 30 ∧ ∀ i, i < nq → 1 ≤ R (i * 10 + 7)) := ⟨⟨ZG.1.n6, ZG.2.1⟩, fun i hi => (storeF_zero (ZG.2.2.1 i hi).1).1.2, Z.2.1, fun i hi => (Z.2.2 i hi).1.1, (fsW_zero h1).2.1, fun i hi => (runF_zero ((fsW_zero h1).2.2 i hi)).2.2.1.1⟩
    clear hD hL h1 Z ZG hw
    go_enter Tryz.func12, Tryz.ntmps12
    go_wp2_with fail
    refine (l15Fault_any _ nw nx bd nr F n S V _ _ nt T X _ nq R _ _ H0.out.1 hr hn ht hnq HM.out).mono ?_
    rw [E.out]
    rintro e w1 ⟨rfl, q1⟩
    have H1 : Hid (LiesF w1 w.heap.size nw nx bd nr F n S V (.slice a0 nr c0) (.slice a1 n c1) nt T X (.slice a2 nt c2) nq R (.slice a3 nq c3) ∧ Blk2 w1 (w.heap.size + 1) (.int .i64 0) (.slice none 0 0) ∧ Below w.heap.size w w1) := ⟨H0.out.1.later q1, H0.out.2.1.later q1, H0.out.2.2.trans (q1.mono (by simp; omega))⟩
    clear q1 H0
    go_wp2_with fail
    refine (l15History_is _ nw nx bd nr F n S V _ _ nt T X _ nq R _ D _ _ H1.out.1 HZ.out.1.1 HZ.out.1.2 HZ.out.2.1 HZ.out.2.2.1 HZ.out.2.2.2.1 HR.out.1 rfl HZ.out.2.2.2.2.1 HZ.out.2.2.2.2.2).mono ?_
    rw [HR.out.2]
    rintro e w4 ⟨ro, rc, rfl, hr2, q4⟩
    have HO : Hid (Own w4 w1.heap.size 92 2 L.length (rowL L) (.slice ro L.length rc) ∧ Below w.heap.size w w4) := ⟨hr2, H1.out.2.2.trans (q4.mono H1.out.2.2.size)⟩
    have hbw : w.heap.size + 1 < w1.heap.size := H1.out.2.1.lt
    obtain ⟨⟨x0, x1⟩, z0, z1⟩ := H1.out.2.1.later q4
    clear hr2 q4
    obtain ⟨LN, hLN⟩ : ∃ LN, L.length = LN := ⟨_, rfl⟩
    have HLN : Hid (L.length = LN) := hLN
    rw [hLN] at HO ⊢
    clear hLN
    go_wp2
    refine bodyPost_ret (v := .agg #[.int .i64 0, .slice ro LN rc]) (by simp [results, Tryz.results12, go_sem, x0, x1]) rfl ?_
    rw [HLN.out]
    refine ⟨ro, rc, rfl, ?_, ?_, ?_⟩
    · exact ((HO.out.1.row.1.far (Or.inl (by simp; omega)) _).far (Or.inl (by simp; omega)) _).mono (by omega)
    · exact (HO.out.1.row.2.far _ _).far _ _
    · exact (HO.out.2.setCell (by simp) _).setCell (by simp) _
set_option maxRecDepth 100000 in
set_option maxHeartbeats 4000000 in
theorem implHistoryOf_is (nw nx bd : Int) (nr : Nat) (F : Nat → Int) (n : Nat) (S : Nat → Sto) (V : Nat → Nat → Value) (vr vs : Value) (nt : Nat) (T : Nat → Tx) (X : Nat → Value) (vt : Value) (nq : Nat) (R : Nat → Int) (vq : Value) (B : Nat) (c : Int) (L : Prs) (w : World) (h : Grs w B nr F n S V vr vs) (hx : Txs w B nt T X vt) (hq : Row w B 10 nq R vq) (hr : nr ≤ 9223372036854775807) (hn : n ≤ 9223372036854775807) (ht : nt ≤ 9223372036854775807) (hnq : nq ≤ 9223372036854775807) (hm : ∀ i, i < nt → (T i).m ≤ 9223372036854775807) (hA : HsAns nw nx bd nr F n S nt T nq R c L) :
    Calls Tryz.prog 13 #[.agg #[.int .i64 nw, .int .i64 nx, .int .i64 bd, vr, vs, vt, vq]] w (ResRow 2 w c L.length (rowL L)) := by
  obtain ⟨a0, c0, a1, c1, rfl, rfl⟩ := h.form
  obtain ⟨a2, c2, rfl⟩ := hx.form
  obtain ⟨a3, c3, rfl⟩ := hq.form
  have H0 : Hid (LiesF ((w.alloc (.cells #[.int .i64 nw, .int .i64 nx, .int .i64 bd, .slice a0 nr c0, .slice a1 n c1, .slice a2 nt c2, .slice a3 nq c3] 46)).alloc (.cells #[.int .i64 0, .slice none 0 0] 52)) w.heap.size nw nx bd nr F n S V (.slice a0 nr c0) (.slice a1 n c1) nt T X (.slice a2 nt c2) nq R (.slice a3 nq c3) ∧ Blk2 ((w.alloc (.cells #[.int .i64 nw, .int .i64 nx, .int .i64 bd, .slice a0 nr c0, .slice a1 n c1, .slice a2 nt c2, .slice a3 nq c3] 46)).alloc (.cells #[.int .i64 0, .slice none 0 0] 52)) (w.heap.size + 1) (.int .i64 0) (.slice none 0 0) ∧ Below w.heap.size w ((w.alloc (.cells #[.int .i64 nw, .int .i64 nx, .int .i64 bd, .slice a0 nr c0, .slice a1 n c1, .slice a2 nt c2, .slice a3 nq c3] 46)).alloc (.cells #[.int .i64 0, .slice none 0 0] 52))) := by
    have k := Blk2.new (w.alloc (.cells #[.int .i64 nw, .int .i64 nx, .int .i64 bd, .slice a0 nr c0, .slice a1 n c1, .slice a2 nt c2, .slice a3 nq c3] 46)) (.int .i64 0) (.slice none 0 0) 52
    rw [World.size_alloc] at k
    exact ⟨LiesF.later ⟨Blk7F.new w _ _ _ _ _ _ _ _, (h.mono (Nat.zero_le _)).alloc _, (hx.mono (Nat.zero_le _)).alloc _, (hq.mono (Nat.zero_le _)).later (below_alloc _ _)⟩ (below_alloc _ _), k, (below_alloc _ _).alloc (by simp) _⟩
  have HM : Hid (∀ i, i < nt → (T i).m ≤ 9223372036854775807) := hm
  clear h hx hm hq
  obtain ⟨f, E⟩ : ∃ f, Hid (fsW nw nx bd nr F n S nt T nq R = f) := ⟨_, rfl⟩
  obtain ⟨⟨k0, k1, k2, k3, k4, k5, k6⟩, _⟩ := H0.out.1.1
  rcases hA with ⟨h1, rfl, rfl⟩ | ⟨h1, rfl, D, hD, hL⟩
  · rw [E.out] at h1
    have d : (f != 0) = true := bne_iff_ne.2 h1
    rw [E.out]
    clear h1
    go_enter Tryz.func13, Tryz.ntmps13
    go_wp2_with fail
    refine (implFsWorldFault_any nw nx bd nr F n S V _ _ nt T X _ nq R _ 0 _ H0.out.1.2.1 H0.out.1.2.2.1 H0.out.1.2.2.2 hr hn ht hnq).mono ?_
    rw [E.out]
    rintro e w1 ⟨rfl, q1⟩
    have hb := H0.out.2.1.later q1
    have HB : Hid (Below w.heap.size w w1) := H0.out.2.2.trans (q1.mono (by simp; omega))
    obtain ⟨⟨b0, b1⟩, y0, y1⟩ := hb
    clear q1 H0 k0 k1 k2 k3 k4 k5 k6
    go_wp2
    refine bodyPost_ret (v := .agg #[.int .i64 f, .slice none 0 0]) (by simp [results, Tryz.results13, go_sem, b0, b1]) rfl ?_
    exact res_noneD rfl ((HB.out.setCell (by simp) _).setCell (by simp) _)
  · have hw := (fsW_zero h1).1
    have Z := world_fine hw
    have ZG := groupsF_zero Z.1
    have ZP := dones_pos hw hD
    have HR : Hid ((∀ i, i < nt → DoneAt n F S (T i) (D i)) ∧ histL (donesL D nt) R nq = L) := ⟨by rw [ZG.2.1]; exact hD, hL⟩
    have HP : Hid ((∀ m, m < (donesL D nt).length → 1 ≤ ((donesL D nt).getD m (0, 0)).2) ∧ ∀ m, m < (donesL D nt).length → 0 ≤ ((donesL D nt).getD m (0, 0)).1 ∧ ((donesL D nt).getD m (0, 0)).1 ≤ 16) := ⟨fun m hm => (ZP m hm).1, fun m hm => (ZP m hm).2⟩
    have HZ : Hid ((n = nr ∧ n ≤ 12) ∧ (∀ i, i < n → storeF (S i) = 0) ∧ nt ≤ 16 ∧ (∀ i, i < nt → 1 ≤ (T i).m ∧ (T i).m ≤ 12) ∧ nq ≤ 30 ∧ ∀ i, i < nq → 1 ≤ R (i * 10 + 7) ∧ -1 ≤ R (i * 10 + 6) ∧ R (i * 10 + 6) ≤ 16) := ⟨⟨ZG.2.1, by have := ZG.1.n6; have := ZG.2.1; omega⟩, fun i hi => (ZG.2.2.1 i hi).1, Z.2.1, fun i hi => (Z.2.2 i hi).1, (fsW_zero h1).2.1, fun i hi => by have := (runF_zero ((fsW_zero h1).2.2 i hi)).2; have := Z.2.1; unfold Fits at *; omega⟩
    have HBK : Hid (HBk ((w.alloc (.cells #[.int .i64 nw, .int .i64 nx, .int .i64 bd, .slice a0 nr c0, .slice a1 n c1, .slice a2 nt c2, .slice a3 nq c3] 46)).alloc (.cells #[.int .i64 0, .slice none 0 0] 52)) (w.heap.size + 1)) := by
      have k := HBk.new (w.alloc (.cells #[.int .i64 nw, .int .i64 nx, .int .i64 bd, .slice a0 nr c0, .slice a1 n c1, .slice a2 nt c2, .slice a3 nq c3] 46)) (.int .i64 0) (.slice none 0 0)
      rw [World.size_alloc] at k
      exact k
    obtain rfl : f = 0 := E.out.symm.trans h1
    clear hD hL h1 Z ZG hw ZP
    go_enter Tryz.func13, Tryz.ntmps13
    go_wp2_with fail
    refine (implFsWorldFault_any nw nx bd nr F n S V _ _ nt T X _ nq R _ 0 _ H0.out.1.2.1 H0.out.1.2.2.1 H0.out.1.2.2.2 hr hn ht hnq).mono ?_
    rw [E.out]
    rintro e w1 ⟨rfl, q1⟩
    have H1 : Hid (LiesF w1 w.heap.size nw nx bd nr F n S V (.slice a0 nr c0) (.slice a1 n c1) nt T X (.slice a2 nt c2) nq R (.slice a3 nq c3) ∧ HBk w1 (w.heap.size + 1) ∧ Below w.heap.size w w1) := ⟨H0.out.1.later q1, HBK.out.later q1, H0.out.2.2.trans (q1.mono (by simp; omega))⟩
    clear q1 H0 k0 k1 k2 k3 k4 k5 k6 HBK
    go_upto_region 4 with fail
    have H2 : Hid (LiesF w1.drew w.heap.size nw nx bd nr F n S V (.slice a0 nr c0) (.slice a1 n c1) nt T X (.slice a2 nt c2) nq R (.slice a3 nq c3) ∧ HBk w1.drew (w.heap.size + 1) ∧ Below w.heap.size w w1.drew) := ⟨H1.out.1.later (Below.refl _ w1).drew, H1.out.2.1.later (Below.refl _ w1).drew, H1.out.2.2.drew⟩
    refine wp_region_held_drew (S := fun Y : World => Blk7F Y w.heap.size (.int .i64 nw) (.int .i64 nx) (.int .i64 bd) (.slice a0 nr c0) (.slice a1 n c1) (.slice a2 nt c2) (.slice a3 nq c3)) (by kernel_rfl) H2.out.1.1 (fun hS => ?_)
    generalize w1.drew = w2 at hS H2 ⊢
    clear H1
    refine tkH 0 ?_ hS (fun wx hx => ?_) ?_; rotate_left
    · obtain ⟨⟨hx0, hx1, hx2, hx3, hx4, hx5, hx6⟩, _⟩ := hx; go_simp; try with_reducible rfl
    refine tkH 1 ?_ hS (fun wx hx => ?_) ?_; rotate_left
    · obtain ⟨⟨hx0, hx1, hx2, hx3, hx4, hx5, hx6⟩, _⟩ := hx; go_simp; try with_reducible rfl
    refine tkH 3 ?_ hS (fun wx hx => ?_) ?_; rotate_left
    · obtain ⟨⟨hx0, hx1, hx2, hx3, hx4, hx5, hx6⟩, _⟩ := hx; go_simp; try with_reducible rfl
    refine tkH 4 ?_ hS (fun wx hx => ?_) ?_; rotate_left
    · obtain ⟨⟨hx0, hx1, hx2, hx3, hx4, hx5, hx6⟩, _⟩ := hx; go_simp; try with_reducible rfl
    try simp only [Act.put, List.getElem_toArray, List.getElem_cons_zero, List.getElem_cons_succ, List.setIfInBounds_toArray, List.set_cons_succ, List.set_cons_zero]
    refine rdH 2 (fun K hK => ?_)
    go_simp
    go_wp2_with fail
    refine (workOn_is nw nx bd nr F n S V _ _ nt T X _ 0 _ H2.out.1.2.1 H2.out.1.2.2.1 HZ.out.2.1 HZ.out.1.1 HZ.out.1.2 HZ.out.2.2.1 HZ.out.2.2.2.1).mono ?_
    rintro e w3 ⟨b, B2, g, P, Y, v, rfl, hW⟩
    have HD : Hid (DonE w3 b nw nx bd n F S g P w2.heap.size nt T Y v w3) := ⟨Below.refl _ _, hW.kb, hW.work, hW.txs.txs.mono (Nat.zero_le _)⟩
    have H3 : Hid (Row w3 0 10 nq R (.slice a3 nq c3) ∧ HBk w3 (w.heap.size + 1) ∧ Below w.heap.size w w3) := ⟨H2.out.1.2.2.2.later hW.below, H2.out.2.1.later hW.below, H2.out.2.2.trans (hW.below.mono H2.out.2.2.size)⟩
    have hS' : Blk7F w3 w.heap.size (.int .i64 nw) (.int .i64 nx) (.int .i64 bd) (.slice a0 nr c0) (.slice a1 n c1) (.slice a2 nt c2) (.slice a3 nq c3) := hS.later hW.below
    clear hW H2 hS
    go_wp2_with fail
    refine hK.out _ _ hS' (fun hS => ?_)
    clear hK K hS'
    refine rdH 5 (fun K hK => ?_)
    go_simp
    go_wp2_with fail
    refine (history_is w3 b nw nx bd n F S g P w2.heap.size nt T Y v D _ nq R _ HD.out H3.out.1 HR.out.1 rfl HZ.out.1.2 HZ.out.2.2.1 (fun i hi => (HZ.out.2.2.2.1 i hi).1) HZ.out.2.2.2.2.1 HP.out.1 HP.out.2 HZ.out.2.2.2.2.2).mono ?_
    rw [HR.out.2]
    rintro e w4 ⟨ro, rc, rfl, hr2, q4⟩
    have hbw : w.heap.size + 1 < w3.heap.size := H3.out.2.1.lt
    have HO : Hid (Own w4 w3.heap.size 92 2 L.length (rowL L) (.slice ro L.length rc) ∧ Below w.heap.size w w4 ∧ HBk w4 (w.heap.size + 1)) := ⟨hr2, H3.out.2.2.trans (q4.mono H3.out.2.2.size), H3.out.2.1.later q4⟩
    have hS' : Blk7F w4 w.heap.size (.int .i64 nw) (.int .i64 nx) (.int .i64 bd) (.slice a0 nr c0) (.slice a1 n c1) (.slice a2 nt c2) (.slice a3 nq c3) := hS.later q4
    clear hr2 q4 H3 HD hS
    obtain ⟨LN, hLN⟩ : ∃ LN, L.length = LN := ⟨_, rfl⟩
    have HLN : Hid (L.length = LN) := hLN
    rw [hLN] at HO ⊢
    clear hLN
    go_wp2_with fail
    refine hK.out _ _ hS' (fun hS => ?_)
    clear hK K hS'
    refine tkH 6 ?_ hS (fun wx hx => ?_) ?_; rotate_left
    · obtain ⟨⟨hx0, hx1, hx2, hx3, hx4, hx5, hx6⟩, _⟩ := hx; go_simp; try with_reducible rfl
    try simp only [Act.put, List.getElem_toArray, List.getElem_cons_zero, List.getElem_cons_succ, List.setIfInBounds_toArray, List.set_cons_succ, List.set_cons_zero]
    refine rdH 7 (fun K hK => ?_)
    refine step_storeH rfl _ _ rfl (w.heap.size + 1) _ _ rfl rfl HO.out.2.2 (by kernel_rfl) ?_
    have KB : Hid (Blk2 (w4.setRow (w.heap.size + 1) #[.int .i64 0, .slice ro LN rc]) (w.heap.size + 1) (.int .i64 0) (.slice ro LN rc)) := HO.out.2.2.blk _ _
    have HF : Hid (Own (w4.setRow (w.heap.size + 1) #[.int .i64 0, .slice ro LN rc]) w3.heap.size 92 2 LN (rowL L) (.slice ro LN rc) ∧ Below w.heap.size w (w4.setRow (w.heap.size + 1) #[.int .i64 0, .slice ro LN rc])) := ⟨HO.out.1.kept (fun k hk => heap_setRow _ _ _ _ (by have := (own_in HO.out.1 k hk).1; omega)), below_row HO.out.2.1 (by omega) _⟩
    have hS' : Blk7F (w4.setRow (w.heap.size + 1) #[.int .i64 0, .slice ro LN rc]) w.heap.size (.int .i64 nw) (.int .i64 nx) (.int .i64 bd) (.slice a0 nr c0) (.slice a1 n c1) (.slice a2 nt c2) (.slice a3 nq c3) := hS.kept (heap_setRow _ _ _ _ (by omega))
    clear hS HO
    refine hK.out _ _ hS' (fun hS => ?_)
    clear hK K hS' hS
    refine wpAnyH_done (by kernel_rfl) ?_ _
    go_simp
    obtain ⟨⟨x0, x1⟩, _⟩ := KB.out
    go_wp2
    refine bodyPost_ret (v := .agg #[.int .i64 0, .slice ro LN rc]) (by simp [results, Tryz.results13, go_sem, x0, x1]) rfl ?_
    rw [HLN.out]
    exact ⟨ro, rc, rfl, HF.out.1.row.1.mono (by omega), HF.out.1.row.2, HF.out.2⟩
end Go.Proofs.YtpodcnmiaacndaaGreat

namespace Go.Proofs.YtpodcnmiaacndaaGreat
open Go.RowKit

def markX (T : Nat → Tx) (i : Nat) : Nat := 5 + (T i).m * 3
theorem markX_le (T : Nat → Tx) : ∀ n, sumN (markX T) n ≤ 5 * n + 3 * sumN (sizeX T) n
  | 0 => by simp [sumN]
  | n + 1 => by
    have := markX_le T n
    show sumN (markX T) n + markX T n ≤ 5 * (n + 1) + 3 * (sumN (sizeX T) n + sizeX T n)
    unfold markX sizeX at *
    omega
theorem Fil.over {w : World} {g N : Nat} {X : Nat → Value} {D : Nat → Prop} (h : Fil w g N X D) {p : Nat} (hp : p < N) (hd : ¬ D p) (v : Value) : Fil (w.setCell ⟨g, p, none⟩ v) g N X D := by
  obtain ⟨u, hu⟩ := (h.2 p hp).1.1
  have same : (w.setCell ⟨g, p, none⟩ v).cell? ⟨g, p, none⟩ = some v := World.cell?_setCell_same _ _ _ hu
  have other : ∀ q, q ≠ p → (w.setCell ⟨g, p, none⟩ v).cell? ⟨g, q, none⟩ = w.cell? ⟨g, q, none⟩ := fun q hq => World.cell?_setCell_other _ _ _ _ (fun e => hq (congrArg Addr.off e).symm)
  refine ⟨by simpa [World.setCell] using h.1, fun q hq => ⟨⟨?_, by simp only [World.frozen?_setCell]; exact (h.2 q hq).1.2⟩, fun d => ?_⟩⟩
  · by_cases e : q = p
    · subst e; exact ⟨_, same⟩
    · rw [other q e]; exact (h.2 q hq).1.1
  · by_cases e : q = p
    · subst e; exact absurd d hd
    · rw [other q e]; exact (h.2 q hq).2 d
theorem Fil.within {w w' : World} {g N B E : Nat} {X : Nat → Value} {D : Nat → Prop} (h : Fil w g N X D) (hw : Within B E w w') (hg : g < B ∨ E ≤ g) : Fil w' g N X D := by
  have hb := hw.block g h.1 hg
  refine ⟨Nat.lt_of_lt_of_le h.1 hw.size, fun p hp => ?_⟩
  rw [World.cell?_of_block (w := w) (a := ⟨g, p, none⟩) hb, World.frozen?_of_block (w := w) (a := ⟨g, p, none⟩) hb]
  exact h.2 p hp
theorem FineT.up {w : World} {z : Nat → Nat} {n : Nat} {T : Nat → Tx} {U : Nat → Value} (h : FineT w z n T U) : ∀ j, j ≤ n → ∀ i, i ≤ j → z i ≤ z j
  | 0, _, i, hi => by obtain rfl : i = 0 := by omega
                      exact Nat.le_refl _
  | j + 1, hj, i, hi => by
    by_cases q : i = j + 1
    · subst q; exact Nat.le_refl _
    · exact Nat.le_trans (h.up j (by omega) i (by omega)) (h j (by omega)).2.2
/-- What stands while transactions are numbered: the items of those from k on, and where they lie. -/
def MarkE (w : World) (g n : Nat) (T : Nat → Tx) (U : Nat → Value) (z : Nat → Nat) (k : Nat) (x : World) : Prop :=
  Fil x g (n * 6) (fun p => U (p / 6)) (fun p => p % 6 = 5) ∧ (∀ i, k ≤ i → i < n → Row x (z i) 3 (T i).m (T i).L (U i) ∧ Free x ((T i).m * 3) (U i)) ∧ Within g (z n) w x
theorem MarkE.over {w x : World} {g n : Nat} {T : Nat → Tx} {U : Nat → Value} {z : Nat → Nat} {k : Nat} (h : MarkE w g n T U z k x) (hz : ∀ i, i ≤ n → g < z i) {p : Nat} (hp : p < n * 6) (hd : p % 6 ≠ 5) (v : Value) : MarkE w g n T U z k (x.setCell ⟨g, p, none⟩ v) := by
  refine ⟨h.1.over hp hd v, fun i hi hn => ⟨(h.2.1 i hi hn).1.far (Or.inl (hz i (by omega))) v, (h.2.1 i hi hn).2.far _ _⟩, h.2.2.trans ⟨rfl, rfl, rfl, by simp [World.setCell], fun q hq ho => Below.heap_setCell x _ v q ?_⟩⟩
  have := hz n (Nat.le_refl _)
  show q ≠ g
  omega
theorem MarkE.over5 {w x : World} {g n : Nat} {T : Nat → Tx} {U : Nat → Value} {z : Nat → Nat} {k : Nat} (h : MarkE w g n T U z k x) (hz : ∀ i, i ≤ n → g < z i) (hk : k < n) (v0 v1 v2 v3 v4 : Value) :
    MarkE w g n T U z k (((((x.setCell ⟨g, k * 6, none⟩ v0).setCell ⟨g, k * 6 + 1, none⟩ v1).setCell ⟨g, k * 6 + 2, none⟩ v2).setCell ⟨g, k * 6 + 3, none⟩ v3).setCell ⟨g, k * 6 + 4, none⟩ v4) :=
  ((((h.over hz (by omega) (by omega) v0).over hz (by omega) (by omega) v1).over hz (by omega) (by omega) v2).over hz (by omega) (by omega) v3).over hz (by omega) (by omega) v4
theorem MarkE.next {w x x1 : World} {g n : Nat} {T : Nat → Tx} {U : Nat → Value} {z : Nat → Nat} {k : Nat} (h : MarkE w g n T U z k x) (hz : ∀ i, i ≤ n → g < z i) (hf : FineT w z n T U) (hk : k < n) (hw : Within (z k) (z (k + 1)) x x1) : MarkE w g n T U z (k + 1) x1 := by
  refine ⟨h.1.within hw (Or.inl (hz k (by omega))), fun i hi hn => ?_, h.2.2.trans (hw.mono (Nat.le_of_lt (hz k (by omega))) (hf.up n (Nat.le_refl _) (k + 1) hk))⟩
  have ho : 0 < (T i).m → ∀ q, (U i).ownBlock = some q → q < z k ∨ z (k + 1) ≤ q := fun h0 q hq => Or.inr (by
    have h1 := (hf i hn).2.1 h0 q hq
    have h2 := hf.up i (by omega) (k + 1) hi
    omega)
  exact ⟨(h.2.1 i (by omega) hn).1.within hw ho, (h.2.1 i (by omega) hn).2.within (h.2.1 i (by omega) hn).1 hw ho⟩
set_option maxRecDepth 100000 in
set_option maxHeartbeats 8000000 in
theorem markTxnS_any (n cp g : Nat) (T : Nat → Tx) (U : Nat → Value) (z : Nat → Nat) (k0 : Int) (w : World) (hF : FillT w g n n T U) (hf : FineT w z n T U) (hz : ∀ i, i ≤ n → g < z i) (hs : ∀ i, i < n → (T i).m ≤ 1048576) (ht : sumN (sizeX T) n ≤ 1048576) (h0 : 0 ≤ k0) (h1 : k0 ≤ 20000000) (hn : n ≤ 1048576) :
    Calls Tryz.prog 82 #[.slice (some ⟨g, 0, none⟩) n cp, .int .i64 k0] w fun e w' => e = .returned (.int .i64 (k0 + (sumN (markX T) n : Nat))) ∧ Within g (z n) w w' := by
  have HZ : Hid ((∀ i, i ≤ n → g < z i) ∧ FineT w z n T U) := ⟨hz, hf⟩
  have HN : Hid ((∀ i, i < n → (T i).m ≤ 1048576) ∧ ∀ k, k ≤ n → sumN (markX T) k ≤ 8388608) := ⟨hs, fun k hk => by have := sum_mono (markX T) hk; have := markX_le T n; omega⟩
  have HM : Hid (MarkE w g n T U z 0 w) := ⟨Fil.congr hF (fun p hp d => ⟨by omega, by
    show txV (T (p / 6)) (U (p / 6)) (p % 6) = U (p / 6)
    rw [d]
    rfl⟩), fun i _ hi => ⟨(hf i hi).1.1, (hf i hi).1.2.1⟩, Within.refl _ _ _⟩
  clear hF hf hz hs ht
  go_enter Tryz.func82, Tryz.ntmps82
  go_wp2
  go_loopw [1, 5] (fun j i wr => ∃ (k c : Nat), k ≤ n ∧ j = .int .i64 (k0 + (c : Nat)) ∧ i = .int .i64 k ∧ Hid (c = sumN (markX T) k) ∧ Hid (MarkE w g n T U z k wr)) (fun _ i _ => n - (intOf i).toNat)
  case atStart => exact ⟨0, 0, Nat.zero_le _, by simp, rfl, rfl, HM⟩
  case round =>
    clear HM
    obtain ⟨k, c, hk, rfl, rfl, HC, HR⟩ := hrel
    have hcb : c ≤ 8388608 := by rw [HC.out]; exact HN.out.2 k hk
    by_cases hlt : k < n
    · obtain ⟨⟨⟨x0, y0⟩, f0⟩, _⟩ := HR.out.1.2 (k * 6) (by omega)
      obtain ⟨⟨⟨x1, y1⟩, f1⟩, _⟩ := HR.out.1.2 (k * 6 + 1) (by omega)
      obtain ⟨⟨⟨x2, y2⟩, f2⟩, _⟩ := HR.out.1.2 (k * 6 + 2) (by omega)
      obtain ⟨⟨⟨x3, y3⟩, f3⟩, _⟩ := HR.out.1.2 (k * 6 + 3) (by omega)
      obtain ⟨⟨⟨x4, y4⟩, f4⟩, _⟩ := HR.out.1.2 (k * 6 + 4) (by omega)
      have y5 := (HR.out.1.2 (k * 6 + 5) (by omega)).2 (by omega)
      simp only [show (k * 6 + 5) / 6 = k by omega] at y5
      obtain ⟨uo, uc, hU⟩ := (HR.out.2.1 k (Nat.le_refl _) hlt).1.form
      have hm := HN.out.1 k hlt
      obtain ⟨m, hmm⟩ : ∃ m, (T k).m = m := ⟨_, rfl⟩
      rw [hU, hmm] at y5
      rw [hmm] at hm
      have HU : Hid (U k = .slice uo m uc ∧ (T k).m = m) := ⟨by rw [hU, hmm], hmm⟩
      clear hU hmm
      have HM5 : Hid (∀ v0 v1 v2 v3 v4, MarkE w g n T U z k (((((wr.setCell ⟨g, k * 6, none⟩ v0).setCell ⟨g, k * 6 + 1, none⟩ v1).setCell ⟨g, k * 6 + 2, none⟩ v2).setCell ⟨g, k * 6 + 3, none⟩ v3).setCell ⟨g, k * 6 + 4, none⟩ v4)) := fun v0 v1 v2 v3 v4 => HR.out.over5 HZ.out.1 hlt v0 v1 v2 v3 v4
      have HIT : Hid (∀ v0 v1 v2 v3 v4, Row (((((wr.setCell ⟨g, k * 6, none⟩ v0).setCell ⟨g, k * 6 + 1, none⟩ v1).setCell ⟨g, k * 6 + 2, none⟩ v2).setCell ⟨g, k * 6 + 3, none⟩ v3).setCell ⟨g, k * 6 + 4, none⟩ v4) (z k) 3 m (T k).L (.slice uo m uc) ∧ Free (((((wr.setCell ⟨g, k * 6, none⟩ v0).setCell ⟨g, k * 6 + 1, none⟩ v1).setCell ⟨g, k * 6 + 2, none⟩ v2).setCell ⟨g, k * 6 + 3, none⟩ v3).setCell ⟨g, k * 6 + 4, none⟩ v4) (m * 3) (.slice uo m uc)) := fun v0 v1 v2 v3 v4 => by
        have := (HM5.out v0 v1 v2 v3 v4).2.1 k (Nat.le_refl _) hlt
        rw [HU.out.1, HU.out.2] at this
        exact this
      have HOW : Hid (0 < m → ∀ q, (Value.slice uo m uc).ownBlock = some q → z k ≤ q ∧ q < z (k + 1)) := by
        have := (HZ.out.2 k hlt).2.1
        rw [HU.out.1, HU.out.2] at this
        exact this
      have HC1 : Hid (c + 5 + m * 3 = sumN (markX T) (k + 1)) := by
        unfold Hid
        show _ = sumN (markX T) k + (5 + (T k).m * 3)
        rw [HC.out, HU.out.2]
        omega
      go_wp2_with fail
      refine (markItemS_turn _ (z k) m (T k).L _ _ (HIT.out _ _ _ _ _).1 (HIT.out _ _ _ _ _).2 hm (by omega) (by omega)).mono ?_
      rintro e w1 ⟨rfl, _, _, g1⟩
      have HM1 : Hid (MarkE w g n T U z (k + 1) w1) := (HM5.out _ _ _ _ _).next HZ.out.1 HZ.out.2 hlt (Within.of g1 (fun b q => by obtain ⟨h0, h1⟩ := turn_eq q; exact HOW.out h0 b h1))
      clear g1 HIT HM5 HR y0 y1 y2 y3 y4 y5 f0 f1 f2 f3 f4
      go_wp2
      go_roundw
      case rel => exact ⟨k + 1, c + 5 + m * 3, by omega, by congr 1; push_cast; omega, by go_num, HC1, HM1⟩
      case measure => simp [intOf]; omega
    · obtain rfl : k = n := by omega
      go_wp2
      go_ret
      exact ⟨by rw [HC.out]; rfl, HR.out.2.2⟩
end Go.Proofs.YtpodcnmiaacndaaGreat

namespace Go.Proofs.YtpodcnmiaacndaaGreat
open Go.RowKit

set_option maxHeartbeats 2000000 in
theorem markGroups_lim (nr : Nat) (F : Nat → Int) (n : Nat) (S : Nat → Sto) (ra : Option Addr) (rc g : Nat) (U : Nat → Nat → Value) (z : Nat → Nat) (lo : Nat) (w : World) (h : FineG w lo nr F n S ra rc g U z) (hr : nr ≤ 1048576) (hn : n ≤ 1048576) (hs : ∀ i, i < n → SmallS (S i)) (ht : sumN (sizeT S) n ≤ 1048576) :
    Calls Tryz.prog 81 #[.agg #[.slice ra nr rc, .slice (some ⟨g, 0, none⟩) n n], .int .i64 1] w fun e w' => ∃ k : Int, (0 ≤ k ∧ k ≤ 20000000) ∧ e = .returned (.int .i64 k) ∧ Within lo (z n) w w' := by
  have H : Hid (FineG w lo nr F n S ra rc g U z) := h
  have HN : Hid ((∀ i, i < n → SmallS (S i)) ∧ sumN (sizeT S) n ≤ 1048576) := ⟨hs, ht⟩
  clear h hs ht
  have hb2 := Blk2.new w (.slice ra nr rc) (.slice (some ⟨g, 0, none⟩) n n) 40
  have HB : Hid (Blk2 (w.alloc (.cells #[.slice ra nr rc, .slice (some ⟨g, 0, none⟩) n n] 40)) w.heap.size (.slice ra nr rc) (.slice (some ⟨g, 0, none⟩) n n)) := hb2
  clear hb2
  go_enter Tryz.func81, Tryz.ntmps81
  go_wp2_with fail
  refine (markRangeS_turn _ lo nr F 1 _ (H.out.1.1.alloc _) (H.out.1.2.1.ofRow H.out.1.1 (below_alloc _ _)) hr (by omega) (by omega)).mono ?_
  rintro e w1 ⟨rfl, _, _, g1⟩
  have hzn : g < z n := H.out.2.2.2.2.2.1 n (Nat.le_refl _)
  have hz0 : z 0 = g + 1 := H.out.2.2.2.2.1
  have hzs : z n ≤ w.heap.size := H.out.2.2.2.2.2.2
  have W1 : Hid (Within lo (g + 1) (w.alloc (.cells #[.slice ra nr rc, .slice (some ⟨g, 0, none⟩) n n] 40)) w1) := Within.of g1 (fun b q => by obtain ⟨h0, h1⟩ := turn_eq q; exact ⟨(H.out.1.1.lt h0 b h1).1, by have := H.out.1.2.2 h0 b h1; omega⟩)
  have g1b := g1.block w.heap.size (by simp) (fun q => by obtain ⟨h0, h1⟩ := turn_eq q.symm; have := (H.out.1.1.lt h0 _ h1).2; omega)
  have HB1 : Hid (Blk2 w1 w.heap.size (.slice ra nr rc) (.slice (some ⟨g, 0, none⟩) n n)) := HB.out.kept g1b
  have gg : w1.heap[g]? = w.heap[g]? := by
    have h1 := g1.block g (by have := H.out.2.2.1.1; simp; omega) (fun q => by obtain ⟨h0, h1⟩ := turn_eq q.symm; have := H.out.1.2.2 h0 _ h1; omega)
    exact h1.trans ((below_alloc w _).block g H.out.2.2.1.1)
  have FL : Hid (FillS w1 g n n U) := H.out.2.2.1.kept (Nat.le_trans (by simp) g1.size) gg
  have FI : Hid (Fine w1 z n S U) := fun i hi => by
    obtain ⟨⟨x1, x2, x3⟩, x4, x5⟩ := (H.out.2.2.2.1.later (below_alloc w (.cells #[.slice ra nr rc, .slice (some ⟨g, 0, none⟩) n n] 40))) i hi
    have ho : OwnIn (S i) (U i 0) (U i 1) (U i 2) (fun j => j < lo ∨ g + 1 ≤ j) := x4.mono (fun j hj => Or.inr (by have := H.out.2.2.2.1.up i (by omega) 0 (Nat.zero_le _); omega))
    exact ⟨⟨x1.within W1.out ho, x2.within x1 W1.out ho, x3⟩, x4, x5⟩
  have hs1 : z n ≤ w1.heap.size := Nat.le_trans hzs (Nat.le_trans (by simp) g1.size)
  clear g1 g1b gg
  obtain ⟨⟨p0, p1⟩, _⟩ := HB1.out
  go_wp2_with fail
  refine (markStoreS_any n n g S U z (1 + nr * 3) _ FL.out FI.out (by omega) hs1 HN.out.1 HN.out.2 (by omega) (by omega) hn).mono ?_
  rintro e w2 ⟨rfl, _, W2⟩
  have hlo : lo ≤ g := H.out.2.1
  have WW : Hid (Within lo (z n) w w2) := ((Within.grow (below_alloc w _)).trans (W1.out.mono (Nat.le_refl _) (by omega))).trans (W2.mono (by omega) (Nat.le_refl _))
  clear W2 W1 FL FI HB1 HB p0 p1
  go_wp2
  go_ret
  exact ⟨1 + nr * 3 + (sumN (markT S) n : Nat), ⟨by omega, by have := markT_le S n; have := HN.out.2; omega⟩, rfl, WW.out⟩
theorem FillT.withinW {w w' : World} {g n k B E : Nat} {T : Nat → Tx} {U : Nat → Value} (h : FillT w g n k T U) (hw : Within B E w w') (hg : g < B ∨ E ≤ g) : FillT w' g n k T U := Fil.within h hw hg
theorem FineT.withinW {w w' : World} {z : Nat → Nat} {n B E : Nat} {T : Nat → Tx} {U : Nat → Value} (h : FineT w z n T U) (hw : Within B E w w') (hz : ∀ i, i ≤ n → E ≤ z i) : FineT w' z n T U := fun i hi => by
  obtain ⟨⟨h1, h2, h3⟩, h4, h5⟩ := h i hi
  have ho : 0 < (T i).m → ∀ q, (U i).ownBlock = some q → q < B ∨ E ≤ q := fun h0 q hq => Or.inr (by have := (h4 h0 q hq).1; have := hz i (by omega); omega)
  exact ⟨⟨h1.within hw ho, h2.within h1 hw ho, h3⟩, h4, h5⟩
/-- A world of its own: its groups, then its transactions, block behind block. -/
def OwnW (w : World) (lo nr : Nat) (F : Nat → Int) (n : Nat) (S : Nat → Sto) (ra : Option Addr) (rc g : Nat) (U : Nat → Nat → Value) (z : Nat → Nat) (nt : Nat) (T : Nat → Tx) (gt : Nat) (Y : Nat → Value) (zt : Nat → Nat) : Prop :=
  FineG w lo nr F n S ra rc g U z ∧ (z n ≤ gt ∧ gt < w.heap.size ∧ FillT w gt nt nt T Y ∧ FineT w zt nt T Y ∧ zt 0 = gt + 1 ∧ (∀ i, i ≤ nt → gt < zt i) ∧ zt nt ≤ w.heap.size)
theorem OwnW.later {w w' : World} {lo nr : Nat} {F : Nat → Int} {n : Nat} {S : Nat → Sto} {ra : Option Addr} {rc g : Nat} {U : Nat → Nat → Value} {z : Nat → Nat} {nt : Nat} {T : Nat → Tx} {gt : Nat} {Y : Nat → Value} {zt : Nat → Nat} (h : OwnW w lo nr F n S ra rc g U z nt T gt Y zt) (hb : Below w.heap.size w w') : OwnW w' lo nr F n S ra rc g U z nt T gt Y zt :=
  ⟨h.1.later hb, h.2.1, Nat.lt_of_lt_of_le h.2.2.1 hb.size, Fil.later h.2.2.2.1 hb, h.2.2.2.2.1.later hb, h.2.2.2.2.2.1, h.2.2.2.2.2.2.1, Nat.le_trans h.2.2.2.2.2.2.2 hb.size⟩
end Go.Proofs.YtpodcnmiaacndaaGreat

namespace Go.Proofs.YtpodcnmiaacndaaGreat
open Go.RowKit

theorem OwnW.grs {w : World} {lo nr : Nat} {F : Nat → Int} {n : Nat} {S : Nat → Sto} {ra : Option Addr} {rc g : Nat} {U : Nat → Nat → Value} {z : Nat → Nat} {nt : Nat} {T : Nat → Tx} {gt : Nat} {Y : Nat → Value} {zt : Nat → Nat} (h : OwnW w lo nr F n S ra rc g U z nt T gt Y zt) : Grs w 0 nr F n S U (.slice ra nr rc) (.slice (some ⟨g, 0, none⟩) n n) ∧ Txs w 0 nt T Y (.slice (some ⟨gt, 0, none⟩) nt nt) := by
  obtain ⟨hF, _, hgt, hfil, hfin, _⟩ := h
  refine ⟨hF.grs.mono (Nat.zero_le _), ⟨⟨_, _, rfl, fun _ => ⟨gt, 0, rfl, Nat.zero_le _, hgt, fun i hi j hj => ?_⟩⟩, fun i hi => ⟨(hfin i hi).1.1.mono (Nat.zero_le _), (hfin i hi).1.2.2⟩⟩⟩
  rw [Nat.zero_add]
  exact hfil.cell (Nat.le_refl _) hi hj
theorem NewWd.own {w w' : World} {nw nx bd : Int} {nr : Nat} {F : Nat → Int} {n : Nat} {S : Nat → Sto} {nt : Nat} {T : Nat → Tx} {e : Ending} (h : NewWd w nw nx bd nr F n S nt T e w') :
    ∃ ra rc g U z gt Y zt, e = .returned (.agg #[.int .i64 nw, .int .i64 nx, .int .i64 bd, .slice ra nr rc, .slice (some ⟨g, 0, none⟩) n n, .slice (some ⟨gt, 0, none⟩) nt nt]) ∧ OwnW w' w.heap.size nr F n S ra rc g U z nt T gt Y zt ∧ Below w.heap.size w w' := by
  obtain ⟨ra, rc, g, U, z, gt, Y, zt, he, hF, hT, hb⟩ := h
  exact ⟨ra, rc, g, U, z, gt, Y, zt, he, ⟨hF, hT⟩, hb⟩
end Go.Proofs.YtpodcnmiaacndaaGreat

namespace Go.Proofs.YtpodcnmiaacndaaGreat
open Go.RowKit

set_option maxRecDepth 100000 in
set_option maxHeartbeats 4000000 in
theorem markWorld_lim (nw nx bd : Int) (lo nr : Nat) (F : Nat → Int) (n : Nat) (S : Nat → Sto) (ra : Option Addr) (rc g : Nat) (U : Nat → Nat → Value) (z : Nat → Nat) (nt : Nat) (T : Nat → Tx) (gt : Nat) (Y : Nat → Value) (zt : Nat → Nat) (w : World) (h : OwnW w lo nr F n S ra rc g U z nt T gt Y zt) (hs : (nr ≤ 1048576 ∧ n ≤ 1048576 ∧ ∀ i, i < n → SmallS (S i)) ∧ nt ≤ 1048576 ∧ ∀ i, i < nt → (T i).m ≤ 1048576) (ht : sumN (sizeT S) n ≤ 1048576 ∧ sumN (sizeX T) nt ≤ 1048576) :
    Calls Tryz.prog 39 #[.agg #[.int .i64 nw, .int .i64 nx, .int .i64 bd, .slice ra nr rc, .slice (some ⟨g, 0, none⟩) n n, .slice (some ⟨gt, 0, none⟩) nt nt], .int .i64 1] w fun e w' => ∃ k : Int, (0 ≤ k ∧ k ≤ 60000000) ∧ e = .returned (.int .i64 k) ∧ Within lo (zt nt) w w' := by
  have H : Hid (OwnW (w.alloc (.cells #[.int .i64 nw, .int .i64 nx, .int .i64 bd, .slice ra nr rc, .slice (some ⟨g, 0, none⟩) n n, .slice (some ⟨gt, 0, none⟩) nt nt] 43)) lo nr F n S ra rc g U z nt T gt Y zt) := h.later (below_alloc _ _)
  have HB : Hid (Blk6 (w.alloc (.cells #[.int .i64 nw, .int .i64 nx, .int .i64 bd, .slice ra nr rc, .slice (some ⟨g, 0, none⟩) n n, .slice (some ⟨gt, 0, none⟩) nt nt] 43)) w.heap.size (.int .i64 nw) (.int .i64 nx) (.int .i64 bd) (.slice ra nr rc) (.slice (some ⟨g, 0, none⟩) n n) (.slice (some ⟨gt, 0, none⟩) nt nt)) := Blk6.new w _ _ _ _ _ _ _
  have hzt : zt nt ≤ w.heap.size := h.2.2.2.2.2.2.2
  have HN : Hid (((nr ≤ 1048576 ∧ n ≤ 1048576 ∧ ∀ i, i < n → SmallS (S i)) ∧ nt ≤ 1048576 ∧ ∀ i, i < nt → (T i).m ≤ 1048576) ∧ sumN (sizeT S) n ≤ 1048576 ∧ sumN (sizeX T) nt ≤ 1048576) := ⟨hs, ht⟩
  clear h hs ht
  go_enter Tryz.func39, Tryz.ntmps39
  go_wp2_with fail
  refine (markGroups_lim nr F n S ra rc g U z lo _ H.out.1 HN.out.1.1.1 HN.out.1.1.2.1 HN.out.1.1.2.2 HN.out.2.1).mono ?_
  rintro e w1 ⟨k, hk, rfl, W1⟩
  have hgt : zt 0 = gt + 1 := H.out.2.2.2.2.2.1
  have hzz := H.out.2.2.2.2.1.up nt (Nat.le_refl _) 0 (Nat.zero_le _)
  have hzg := H.out.2.1
  have HK : Hid (Blk6 w1 w.heap.size (.int .i64 nw) (.int .i64 nx) (.int .i64 bd) (.slice ra nr rc) (.slice (some ⟨g, 0, none⟩) n n) (.slice (some ⟨gt, 0, none⟩) nt nt)) := HB.out.kept (W1.block _ (by simp) (Or.inr (by omega)))
  have HT : Hid (FillT w1 gt nt nt T Y ∧ FineT w1 zt nt T Y ∧ ∀ i, i ≤ nt → gt < zt i) := ⟨H.out.2.2.2.1.withinW W1 (Or.inr hzg), H.out.2.2.2.2.1.withinW W1 (fun i hi => by have := H.out.2.2.2.2.2.2.1 i hi; omega), H.out.2.2.2.2.2.2.1⟩
  have HW1 : Hid (Within lo (zt nt) w w1) := (Within.grow (below_alloc w _)).trans (W1.mono (Nat.le_refl _) (by omega))
  have hlo : lo ≤ gt := by have := H.out.1.2.1; have := H.out.1.2.2.2.2.2.1 n (Nat.le_refl _); omega
  clear W1 H HB
  obtain ⟨⟨p0, p1, p2, p3, p4, p5⟩, _⟩ := HK.out
  go_wp2_with fail
  refine (markTxnS_any nt nt gt T Y zt k _ HT.out.1 HT.out.2.1 HT.out.2.2 HN.out.1.2.2 HN.out.2.2 hk.1 hk.2 HN.out.1.2.1).mono ?_
  rintro e w2 ⟨rfl, W2⟩
  have HW2 : Hid (Within lo (zt nt) w w2) := HW1.out.trans (W2.mono hlo (Nat.le_refl _))
  clear W2 HW1 HT HK p0 p1 p2 p3 p4 p5
  go_wp2
  go_ret
  have hx3 := markX_le T nt
  have hx4 := HN.out.2.2
  have hx5 := HN.out.1.2.1
  exact ⟨_, ⟨by omega, by omega⟩, rfl, HW2.out⟩
/-- A file system of its own: its groups, its transactions, its runs, block behind block, all below E. -/
def OwnF (w : World) (lo nr : Nat) (F : Nat → Int) (n : Nat) (S : Nat → Sto) (ra : Option Addr) (rc g : Nat) (U : Nat → Nat → Value) (z : Nat → Nat) (nt : Nat) (T : Nat → Tx) (gt : Nat) (Y : Nat → Value) (zt : Nat → Nat) (nq : Nat) (R : Nat → Int) (uq : Option Addr) (E : Nat) : Prop := OwnW w lo nr F n S ra rc g U z nt T gt Y zt ∧ Qd (zt nt) nq R (.slice uq nq nq) w ∧ (0 < nq → ∀ k, (Value.slice uq nq nq).ownBlock = some k → zt nt ≤ k ∧ k < E) ∧ zt nt ≤ E ∧ E ≤ w.heap.size
theorem OwnF.later {w w' : World} {lo nr : Nat} {F : Nat → Int} {n : Nat} {S : Nat → Sto} {ra : Option Addr} {rc g : Nat} {U : Nat → Nat → Value} {z : Nat → Nat} {nt : Nat} {T : Nat → Tx} {gt : Nat} {Y : Nat → Value} {zt : Nat → Nat} {nq : Nat} {R : Nat → Int} {uq : Option Addr} {E : Nat} (h : OwnF w lo nr F n S ra rc g U z nt T gt Y zt nq R uq E) (hb : Below w.heap.size w w') : OwnF w' lo nr F n S ra rc g U z nt T gt Y zt nq R uq E :=
  ⟨h.1.later hb, ⟨h.2.1.1.later hb, h.2.1.2.ofRow h.2.1.1 hb⟩, h.2.2.1, h.2.2.2.1, Nat.le_trans h.2.2.2.2 hb.size⟩
theorem OwnF.grs {w : World} {lo nr : Nat} {F : Nat → Int} {n : Nat} {S : Nat → Sto} {ra : Option Addr} {rc g : Nat} {U : Nat → Nat → Value} {z : Nat → Nat} {nt : Nat} {T : Nat → Tx} {gt : Nat} {Y : Nat → Value} {zt : Nat → Nat} {nq : Nat} {R : Nat → Int} {uq : Option Addr} {E : Nat} (h : OwnF w lo nr F n S ra rc g U z nt T gt Y zt nq R uq E) : Grs w 0 nr F n S U (.slice ra nr rc) (.slice (some ⟨g, 0, none⟩) n n) ∧ Txs w 0 nt T Y (.slice (some ⟨gt, 0, none⟩) nt nt) ∧ Row w 0 10 nq R (.slice uq nq nq) := ⟨h.1.grs.1, h.1.grs.2, h.2.1.1.mono (Nat.zero_le _)⟩
theorem NewFw.own {w w' : World} {nw nx bd : Int} {nr : Nat} {F : Nat → Int} {n : Nat} {S : Nat → Sto} {nt : Nat} {T : Nat → Tx} {nq : Nat} {R : Nat → Int} {e : Ending} (h : NewFw w nw nx bd nr F n S nt T nq R e w') :
    ∃ ra rc g U z gt Y zt uq, e = .returned (.agg #[.int .i64 nw, .int .i64 nx, .int .i64 bd, .slice ra nr rc, .slice (some ⟨g, 0, none⟩) n n, .slice (some ⟨gt, 0, none⟩) nt nt, .slice uq nq nq]) ∧ OwnF w' w.heap.size nr F n S ra rc g U z nt T gt Y zt nq R uq w'.heap.size ∧ Below w.heap.size w w' := by
  obtain ⟨ra, rc, g, U, z, gt, Y, zt, uq, rfl, h1, h2, h3⟩ := h
  exact ⟨ra, rc, g, U, z, gt, Y, zt, uq, rfl, ⟨h1, h2, fun h0 k hk => h2.1.lt h0 k hk, h1.2.2.2.2.2.2.2, Nat.le_refl _⟩, h3⟩
set_option maxRecDepth 100000 in
set_option maxHeartbeats 4000000 in
theorem markFsWorld_any (nw nx bd : Int) (lo nr : Nat) (F : Nat → Int) (n : Nat) (S : Nat → Sto) (ra : Option Addr) (rc g : Nat) (U : Nat → Nat → Value) (z : Nat → Nat) (nt : Nat) (T : Nat → Tx) (gt : Nat) (Y : Nat → Value) (zt : Nat → Nat) (nq : Nat) (R : Nat → Int) (uq : Option Addr) (E : Nat) (w : World) (h : OwnF w lo nr F n S ra rc g U z nt T gt Y zt nq R uq E) (hs : (nr ≤ 1048576 ∧ n ≤ 1048576 ∧ ∀ i, i < n → SmallS (S i)) ∧ nt ≤ 1048576 ∧ ∀ i, i < nt → (T i).m ≤ 1048576) (ht : sumN (sizeT S) n ≤ 1048576 ∧ sumN (sizeX T) nt ≤ 1048576) (hnq : nq ≤ 1048576) :
    Calls Tryz.prog 15 #[.agg #[.int .i64 nw, .int .i64 nx, .int .i64 bd, .slice ra nr rc, .slice (some ⟨g, 0, none⟩) n n, .slice (some ⟨gt, 0, none⟩) nt nt, .slice uq nq nq], .int .i64 1] w fun e w' => ∃ k : Int, 0 ≤ k ∧ e = .returned (.int .i64 k) ∧ Within lo E w w' := by
  have H : Hid (OwnF (w.alloc (.cells #[.int .i64 nw, .int .i64 nx, .int .i64 bd, .slice ra nr rc, .slice (some ⟨g, 0, none⟩) n n, .slice (some ⟨gt, 0, none⟩) nt nt, .slice uq nq nq] 46)) lo nr F n S ra rc g U z nt T gt Y zt nq R uq E) := h.later (below_alloc _ _)
  have HB : Hid (Blk7F (w.alloc (.cells #[.int .i64 nw, .int .i64 nx, .int .i64 bd, .slice ra nr rc, .slice (some ⟨g, 0, none⟩) n n, .slice (some ⟨gt, 0, none⟩) nt nt, .slice uq nq nq] 46)) w.heap.size (.int .i64 nw) (.int .i64 nx) (.int .i64 bd) (.slice ra nr rc) (.slice (some ⟨g, 0, none⟩) n n) (.slice (some ⟨gt, 0, none⟩) nt nt) (.slice uq nq nq)) := Blk7F.new w _ _ _ _ _ _ _ _
  have hE : E ≤ w.heap.size := h.2.2.2.2
  have hzE : zt nt ≤ E := h.2.2.2.1
  have HN : Hid (((nr ≤ 1048576 ∧ n ≤ 1048576 ∧ ∀ i, i < n → SmallS (S i)) ∧ nt ≤ 1048576 ∧ ∀ i, i < nt → (T i).m ≤ 1048576) ∧ sumN (sizeT S) n ≤ 1048576 ∧ sumN (sizeX T) nt ≤ 1048576) := ⟨hs, ht⟩
  have hlz : lo ≤ zt nt := by
    have h1 := h.1.1.2.1
    have h2 := h.1.1.2.2.2.2.2.1 n (Nat.le_refl _)
    have h3 := h.1.2.1
    have h4 := h.1.2.2.2.2.2.2.1 nt (Nat.le_refl _)
    omega
  clear h hs ht
  go_enter Tryz.func15, Tryz.ntmps15
  go_wp2_with fail
  refine (markWorld_lim nw nx bd lo nr F n S ra rc g U z nt T gt Y zt _ H.out.1 HN.out.1 HN.out.2).mono ?_
  rintro e w1 ⟨k, hk, rfl, W1⟩
  have HK : Hid (Blk7F w1 w.heap.size (.int .i64 nw) (.int .i64 nx) (.int .i64 bd) (.slice ra nr rc) (.slice (some ⟨g, 0, none⟩) n n) (.slice (some ⟨gt, 0, none⟩) nt nt) (.slice uq nq nq)) := HB.out.kept (W1.block _ (by simp) (Or.inr (by omega)))
  have ho : 0 < nq → ∀ j, (Value.slice uq nq nq).ownBlock = some j → j < lo ∨ zt nt ≤ j := fun h0 j hj => Or.inr (H.out.2.2.1 h0 j hj).1
  have HQ : Hid (Qd (zt nt) nq R (.slice uq nq nq) w1) := ⟨H.out.2.1.1.within W1 ho, H.out.2.1.2.within H.out.2.1.1 W1 ho⟩
  have HW1 : Hid (Within lo E w w1) := (Within.grow (below_alloc w _)).trans (W1.mono (Nat.le_refl _) hzE)
  have HR : Hid (0 < nq → ∀ j, (Value.slice uq nq nq).ownBlock = some j → zt nt ≤ j ∧ j < E) := H.out.2.2.1
  clear W1 H HB ho
  obtain ⟨⟨p0, p1, p2, p3, p4, p5, p6⟩, _⟩ := HK.out
  go_wp2_with fail
  refine (markRunS_turn _ (zt nt) nq R k _ HQ.out.1 HQ.out.2 hnq hk.1 (by omega)).mono ?_
  rintro e w2 ⟨rfl, _, _, g2⟩
  have HW2 : Hid (Within lo E w w2) := HW1.out.trans ((Within.of g2 (turn_off HR.out)).mono hlz (Nat.le_refl _))
  clear g2 HW1 HK p0 p1 p2 p3 p4 p5 p6
  go_wp2
  go_ret
  exact ⟨_, by omega, rfl, HW2.out⟩
end Go.Proofs.YtpodcnmiaacndaaGreat

namespace Go.Proofs.YtpodcnmiaacndaaGreat
open Go.RowKit

/-- What the law stands on: its argument (block w.heap.size), what the model answered (block W), the program's copy (block q, its lists its own), what the program answered (block G). -/
structure EnvH (w : World) (nw nx bd : Int) (vr vs vt vq : Value) (W : Nat) (c : Int) (vw : Value) (q : Nat) (ur us ut uq : Value) (G : Nat) (vg : Value) (m : Nat) (R : Nat → Int) (lg : Nat) (x : World) : Prop where
  below : Below w.heap.size w x
  arg : Blk7F x w.heap.size (.int .i64 nw) (.int .i64 nx) (.int .i64 bd) vr vs vt vq
  want : Blk2 x W (.int .i64 c) vw
  copy : Blk7F x q (.int .i64 nw) (.int .i64 nx) (.int .i64 bd) ur us ut uq
  got : Blk2 x G (.int .i64 c) vg
  rw : Row x w.heap.size 2 m R vw
  rg : Row x lg 2 m R vg
  fg : Free x (m * 2) vg
theorem EnvH.later {w : World} {nw nx bd : Int} {vr vs vt vq : Value} {W : Nat} {c : Int} {vw : Value} {q : Nat} {ur us ut uq : Value} {G : Nat} {vg : Value} {m : Nat} {R : Nat → Int} {lg : Nat} {x x' : World} (h : EnvH w nw nx bd vr vs vt vq W c vw q ur us ut uq G vg m R lg x) (hb : Below x.heap.size x x') : EnvH w nw nx bd vr vs vt vq W c vw q ur us ut uq G vg m R lg x' :=
  ⟨h.below.trans (hb.mono h.below.size), h.arg.later hb, h.want.later hb, h.copy.later hb, h.got.later hb, h.rw.later hb, h.rg.later hb, h.fg.ofRow h.rg hb⟩
theorem EnvH.within {w : World} {nw nx bd : Int} {vr vs vt vq : Value} {W : Nat} {c : Int} {vw : Value} {q : Nat} {ur us ut uq : Value} {G : Nat} {vg : Value} {m : Nat} {R : Nat → Int} {lg : Nat} {x x' : World} {B E : Nat} (h : EnvH w nw nx bd vr vs vt vq W c vw q ur us ut uq G vg m R lg x) (hw : Within B E x x') (hB : w.heap.size < B) (hW : W < B) (hq : E ≤ q) (hG : E ≤ G) (ow : 0 < m → ∀ k, vw.ownBlock = some k → k < B) (og : 0 < m → ∀ k, vg.ownBlock = some k → E ≤ k) : EnvH w nw nx bd vr vs vt vq W c vw q ur us ut uq G vg m R lg x' :=
  ⟨hw.below h.below (Nat.le_of_lt hB), h.arg.kept (hw.block _ h.arg.lt (Or.inl hB)), h.want.kept (hw.block _ h.want.lt (Or.inl hW)), h.copy.kept (hw.block _ h.copy.lt (Or.inr hq)), h.got.kept (hw.block _ h.got.lt (Or.inr hG)), h.rw.within hw (fun h0 k hk => Or.inl (ow h0 k hk)), h.rg.within hw (fun h0 k hk => Or.inr (og h0 k hk)), h.fg.within h.rg hw (fun h0 k hk => Or.inr (og h0 k hk))⟩
set_option maxRecDepth 100000 in
set_option maxHeartbeats 8000000 in
theorem historyOf_walk (nw nx bd : Int) (nr : Nat) (F : Nat → Int) (n : Nat) (S : Nat → Sto) (V : Nat → Nat → Value) (vr vs : Value) (nt : Nat) (T : Nat → Tx) (X : Nat → Value) (vt : Value) (nq : Nat) (R : Nat → Int) (vq : Value) (w : World) (h : Grs w 0 nr F n S V vr vs) (hx : Txs w 0 nt T X vt) (hq : Row w 0 10 nq R vq) (hr : nr ≤ 9223372036854775807) (hn : n ≤ 9223372036854775807) (hs : ∀ i, i < n → BigS (S i)) (hnt : nt ≤ 9223372036854775807) (hm : ∀ i, i < nt → (T i).m ≤ 9223372036854775807) (hnq : nq ≤ 9223372036854775807) :
    Calls Tryz.prog 4 #[.agg #[.int .i64 nw, .int .i64 nx, .int .i64 bd, vr, vs, vt, vq]] w fun e w' => e = .returned (.bool true) ∧ Below w.heap.size w w' := by
  obtain ⟨a0, c0, a1, c1, rfl, rfl⟩ := h.form
  obtain ⟨a2, c2, rfl⟩ := hx.form
  obtain ⟨a3, c3, rfl⟩ := hq.form
  have HQ : Hid (Row w 0 10 nq R (.slice a3 nq c3)) := hq
  have HG : Hid (Grs w 0 nr F n S V (.slice a0 nr c0) (.slice a1 n c1) ∧ Txs w 0 nt T X (.slice a2 nt c2)) := ⟨h, hx⟩
  have HN : Hid ((∀ i, i < n → BigS (S i)) ∧ ∀ i, i < nt → (T i).m ≤ 9223372036854775807) := ⟨hs, hm⟩
  have H : Hid (Blk7F (w.alloc (.cells #[.int .i64 nw, .int .i64 nx, .int .i64 bd, .slice a0 nr c0, .slice a1 n c1, .slice a2 nt c2, .slice a3 nq c3] 33)) w.heap.size (.int .i64 nw) (.int .i64 nx) (.int .i64 bd) (.slice a0 nr c0) (.slice a1 n c1) (.slice a2 nt c2) (.slice a3 nq c3) ∧ Below w.heap.size w (w.alloc (.cells #[.int .i64 nw, .int .i64 nx, .int .i64 bd, .slice a0 nr c0, .slice a1 n c1, .slice a2 nt c2, .slice a3 nq c3] 33))) := ⟨Blk7F.new w _ _ _ _ _ _ _ _, below_alloc _ _⟩
  clear h hx hs hm hq
  obtain ⟨c, L, hL16, hans⟩ := HsAns.get nw nx bd nr F n S nt T nq R
  obtain ⟨G, hG⟩ : ∃ G, rowL L = G := ⟨_, rfl⟩
  obtain ⟨m, hmm⟩ : ∃ m, L.length = m := ⟨_, rfl⟩
  rw [hmm] at hL16
  have hm : m ≤ 1048576 := by omega
  have hnn : decide ((1 : Int) + m * 2 < 0) = false := decide_eq_false (by omega)
  have HF : Hid (∀ (U : Nat → Nat → Value) (ur us : Value) (Y : Nat → Value) (ut uq : Value) (x : World), Grs x 0 nr F n S U ur us → Txs x 0 nt T Y ut → Row x 0 10 nq R uq → nr ≤ 1048576 → n ≤ 1048576 → nt ≤ 1048576 → (∀ i, i < nt → (T i).m ≤ 1048576) → nq ≤ 1048576 → Calls Tryz.prog 12 #[.agg #[.int .i64 nw, .int .i64 nx, .int .i64 bd, ur, us, ut, uq]] x (ResRow 2 x c m G) ∧ Calls Tryz.prog 13 #[.agg #[.int .i64 nw, .int .i64 nx, .int .i64 bd, ur, us, ut, uq]] x (ResRow 2 x c m G)) := fun U ur us Y ut uq x q1 q2 q3 b1 b2 b3 b4 b5 => by
    rw [← hG, ← hmm]
    exact ⟨specHistoryOf_is nw nx bd nr F n S U ur us nt T Y ut nq R uq 0 c L x q1 q2 q3 (by omega) (by omega) (by omega) (by omega) (fun i hi => by have := b4 i hi; omega) hans, implHistoryOf_is nw nx bd nr F n S U ur us nt T Y ut nq R uq 0 c L x q1 q2 q3 (by omega) (by omega) (by omega) (by omega) (fun i hi => by have := b4 i hi; omega) hans⟩
  clear hans hG hmm hL16
  go_enter Tryz.func4, Tryz.ntmps4
  go_wp2_with fail
  refine (szFsWorld_any nw nx bd nr F n S V _ _ nt T X _ nq R _ 0 _ (HG.out.1.alloc _) (HG.out.2.alloc _) (HQ.out.later (below_alloc _ _)) hr hn HN.out.1 hnt HN.out.2 hnq).mono ?_
  rintro e w1 ⟨r, rfl, hA, q1⟩
  have H1 : Hid (Blk7F w1 w.heap.size (.int .i64 nw) (.int .i64 nx) (.int .i64 bd) (.slice a0 nr c0) (.slice a1 n c1) (.slice a2 nt c2) (.slice a3 nq c3) ∧ Below w.heap.size w w1) := ⟨H.out.1.later q1, H.out.2.trans (q1.mono H.out.2.size)⟩
  clear q1 H
  rcases hA with rfl | ⟨h1, ⟨h2, h3, hsum, h4⟩, ⟨h5, hsux, h6⟩, h7⟩
  · go_wp2
    go_ret
    exact ⟨rfl, H1.out.2⟩
  have HB : Hid ((nr ≤ 1048576 ∧ n ≤ 1048576 ∧ ∀ i, i < n → SmallS (S i)) ∧ nt ≤ 1048576 ∧ ∀ i, i < nt → (T i).m ≤ 1048576) := ⟨⟨h2, h3, h4⟩, h5, h6⟩
  have HSU : Hid (sumN (sizeT S) n ≤ 1048576 ∧ sumN (sizeX T) nt ≤ 1048576) := ⟨hsum, hsux⟩
  have dr : decide (r < 0) = false := decide_eq_false (by omega)
  clear h1 h2 h3 h4 h5 h6 hr hn HN hnt hsum hsux hnq
  obtain ⟨⟨p0, p1, p2, p3, p4, p5, p6⟩, _⟩ := H1.out.1
  go_wp2_with fail
  refine (toFsWorld_any nw nx bd nr F n S V _ _ nt T X _ nq R _ 0 _ (HG.out.1.later H1.out.2) (HG.out.2.later H1.out.2) (HQ.out.later H1.out.2) HB.out.1 HB.out.2 h7).mono ?_
  intro e w2 hN2
  obtain ⟨ra, rc, g, U, z, gt, Y, zt, uq2, rfl, o2, q2⟩ := hN2.own
  have H2 : Hid (Blk7F w2 w.heap.size (.int .i64 nw) (.int .i64 nx) (.int .i64 bd) (.slice a0 nr c0) (.slice a1 n c1) (.slice a2 nt c2) (.slice a3 nq c3) ∧ Below w.heap.size w w2) := ⟨H1.out.1.later q2, H1.out.2.trans (q2.mono H1.out.2.size)⟩
  have G2 := HF.out _ _ _ _ _ _ _ o2.grs.1 o2.grs.2.1 o2.grs.2.2 HB.out.1.1 HB.out.1.2.1 HB.out.2.1 HB.out.2.2 h7
  clear q2 hN2 o2 H1 p0 p1 p2 p3 p4 p5 p6
  go_wp2_with fail
  refine G2.1.mono ?_
  clear G2
  rintro e w3 ⟨ow, pw, rfl, rw3, _, q3⟩
  have H3 : Hid (Blk7F w3 w.heap.size (.int .i64 nw) (.int .i64 nx) (.int .i64 bd) (.slice a0 nr c0) (.slice a1 n c1) (.slice a2 nt c2) (.slice a3 nq c3) ∧ Below w.heap.size w w3) := ⟨H2.out.1.later q3, H2.out.2.trans (q3.mono H2.out.2.size)⟩
  have P3 : Hid (((Blk7F (w3.alloc (.cells #[.int .i64 c, .slice ow m pw] 52)) w.heap.size (.int .i64 nw) (.int .i64 nx) (.int .i64 bd) (.slice a0 nr c0) (.slice a1 n c1) (.slice a2 nt c2) (.slice a3 nq c3) ∧ Below w.heap.size w (w3.alloc (.cells #[.int .i64 c, .slice ow m pw] 52))) ∧ Blk2 (w3.alloc (.cells #[.int .i64 c, .slice ow m pw] 52)) w3.heap.size (.int .i64 c) (.slice ow m pw)) ∧ Row (w3.alloc (.cells #[.int .i64 c, .slice ow m pw] 52)) w.heap.size 2 m G (.slice ow m pw)) := ⟨⟨⟨H3.out.1.alloc _, H3.out.2.alloc H3.out.2.size _⟩, Blk2.new w3 _ _ _⟩, (rw3.mono H2.out.2.size).alloc _⟩
  have LW : Hid (0 < m → ∀ k, (Value.slice ow m pw).ownBlock = some k → k < w3.heap.size) := fun h0 k hk => (rw3.lt h0 k hk).2
  have z3 : Hid (w.heap.size < w3.heap.size) := H3.out.1.lt
  clear q3 rw3 H2 H3
  obtain ⟨⟨p0, p1, p2, p3, p4, p5, p6⟩, _⟩ := P3.out.1.1.1
  go_wp2_with fail
  refine (toFsWorld_any nw nx bd nr F n S V _ _ nt T X _ nq R _ 0 _ (HG.out.1.later P3.out.1.1.2) (HG.out.2.later P3.out.1.1.2) (HQ.out.later P3.out.1.1.2) HB.out.1 HB.out.2 h7).mono ?_
  intro e w4 hN4
  obtain ⟨rb, rd, g4, U4, z4, gt4, Y4, zt4, uq4, rfl, o4, q4⟩ := hN4.own
  have zs4 : Hid (w3.heap.size + 1 ≤ w4.heap.size ∧ zt4 nt ≤ w4.heap.size) := ⟨by have := q4.size; simp at this; omega, o4.2.2.2.1⟩
  have O4 : Hid (OwnF (w4.alloc (.cells #[.int .i64 nw, .int .i64 nx, .int .i64 bd, .slice rb nr rd, .slice (some ⟨g4, 0, none⟩) n n, .slice (some ⟨gt4, 0, none⟩) nt nt, .slice uq4 nq nq] 46)) (w3.heap.size + 1) nr F n S rb rd g4 U4 z4 nt T gt4 Y4 zt4 nq R uq4 w4.heap.size) := by
    rw [World.size_alloc] at o4
    exact o4.later (below_alloc _ _)
  have P4 : Hid ((((Blk7F (w4.alloc (.cells #[.int .i64 nw, .int .i64 nx, .int .i64 bd, .slice rb nr rd, .slice (some ⟨g4, 0, none⟩) n n, .slice (some ⟨gt4, 0, none⟩) nt nt, .slice uq4 nq nq] 46)) w.heap.size (.int .i64 nw) (.int .i64 nx) (.int .i64 bd) (.slice a0 nr c0) (.slice a1 n c1) (.slice a2 nt c2) (.slice a3 nq c3) ∧ Below w.heap.size w (w4.alloc (.cells #[.int .i64 nw, .int .i64 nx, .int .i64 bd, .slice rb nr rd, .slice (some ⟨g4, 0, none⟩) n n, .slice (some ⟨gt4, 0, none⟩) nt nt, .slice uq4 nq nq] 46))) ∧ Blk2 (w4.alloc (.cells #[.int .i64 nw, .int .i64 nx, .int .i64 bd, .slice rb nr rd, .slice (some ⟨g4, 0, none⟩) n n, .slice (some ⟨gt4, 0, none⟩) nt nt, .slice uq4 nq nq] 46)) w3.heap.size (.int .i64 c) (.slice ow m pw)) ∧ Row (w4.alloc (.cells #[.int .i64 nw, .int .i64 nx, .int .i64 bd, .slice rb nr rd, .slice (some ⟨g4, 0, none⟩) n n, .slice (some ⟨gt4, 0, none⟩) nt nt, .slice uq4 nq nq] 46)) w.heap.size 2 m G (.slice ow m pw)) ∧ Blk7F (w4.alloc (.cells #[.int .i64 nw, .int .i64 nx, .int .i64 bd, .slice rb nr rd, .slice (some ⟨g4, 0, none⟩) n n, .slice (some ⟨gt4, 0, none⟩) nt nt, .slice uq4 nq nq] 46)) w4.heap.size (.int .i64 nw) (.int .i64 nx) (.int .i64 bd) (.slice rb nr rd) (.slice (some ⟨g4, 0, none⟩) n n) (.slice (some ⟨gt4, 0, none⟩) nt nt) (.slice uq4 nq nq)) :=
    ⟨⟨⟨⟨(P3.out.1.1.1.later q4).alloc _, (P3.out.1.1.2.trans (q4.mono P3.out.1.1.2.size)).alloc (Nat.le_trans P3.out.1.1.2.size q4.size) _⟩, (P3.out.1.2.later q4).alloc _⟩, (P3.out.2.later q4).alloc _⟩, Blk7F.new _ _ _ _ _ _ _ _ _⟩
  have s5 : Hid (w4.heap.size < (w4.alloc (.cells #[.int .i64 nw, .int .i64 nx, .int .i64 bd, .slice rb nr rd, .slice (some ⟨g4, 0, none⟩) n n, .slice (some ⟨gt4, 0, none⟩) nt nt, .slice uq4 nq nq] 46)).heap.size) := by unfold Hid; simp
  clear q4 hN4 o4 P3 p0 p1 p2 p3 p4 p5 p6
  go_wp2_with fail
  generalize w4.alloc (.cells #[.int .i64 nw, .int .i64 nx, .int .i64 bd, .slice rb nr rd, .slice (some ⟨g4, 0, none⟩) n n, .slice (some ⟨gt4, 0, none⟩) nt nt, .slice uq4 nq nq] 46) = w5 at O4 P4 s5 ⊢
  refine (HF.out _ _ _ _ _ _ _ O4.out.grs.1 O4.out.grs.2.1 O4.out.grs.2.2 HB.out.1.1 HB.out.1.2.1 HB.out.2.1 HB.out.2.2 h7).2.mono ?_
  rintro e w6 ⟨og, pg, rfl, rg6, fg6, q6⟩
  have E6 : Hid (EnvH w nw nx bd (.slice a0 nr c0) (.slice a1 n c1) (.slice a2 nt c2) (.slice a3 nq c3) w3.heap.size c (.slice ow m pw) w4.heap.size (.slice rb nr rd) (.slice (some ⟨g4, 0, none⟩) n n) (.slice (some ⟨gt4, 0, none⟩) nt nt) (.slice uq4 nq nq) w6.heap.size (.slice og m pg) m G w5.heap.size (w6.alloc (.cells #[.int .i64 c, .slice og m pg] 52))) :=
    ⟨(P4.out.1.1.1.2.trans (q6.mono P4.out.1.1.1.2.size)).alloc (Nat.le_trans P4.out.1.1.1.2.size q6.size) _, (P4.out.1.1.1.1.later q6).alloc _, (P4.out.1.1.2.later q6).alloc _, (P4.out.2.later q6).alloc _, Blk2.new _ _ _ _, (P4.out.1.2.later q6).alloc _, rg6.alloc _, fg6.ofRow rg6 (below_alloc _ _)⟩
  have O6 : Hid (OwnF (w6.alloc (.cells #[.int .i64 c, .slice og m pg] 52)) (w3.heap.size + 1) nr F n S rb rd g4 U4 z4 nt T gt4 Y4 zt4 nq R uq4 w4.heap.size) := (O4.out.later q6).later (below_alloc _ _)
  have LG : Hid ((0 < m → ∀ k, (Value.slice og m pg).ownBlock = some k → w5.heap.size ≤ k ∧ k < w6.heap.size) ∧ w5.heap.size ≤ w6.heap.size) := ⟨fun h0 k hk => rg6.lt h0 k hk, q6.size⟩
  obtain ⟨⟨t0, t1⟩, _⟩ := P4.out.1.1.2.later q6
  have hl := (P4.out.1.1.2.later q6).lt
  clear q6 rg6 fg6 O4 P4
  go_wp2_with fail
  refine (eqHistoryResult_same c m _ _ _ _ _ _ G _ E6.out.rg E6.out.rw hm).mono ?_
  rintro e w7 ⟨rfl, q7⟩
  have E7 : Hid (EnvH w nw nx bd (.slice a0 nr c0) (.slice a1 n c1) (.slice a2 nt c2) (.slice a3 nq c3) w3.heap.size c (.slice ow m pw) w4.heap.size (.slice rb nr rd) (.slice (some ⟨g4, 0, none⟩) n n) (.slice (some ⟨gt4, 0, none⟩) nt nt) (.slice uq4 nq nq) w6.heap.size (.slice og m pg) m G w5.heap.size w7) := E6.out.later q7
  have O7 : Hid (OwnF w7 (w3.heap.size + 1) nr F n S rb rd g4 U4 z4 nt T gt4 Y4 zt4 nq R uq4 w4.heap.size) := O6.out.later q7
  clear q7 E6 O6 t0 t1 hl
  go_wp2_with fail
  refine wp_region_held_drew (S := fun x : World => (EnvH w nw nx bd (.slice a0 nr c0) (.slice a1 n c1) (.slice a2 nt c2) (.slice a3 nq c3) w3.heap.size c (.slice ow m pw) w4.heap.size (.slice rb nr rd) (.slice (some ⟨g4, 0, none⟩) n n) (.slice (some ⟨gt4, 0, none⟩) nt nt) (.slice uq4 nq nq) w6.heap.size (.slice og m pg) m G w5.heap.size x) ∧ OwnF x (w3.heap.size + 1) nr F n S rb rd g4 U4 z4 nt T gt4 Y4 zt4 nq R uq4 w4.heap.size) (by kernel_rfl) ⟨E7.out.later (Below.drew (Below.refl _ _)), O7.out.later (Below.drew (Below.refl _ _))⟩ (fun hS => ?_)
  clear E7 O7
  refine tkH 0 ?_ hS (fun wx hx => ?_) ?_; rotate_left
  · obtain ⟨⟨hx0, hx1, hx2, hx3, hx4, hx5, hx6⟩, _⟩ := hx.1.arg; obtain ⟨⟨hy0, hy1, hy2, hy3, hy4, hy5, hy6⟩, _⟩ := hx.1.copy; go_simp; try with_reducible rfl
  refine tkH 1 ?_ hS (fun wx hx => ?_) ?_; rotate_left
  · obtain ⟨⟨hx0, hx1, hx2, hx3, hx4, hx5, hx6⟩, _⟩ := hx.1.arg; obtain ⟨⟨hy0, hy1, hy2, hy3, hy4, hy5, hy6⟩, _⟩ := hx.1.copy; go_simp; try with_reducible rfl
  refine rdH 2 (fun K hK => ?_)
  go_simp
  go_wp2_with fail
  refine (toFsWorld_any nw nx bd nr F n S V _ _ nt T X _ nq R _ 0 _ (HG.out.1.later hS.1.below) (HG.out.2.later hS.1.below) (HQ.out.later hS.1.below) HB.out.1 HB.out.2 h7).mono ?_
  intro e w8 hN8
  obtain ⟨re, rf, g8, U8, z8, gt8, Y8, zt8, uq8, rfl, o8, q8⟩ := hN8.own
  have G8 : Hid (Grs w8 0 nr F n S U8 (.slice re nr rf) (.slice (some ⟨g8, 0, none⟩) n n) ∧ Txs w8 0 nt T Y8 (.slice (some ⟨gt8, 0, none⟩) nt nt) ∧ Row w8 0 10 nq R (.slice uq8 nq nq)) := o8.grs
  have hS' := (show _ ∧ _ from ⟨hS.1.later q8, hS.2.later q8⟩)
  clear q8 hN8 o8
  go_wp2_with fail
  refine hK.out _ _ hS' (fun hS => ?_)
  clear hK K hS'
  refine rdH 3 (fun K hK => ?_)
  go_simp
  go_wp2_with fail
  refine (eqFsWorld_same nw nx bd nr F n S U4 U8 _ _ _ _ _ _ _ _ nt T Y4 Y8 _ _ _ _ nq R _ _ _ _ 0 0 _ hS.2.grs.1 G8.out.1 hS.2.grs.2.1 G8.out.2.1 hS.2.grs.2.2 G8.out.2.2 HB.out.1 HB.out.2 h7).mono ?_
  rintro e w9 ⟨rfl, q9⟩
  have hS' := (show _ ∧ _ from ⟨hS.1.later q9, hS.2.later q9⟩)
  clear q9 G8
  go_wp2_with fail
  refine hK.out _ _ hS' (fun hS => ?_)
  clear hK K hS'
  refine tkH 4 ?_ hS (fun wx hx => ?_) ?_; rotate_left
  · obtain ⟨⟨hx0, hx1, hx2, hx3, hx4, hx5, hx6⟩, _⟩ := hx.1.arg; obtain ⟨⟨hy0, hy1, hy2, hy3, hy4, hy5, hy6⟩, _⟩ := hx.1.copy; go_simp; try with_reducible rfl
  refine wpAnyH_done (by kernel_rfl) ?_ _
  have E9 : Hid (EnvH w nw nx bd (.slice a0 nr c0) (.slice a1 n c1) (.slice a2 nt c2) (.slice a3 nq c3) w3.heap.size c (.slice ow m pw) w4.heap.size (.slice rb nr rd) (.slice (some ⟨g4, 0, none⟩) n n) (.slice (some ⟨gt4, 0, none⟩) nt nt) (.slice uq4 nq nq) w6.heap.size (.slice og m pg) m G w5.heap.size w9) := hS.1
  have O9 : Hid (OwnF w9 (w3.heap.size + 1) nr F n S rb rd g4 U4 z4 nt T gt4 Y4 zt4 nq R uq4 w4.heap.size) := hS.2
  clear hS
  go_simp
  obtain ⟨⟨p0, p1, p2, p3, p4, p5, p6⟩, _⟩ := E9.out.copy
  go_wp2_with fail
  refine (markFsWorld_any nw nx bd _ nr F n S rb rd g4 U4 z4 nt T gt4 Y4 zt4 nq R uq4 _ _ O9.out HB.out HSU.out h7).mono ?_
  rintro e wA ⟨kA, hkA, rfl, WA⟩
  have dk : decide (kA < 0) = false := decide_eq_false (by omega)
  have EA : Hid (EnvH w nw nx bd (.slice a0 nr c0) (.slice a1 n c1) (.slice a2 nt c2) (.slice a3 nq c3) w3.heap.size c (.slice ow m pw) w4.heap.size (.slice rb nr rd) (.slice (some ⟨g4, 0, none⟩) n n) (.slice (some ⟨gt4, 0, none⟩) nt nt) (.slice uq4 nq nq) w6.heap.size (.slice og m pg) m G w5.heap.size wA) := E9.out.within WA (by have := z3.out; omega) (by omega) (by have := zs4.out.2; omega) (by have := zs4.out.2; have := s5.out; have := LG.out.2; omega) (fun h0 k hk => by have := LW.out h0 k hk; omega) (fun h0 k hk => by have := (LG.out.1 h0 k hk).1; have := zs4.out.2; have := s5.out; omega)
  clear WA hkA E9 O9 p0 p1 p2 p3 p4 p5 p6
  obtain ⟨⟨t0, t1⟩, _⟩ := EA.out.want
  obtain ⟨⟨g0, g1⟩, _⟩ := EA.out.got
  go_wp2_with fail
  refine (eqHistoryResult_same c m _ _ _ _ _ _ G _ EA.out.rg EA.out.rw hm).mono ?_
  rintro e wB ⟨rfl, qB⟩
  have EB : Hid (EnvH w nw nx bd (.slice a0 nr c0) (.slice a1 n c1) (.slice a2 nt c2) (.slice a3 nq c3) w3.heap.size c (.slice ow m pw) w4.heap.size (.slice rb nr rd) (.slice (some ⟨g4, 0, none⟩) n n) (.slice (some ⟨gt4, 0, none⟩) nt nt) (.slice uq4 nq nq) w6.heap.size (.slice og m pg) m G w5.heap.size wB) := EA.out.later qB
  clear qB EA t0 t1 g0 g1
  obtain ⟨⟨g0, g1⟩, _⟩ := EB.out.got
  go_wp2_with fail
  refine (markHistoryResult_any c m _ _ _ G _ EB.out.rg EB.out.fg hm).mono ?_
  rintro e wC ⟨rfl, mC, gC⟩
  have WC : Within w5.heap.size w6.heap.size wB wC := Within.of gC (turn_off LG.out.1)
  have EC : Hid ((Below w.heap.size w wC ∧ Blk7F wC w.heap.size (.int .i64 nw) (.int .i64 nx) (.int .i64 bd) (.slice a0 nr c0) (.slice a1 n c1) (.slice a2 nt c2) (.slice a3 nq c3)) ∧ (Blk2 wC w3.heap.size (.int .i64 c) (.slice ow m pw) ∧ Row wC w.heap.size 2 m G (.slice ow m pw)) ∧ Blk2 wC w6.heap.size (.int .i64 c) (.slice og m pg) ∧ Row wC w5.heap.size 2 m (fun p => 1 + (p : Nat)) (.slice og m pg)) := by
    have a1 := z3.out
    have a2 := zs4.out.1
    have a3 := s5.out
    exact ⟨⟨WC.below EB.out.below (by omega), EB.out.arg.kept (WC.block _ EB.out.arg.lt (Or.inl (by omega)))⟩, ⟨EB.out.want.kept (WC.block _ EB.out.want.lt (Or.inl (by omega))), EB.out.rw.within WC (fun h0 k hk => Or.inl (by have := LW.out h0 k hk; omega))⟩, EB.out.got.kept (WC.block _ EB.out.got.lt (Or.inr (Nat.le_refl _))), mC⟩
  clear WC gC mC EB g0 g1
  obtain ⟨⟨g0, g1⟩, _⟩ := EC.out.2.2.1
  go_wp2_with fail
  refine (heldHistoryResult_any c m _ _ _ _ EC.out.2.2.2 hm).mono ?_
  rintro e wD ⟨rfl, qD⟩
  have ED : Hid ((Below w.heap.size w wD ∧ Blk7F wD w.heap.size (.int .i64 nw) (.int .i64 nx) (.int .i64 bd) (.slice a0 nr c0) (.slice a1 n c1) (.slice a2 nt c2) (.slice a3 nq c3)) ∧ (Blk2 wD w3.heap.size (.int .i64 c) (.slice ow m pw) ∧ Row wD w.heap.size 2 m G (.slice ow m pw)) ∧ Blk2 wD w6.heap.size (.int .i64 c) (.slice og m pg) ∧ Row wD w5.heap.size 2 m (fun p => 1 + (p : Nat)) (.slice og m pg)) := ⟨⟨EC.out.1.1.trans (qD.mono EC.out.1.1.size), EC.out.1.2.later qD⟩, ⟨EC.out.2.1.1.later qD, EC.out.2.1.2.later qD⟩, EC.out.2.2.1.later qD, EC.out.2.2.2.later qD⟩
  clear qD EC g0 g1
  obtain ⟨⟨p0, p1, p2, p3, p4, p5, p6⟩, _⟩ := ED.out.1.2
  go_wp2_with fail
  refine (toFsWorld_any nw nx bd nr F n S V _ _ nt T X _ nq R _ 0 _ (HG.out.1.later ED.out.1.1) (HG.out.2.later ED.out.1.1) (HQ.out.later ED.out.1.1) HB.out.1 HB.out.2 h7).mono ?_
  intro e wE hNE
  obtain ⟨rg, rh, gE, UE, zE, gtE, YE, ztE, uqE, rfl, oE, qE⟩ := hNE.own
  have EE : Hid (Below w.heap.size w wE ∧ (Blk2 wE w3.heap.size (.int .i64 c) (.slice ow m pw) ∧ Row wE w.heap.size 2 m G (.slice ow m pw)) ∧ Blk2 wE w6.heap.size (.int .i64 c) (.slice og m pg) ∧ Row wE w5.heap.size 2 m (fun p => 1 + (p : Nat)) (.slice og m pg)) := ⟨ED.out.1.1.trans (qE.mono ED.out.1.1.size), ⟨ED.out.2.1.1.later qE, ED.out.2.1.2.later qE⟩, ED.out.2.2.1.later qE, ED.out.2.2.2.later qE⟩
  have GE := HF.out _ _ _ _ _ _ _ oE.grs.1 oE.grs.2.1 oE.grs.2.2 HB.out.1.1 HB.out.1.2.1 HB.out.2.1 HB.out.2.2 h7
  clear qE hNE oE ED p0 p1 p2 p3 p4 p5 p6
  go_wp2_with fail
  refine GE.2.mono ?_
  clear GE
  rintro e wF ⟨oh, ph, rfl, rhF, _, qF⟩
  have EF : Hid (Below w.heap.size w (wF.alloc (.cells #[.int .i64 c, .slice oh m ph] 52)) ∧ Row (wF.alloc (.cells #[.int .i64 c, .slice oh m ph] 52)) w.heap.size 2 m G (.slice ow m pw) ∧ Blk2 (wF.alloc (.cells #[.int .i64 c, .slice oh m ph] 52)) w6.heap.size (.int .i64 c) (.slice og m pg) ∧ Row (wF.alloc (.cells #[.int .i64 c, .slice oh m ph] 52)) w5.heap.size 2 m (fun p => 1 + (p : Nat)) (.slice og m pg) ∧ Row (wF.alloc (.cells #[.int .i64 c, .slice oh m ph] 52)) 0 2 m G (.slice oh m ph)) := ⟨(EE.out.1.trans (qF.mono EE.out.1.size)).alloc (Nat.le_trans EE.out.1.size qF.size) _, (EE.out.2.1.2.later qF).alloc _, (EE.out.2.2.1.later qF).alloc _, (EE.out.2.2.2.later qF).alloc _, (rhF.mono (Nat.zero_le _)).alloc _⟩
  obtain ⟨⟨t0, t1⟩, _⟩ := EE.out.2.1.1.later qF
  have hl := (EE.out.2.1.1.later qF).lt
  clear qF rhF EE
  go_wp2_with fail
  refine (eqHistoryResult_same c m _ _ _ _ _ _ G _ EF.out.2.2.2.2 EF.out.2.1 hm).mono ?_
  rintro e wG ⟨rfl, qG⟩
  have EG : Hid (Below w.heap.size w wG ∧ Blk2 wG w6.heap.size (.int .i64 c) (.slice og m pg) ∧ Row wG w5.heap.size 2 m (fun p => 1 + (p : Nat)) (.slice og m pg)) := ⟨EF.out.1.trans (qG.mono EF.out.1.size), EF.out.2.2.1.later qG, EF.out.2.2.2.1.later qG⟩
  clear qG EF t0 t1 hl
  obtain ⟨⟨g0, g1⟩, _⟩ := EG.out.2.1
  go_wp2_with fail
  refine (heldHistoryResult_any c m _ _ _ _ EG.out.2.2 hm).mono ?_
  rintro e wH ⟨rfl, qH⟩
  have EH : Hid (Below w.heap.size w wH) := EG.out.1.trans (qH.mono EG.out.1.size)
  clear qH EG g0 g1
  go_wp2
  go_ret
  exact ⟨rfl, EH.out⟩
end Go.Proofs.YtpodcnmiaacndaaGreat

