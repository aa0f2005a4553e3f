/-
  Own text, merged of ModA, ModB, ModC, RunN, TxsD, TxsE, AcmD, RunM, RunV.
-/
import Derived.Test.YtpodcnmiaacndaaGreatPk10
namespace Go.Proofs.YtpodcnmiaacndaaGreat
open Go.RowKit

/-- What the first k of them did up to a time, one behind the other. -/
def modN (T : Nat → Tx) (D : Prs) (ts : Int) : Nat → Prs
  | 0 => []
  | k + 1 => if (D.getD k (0, 0)).2 ≤ ts then applyN (modN T D ts k) (T (D.getD k (0, 0)).1.toNat).L (T (D.getD k (0, 0)).1.toNat).m else modN T D ts k
/-- Each place is one of nt. -/
def Places (nt : Nat) (D : Prs) : Prop := ∀ k, k < D.length → ∃ p : Nat, p < nt ∧ (D.getD k (0, 0)).1 = p
theorem modN_len {T : Nat → Tx} {D : Prs} {ts : Int} {nt : Nat} (hD : Places nt D) (hm : ∀ i, i < nt → (T i).m ≤ 12) : ∀ k, k ≤ D.length → (modN T D ts k).length ≤ k * 12
  | 0, _ => by simp [modN]
  | k + 1, hk => by
    have := modN_len (ts := ts) hD hm k (by omega)
    obtain ⟨p, hp, e⟩ := hD k (by omega)
    have h2 := hm p hp
    rw [modN]
    split
    · refine Nat.le_trans (applyN_len _ _ _) ?_
      rw [e]
      simp only [Int.toNat_natCast]
      omega
    · omega
theorem modN_rises (T : Nat → Tx) (D : Prs) (ts : Int) : ∀ k, Rises (modN T D ts k)
  | 0 => List.Pairwise.nil
  | k + 1 => by
    rw [modN]
    split
    · exact applyN_rises (modN_rises T D ts k) _ _
    · exact modN_rises T D ts k
theorem donesL_nn (R : Nat → Option Int) : ∀ (k : Nat) (e : Int × Int), e ∈ donesL R k → 0 ≤ e.1
  | 0, e, h => absurd h (by simp [donesL])
  | k + 1, e, h => by
    rw [donesL] at h
    split at h
    · rcases putD_mem h with rfl | q
      · show 0 ≤ (k : Int); omega
      · exact donesL_nn R k e q
    · exact donesL_nn R k e h
theorem donesL_places (R : Nat → Option Int) (nt : Nat) : Places nt (donesL R nt) := fun k hk => by
  have hmem : (donesL R nt).getD k (0, 0) ∈ donesL R nt := by
    rw [List.getD_eq_getElem?_getD, List.getElem?_eq_getElem hk]
    exact List.getElem_mem hk
  have h1 := donesL_lt R nt _ hmem
  have h2 := donesL_nn R nt _ hmem
  exact ⟨((donesL R nt).getD k (0, 0)).1.toNat, by omega, by omega⟩
theorem itemF_kind {k kd v : Int} (h : itemF k kd v = 0) : 1 ≤ kd ∧ kd ≤ 3 := by
  unfold itemF at h
  split at h
  · rename_i q; exact absurd h q
  split at h
  · exact absurd h (by decide)
  · omega
theorem itemsF_all {F : Nat → Int} : ∀ {m k : Nat}, itemsF F m k = 0 → ∀ i, i < m → itemF (F ((k + i) * 3)) (F ((k + i) * 3 + 1)) (F ((k + i) * 3 + 2)) = 0
  | 0, _, _, _, hi => absurd hi (Nat.not_lt_zero _)
  | m + 1, k, h, i, hi => by
    rw [itemsF] at h
    split at h
    · rename_i q; exact absurd h q
    rename_i q
    split at h
    · exact absurd h (by decide)
    cases i with
    | zero => exact Decidable.not_not.1 q
    | succ i =>
      have := itemsF_all h i (by omega)
      rw [show k + (i + 1) = k + 1 + i from by omega]
      exact this
theorem txF_kinds {t : Tx} (h : txF t = 0) : ∀ k, k < t.m → 1 ≤ t.L (k * 3 + 1) ∧ t.L (k * 3 + 1) ≤ 3 := fun k hk => by
  unfold txF txnF at h
  split at h
  · omega
  split at h
  · omega
  split at h
  · rename_i h2; exact absurd h h2
  rename_i h2
  have := itemsF_all (Decidable.not_not.1 h2) k hk
  rw [Nat.zero_add] at this
  exact itemF_kind this
/-- What stands while the items are looked up. -/
def ModE (w : World) (b gd q gx p : Nat) (vt y : Value) (pl : Int) (X : World) : Prop :=
  (X.cell? ⟨b, 5, none⟩ = some vt ∧ X.cell? ⟨gd, q, none⟩ = some (.int .i64 pl) ∧ X.cell? ⟨gx, p, none⟩ = some y) ∧ Below w.heap.size w X
theorem ModE.later {w X X' : World} {b gd q gx p : Nat} {vt y : Value} {pl : Int} (h : ModE w b gd q gx p vt y pl X) (hb : Below X.heap.size X X') : ModE w b gd q gx p vt y pl X' :=
  ⟨⟨(hb.cell (lt_cell h.1.1)).trans h.1.1, (hb.cell (lt_cell h.1.2.1)).trans h.1.2.1, (hb.cell (lt_cell h.1.2.2)).trans h.1.2.2⟩, h.2.trans (hb.mono h.2.size)⟩
set_option maxRecDepth 100000 in
set_option maxHeartbeats 8000000 in
theorem l11Model_is (b : Nat) (nw nx bd : Int) (nr : Nat) (F : Nat → Int) (n : Nat) (S : Nat → Sto) (V : Nat → Nat → Value) (vr vs : Value) (nt : Nat) (T : Nat → Tx) (X : Nat → Value) (vt : Value) (R : Nat → Option Int) (ts : Int) (w : World) (h : LiesD w b nw nx bd nr F n S V vr vs nt T X vt) (hr : nr ≤ 6) (hn : n = nr) (hs : ∀ i, i < n → (S i).nl ≤ 200 ∧ (S i).nw ≤ 200) (hnt : nt ≤ 16) (hit : ∀ i, i < nt → 1 ≤ (T i).m ∧ (T i).m ≤ 12) (hkd : ∀ i, i < nt → ∀ k, k < (T i).m → 1 ≤ (T i).L (k * 3 + 1) ∧ (T i).L (k * 3 + 1) ≤ 3) (hR : ∀ i, i < nt → DoneAt nr F S (T i) (R i)) (M : Prs) (hM : modN T (donesL R nt) ts (donesL R nt).length = M) :
    Calls Tryz.prog 46 #[.pointer (some ⟨b, 0, none⟩), .int .i64 ts] w fun e w' => ∃ ao cp, e = .returned (.slice ao M.length cp) ∧ Own w' w.heap.size 144 2 M.length (rowL M) (.slice ao M.length cp) ∧ Below w.heap.size w w' := by
  obtain ⟨a2, c2, rfl⟩ := h.2.2.form
  have H : Hid (LiesD w b nw nx bd nr F n S V vr vs nt T X (.slice a2 nt c2)) := h
  have HR : Hid (∀ i, i < nt → DoneAt nr F S (T i) (R i)) := hR
  have HIT : Hid ((∀ i, i < nt → 1 ≤ (T i).m ∧ (T i).m ≤ 12) ∧ ∀ i, i < nt → ∀ k, k < (T i).m → 1 ≤ (T i).L (k * 3 + 1) ∧ (T i).L (k * 3 + 1) ≤ 3) := ⟨hit, hkd⟩
  have HS : Hid (∀ i, i < n → (S i).nl ≤ 200 ∧ (S i).nw ≤ 200) := hs
  have p5 : w.cell? ⟨b, 5, none⟩ = some (.slice a2 nt c2) := h.1.1.2.2.2.2.2
  have hb : b < w.heap.size := h.1.lt
  clear h hR hit hkd hs
  go_enter Tryz.func46, Tryz.ntmps46
  go_wp2_with fail
  refine (l11Committed_is _ nw nx bd nr F n S V _ _ nt T X _ R _ (H.out.later (below_alloc _ _)) hr hn HS.out hnt (fun i hi => (HIT.out.1 i hi).1) HR.out).mono ?_
  rintro e w2 ⟨do0, dc, rfl, hd2, q2⟩
  have HP : Hid (Places nt (donesL R nt)) := donesL_places R nt
  have HL : Hid ((donesL R nt).length ≤ 16) := Nat.le_trans (donesL_len R nt) hnt
  obtain ⟨D, hD⟩ : ∃ D, donesL R nt = D := ⟨_, rfl⟩
  rw [hD] at hd2 HP HL hM ⊢
  have hl16 : D.length ≤ 16 := HL.out
  have HM : Hid (modN T D ts D.length = M) := hM
  have O2 : Hid (Row w2 0 2 D.length (rowL D) (.slice do0 D.length dc)) := hd2.row.1.mono (Nat.zero_le _)
  have Q2 : Hid (Below w.heap.size w w2) := (below_alloc w _).trans (q2.mono (by simp))
  have OL : Hid (Own w2 w.heap.size 144 2 0 (rowL []) (.slice (some ⟨w.heap.size, 0, none⟩) 0 0)) := ((OwnM.lit0 w w.heap.size 144 2 rfl).own rfl).later q2
  clear hd2 q2 hD hM HL
  go_wp2
  go_loopw [5, 7] (fun out i wr => ∃ (k : Nat) (ao : Option Addr) (cp : Nat), k ≤ D.length ∧ i = .int .i64 k ∧ out = .slice ao (modN T D ts k).length cp ∧ Hid (Own wr w.heap.size 144 2 (modN T D ts k).length (rowL (modN T D ts k)) (.slice ao (modN T D ts k).length cp)) ∧ Hid (Below w2.heap.size w2 wr)) (fun _ i _ => D.length - (intOf i).toNat)
  case atStart => exact ⟨0, _, _, Nat.zero_le _, rfl, rfl, OL, Below.refl _ _⟩
  case round =>
    obtain ⟨k, ao, cp, hk, rfl, rfl, HO, HB⟩ := hrel
    by_cases hlt : k < D.length
    case neg =>
      obtain rfl : k = D.length := by omega
      rw [HM.out] at HO ⊢
      obtain ⟨LN, hLN⟩ : ∃ LN, M.length = LN := ⟨_, rfl⟩
      have HLN : Hid (M.length = LN) := hLN
      rw [hLN]
      clear hLN
      go_wp2
      refine bodyPost_ret (v := .slice ao LN cp) (by simp [results, Tryz.results46, go_sem]) rfl ?_
      rw [← HLN.out]
      exact ⟨ao, cp, rfl, HO.out, Q2.out.trans (HB.out.mono Q2.out.size)⟩
    obtain ⟨gd, od, hdo, _, hgd, d0, d1⟩ := (O2.out.later HB.out).at2 hlt
    subst hdo
    rw [rowL_key] at d0
    rw [rowL_val] at d1
    obtain ⟨p, hp, hpl⟩ := HP.out k hlt
    obtain ⟨cm, hcm⟩ : ∃ c, (D.getD k (0, 0)).2 = c := ⟨_, rfl⟩
    rw [hpl] at d0
    rw [hcm] at d1
    have HC : Hid ((D.getD k (0, 0)).1 = p ∧ (D.getD k (0, 0)).2 = cm) := ⟨hpl, hcm⟩
    obtain ⟨L, hL⟩ : ∃ L, modN T D ts k = L := ⟨_, rfl⟩
    have hLl : L.length ≤ 192 := by have := modN_len (ts := ts) HP.out (fun i hi => (HIT.out.1 i hi).2) k (by omega); rw [hL] at this; omega
    have HLL : Hid (modN T D ts k = L) := hL
    rw [hL] at HO ⊢
    clear hL hpl hcm
    by_cases hle : cm ≤ ts
    case neg =>
      have d2 : decide (cm ≤ ts) = false := decide_eq_false hle
      have HE : Hid (modN T D ts (k + 1) = L) := by unfold Hid; rw [modN, HC.out.2, if_neg hle]; exact HLL.out
      clear hle HC HLL
      go_wp2
      go_roundw
      case rel => exact ⟨k + 1, ao, cp, by omega, by go_num, by rw [HE.out], by rw [HE.out]; exact HO, HB⟩
      case measure => simp [intOf]; omega
    have d2 : decide (cm ≤ ts) = true := decide_eq_true hle
    obtain ⟨gx, ox, hax, _, hgx, ⟨_, _, _, _, _, x5⟩, hrow, _⟩ := (H.out.2.2.later (Q2.out.trans (HB.out.mono Q2.out.size))).at hp
    subst hax
    have hm12 := (HIT.out.1 p hp).2
    have hkk := HIT.out.2 p hp
    obtain ⟨t, ht⟩ : ∃ t, T p = t := ⟨_, rfl⟩
    rw [ht] at hrow hm12 hkk
    have HKK : Hid (∀ k, k < t.m → 1 ≤ t.L (k * 3 + 1) ∧ t.L (k * 3 + 1) ≤ 3) := hkk
    have HE : Hid (modN T D ts (k + 1) = applyN L t.L t.m) := by unfold Hid; rw [modN, HC.out.2, if_pos hle, HC.out.1, HLL.out]; simp only [Int.toNat_natCast, ht]
    obtain ⟨y, hy⟩ : ∃ y, X p = y := ⟨_, rfl⟩
    rw [hy] at x5 hrow
    obtain ⟨yo, yc, rfl⟩ := hrow.form
    have HRW : Hid (Row wr 0 3 t.m t.L (.slice yo t.m yc)) := hrow
    have b5 := ((Q2.out.trans (HB.out.mono Q2.out.size)).cell (p := ⟨b, 5, none⟩) hb).trans p5
    have hS0 : ModE w b gd (od + k * 2) gx (ox + p * 6 + 5) (.slice (some ⟨gx, ox, none⟩) nt c2) (.slice yo t.m yc) p wr.drew := ⟨⟨b5, d0, x5⟩, (Q2.out.trans (HB.out.mono Q2.out.size)).drew⟩
    have HOd : Hid (Own wr.drew w.heap.size 144 2 L.length (rowL L) (.slice ao L.length cp) ∧ Row wr.drew 0 3 t.m t.L (.slice yo t.m yc) ∧ Below w2.heap.size w2 wr.drew) := ⟨HO.out, HRW.out, HB.out.drew⟩
    have hpn : (p : Int) < (nt : Int) := by omega
    clear hle HC HLL hy ht hkk hrow HO HB HRW b5
    go_wp2_with fail
    refine wp_region_held_drew (S := ModE w b gd (od + k * 2) gx (ox + p * 6 + 5) (.slice (some ⟨gx, ox, none⟩) nt c2) (.slice yo t.m yc) p) (by kernel_rfl) hS0 (fun hS => ?_)
    generalize wr.drew = wa at hS HOd ⊢
    clear hS0 d0 d1 x5
    refine tkH 0 ?_ hS (fun wx hx => ?_) ?_; rotate_left
    · obtain ⟨⟨hx0, hx1, hx2⟩, _⟩ := hx; go_simp; try with_reducible rfl
    refine tkH 1 ?_ hS (fun wx hx => ?_) ?_; rotate_left
    · obtain ⟨⟨hx0, hx1, hx2⟩, _⟩ := hx; go_simp; try with_reducible rfl
    refine tkH 2 ?_ hS (fun wx hx => ?_) ?_; rotate_left
    · obtain ⟨⟨hx0, hx1, hx2⟩, _⟩ := hx; go_simp; try with_reducible rfl
    try simp only [Act.put, List.getElem_toArray, List.getElem_cons_zero, List.getElem_cons_succ, List.setIfInBounds_toArray, List.set_cons_succ, List.set_cons_zero]
    refine tkH 3 ?_ hS (fun wx hx => ?_) ?_; rotate_left
    · obtain ⟨⟨hx0, hx1, hx2⟩, _⟩ := hx; go_simp; try with_reducible rfl
    refine tkH 4 ?_ hS (fun wx hx => ?_) ?_; rotate_left
    · obtain ⟨⟨hx0, hx1, hx2⟩, _⟩ := hx; go_simp; try with_reducible rfl
    refine tkH 5 ?_ hS (fun wx hx => ?_) ?_; rotate_left
    · obtain ⟨⟨hx0, hx1, hx2⟩, _⟩ := hx; go_simp; try with_reducible rfl
    try simp only [Act.put, List.getElem_toArray, List.getElem_cons_zero, List.getElem_cons_succ, List.setIfInBounds_toArray, List.set_cons_succ, List.set_cons_zero]
    refine tkH 6 ?_ hS (fun wx hx => ?_) ?_; rotate_left
    · obtain ⟨⟨hx0, hx1, hx2⟩, _⟩ := hx; go_simp; try with_reducible rfl
    refine tkH 7 ?_ hS (fun wx hx => ?_) ?_; rotate_left
    · obtain ⟨⟨hx0, hx1, hx2⟩, _⟩ := hx; go_simp; try with_reducible rfl
    refine tkH 8 ?_ hS (fun wx hx => ?_) ?_; rotate_left
    · obtain ⟨⟨hx0, hx1, hx2⟩, _⟩ := hx; go_simp; try with_reducible rfl
    try simp only [Act.put, List.getElem_toArray, List.getElem_cons_zero, List.getElem_cons_succ, List.setIfInBounds_toArray, List.set_cons_succ, List.set_cons_zero]
    refine tkH 9 ?_ hS (fun wx hx => ?_) ?_; rotate_left
    · obtain ⟨⟨hx0, hx1, hx2⟩, _⟩ := hx; go_simp; try with_reducible rfl
    refine tkH 10 ?_ hS (fun wx hx => ?_) ?_; rotate_left
    · obtain ⟨⟨hx0, hx1, hx2⟩, _⟩ := hx; go_simp; try with_reducible rfl
    refine tkH 11 ?_ hS (fun wx hx => ?_) ?_; rotate_left
    · obtain ⟨⟨hx0, hx1, hx2⟩, _⟩ := hx; go_simp; try with_reducible rfl
    try simp only [Act.put, List.getElem_toArray, List.getElem_cons_zero, List.getElem_cons_succ, List.setIfInBounds_toArray, List.set_cons_succ, List.set_cons_zero]
    refine tkH 12 ?_ hS (fun wx hx => ?_) ?_; rotate_left
    · obtain ⟨⟨hx0, hx1, hx2⟩, _⟩ := hx; go_simp; try with_reducible rfl
    try simp only [Act.put, List.getElem_toArray, List.getElem_cons_zero, List.getElem_cons_succ, List.setIfInBounds_toArray, List.set_cons_succ, List.set_cons_zero]
    refine rdH 13 (fun K hK => ?_)
    go_simp
    go_wp2_with fail
    refine (l11Apply_any L t.L t.m _ _ _ 0 _ HOd.out.1.row.1 HOd.out.2.1 (by omega) hm12 HKK.out).mono ?_
    rintro e w3 ⟨ao3, cp3, rfl, o3, q3⟩
    rw [← HE.out] at o3 ⊢
    have H3 : Hid (Own w3 w.heap.size 144 2 (modN T D ts (k + 1)).length (rowL (modN T D ts (k + 1))) (.slice ao3 (modN T D ts (k + 1)).length cp3) ∧ Below w2.heap.size w2 w3) := ⟨o3.mono (by have := Q2.out.size; have := HOd.out.2.2.size; omega), HOd.out.2.2.trans (q3.mono HOd.out.2.2.size)⟩
    have hS3 := hS.later q3
    clear o3 q3 HOd
    obtain ⟨LN, hLN⟩ : ∃ LN, (modN T D ts (k + 1)).length = LN := ⟨_, rfl⟩
    have HLN : Hid ((modN T D ts (k + 1)).length = LN) := hLN
    rw [hLN]
    clear hLN
    go_wp2_with fail
    refine hK.out _ _ hS3 (fun hS => ?_)
    clear hK K hS3
    refine tkH 14 ?_ hS (fun wx hx => ?_) ?_; rotate_left
    · obtain ⟨⟨hx0, hx1, hx2⟩, _⟩ := hx; go_simp; try with_reducible rfl
    refine wpAnyH_done (by kernel_rfl) ?_ _
    go_simp
    clear hS
    go_wp2
    go_roundw
    case rel => exact ⟨k + 1, ao3, cp3, by omega, by go_num, by rw [HLN.out], H3.out.1, H3.out.2⟩
    case measure => simp [intOf]; omega
end Go.Proofs.YtpodcnmiaacndaaGreat

namespace Go.Proofs.YtpodcnmiaacndaaGreat
open Go.RowKit

set_option maxRecDepth 100000 in
set_option maxHeartbeats 8000000 in
theorem model_is (x0 : World) (b : Nat) (nw nx bd : Int) (n : Nat) (F : Nat → Int) (S : Nat → Sto) (g : Nat) (P : Nat → Nat) (Bw nt : Nat) (T : Nat → Tx) (Y : Nat → Value) (v : Value) (R : Nat → Option Int) (ts : Int) (h : DonE x0 b nw nx bd n F S g P Bw nt T Y v x0) (hR : ∀ i, i < nt → DoneAt n F S (T i) (R i)) (hn : n ≤ 12) (hnt : nt ≤ 16) (hit : ∀ i, i < nt → 1 ≤ (T i).m ∧ (T i).m ≤ 12) (M : Prs) (hM : modN T (donesL R nt) ts (donesL R nt).length = M) :
    Calls Tryz.prog 90 #[.pointer (some ⟨b, 0, none⟩), .int .i64 ts] x0 fun e x' => e = .returned (.pointer (some ⟨x0.heap.size, 0, none⟩)) ∧ (∃ lo, x0.heap.size < lo ∧ RisL x' x0.heap.size lo M) ∧ Below x0.heap.size x0 x' := by
  obtain ⟨va, vc, rfl⟩ := h.txs.form
  have H0 : Hid (DonE x0 b nw nx bd n F S g P Bw nt T Y (.slice va nt vc) x0) := h
  have HRR : Hid ((∀ i, i < nt → DoneAt n F S (T i) (R i)) ∧ ∀ i, i < nt → 1 ≤ (T i).m ∧ (T i).m ≤ 12) := ⟨hR, hit⟩
  clear h hR hit
  go_enter Tryz.func90, Tryz.ntmps90
  go_wp2_with fail
  refine (filledP_nil _).mono ?_
  rintro e w1 ⟨rfl, r1, q1⟩
  have H1 : Hid (DonE w1 b nw nx bd n F S g P Bw nt T Y (.slice va nt vc) w1) := ⟨Below.refl _ _, H0.out.kb.later q1, H0.out.work.later q1, H0.out.txs.later q1⟩
  have R1 : Hid (Blk2 w1 x0.heap.size (.slice none 0 0) (.func (.func 138) #[] #[]) ∧ Below x0.heap.size x0 w1) := ⟨r1, q1⟩
  clear r1 q1
  go_wp2_with fail
  refine (dones_is w1 b nw nx bd n F S g P Bw nt T Y _ R H1.out HRR.out.1 hn hnt (fun i hi => (HRR.out.2 i hi).1)).mono ?_
  rintro e w2 ⟨do0, dc, rfl, hd2, q2⟩
  have HP : Hid (Places nt (donesL R nt)) := donesL_places R nt
  have hl16 : (donesL R nt).length ≤ 16 := Nat.le_trans (donesL_len R nt) hnt
  obtain ⟨D, hD⟩ : ∃ D, donesL R nt = D := ⟨_, rfl⟩
  rw [hD] at hd2 HP hl16 hM ⊢
  have HM : Hid (modN T D ts D.length = M) := hM
  have O2 : Hid (Own w2 w1.heap.size 92 2 D.length (rowL D) (.slice do0 D.length dc)) := hd2
  have hz : Hid (x0.heap.size < w1.heap.size ∧ w1.heap.size ≤ w2.heap.size) := ⟨R1.out.1.lt, q2.size⟩
  have Q2 : Hid (Below x0.heap.size x0 w2) := R1.out.2.trans (q2.mono R1.out.2.size)
  have L2 : Hid (RisL w2 x0.heap.size w2.heap.size [] ∧ OffB x0.heap.size w2.heap.size w2 w2) := ⟨⟨_, R1.out.1.later q2, Own.nil _ _ _ _ _⟩, OffB.refl _ _ _⟩
  have hlo : x0.heap.size < w2.heap.size := by have := hz.out; omega
  clear hd2 q2 hD hM R1 H1
  obtain ⟨lo, hlq⟩ : ∃ lo, w2.heap.size = lo := ⟨_, rfl⟩
  have hlw : lo ≤ w2.heap.size := by omega
  rw [hlq] at L2 hlo
  have HZ : Hid (w2.heap.size = lo) := hlq
  clear hlq
  go_wp2
  go_loopw [12] (fun i wr => ∃ k : Nat, k ≤ D.length ∧ i = .int .i64 k ∧ Hid (RisL wr x0.heap.size lo (modN T D ts k) ∧ OffB x0.heap.size lo w2 wr)) (fun i _ => D.length - (intOf i).toNat)
  case atStart => exact ⟨0, Nat.zero_le _, rfl, L2⟩
  case round =>
    clear L2
    obtain ⟨k, hk, rfl, HB⟩ := hrel
    by_cases hlt : k < D.length
    case neg =>
      obtain rfl : k = D.length := by omega
      rw [HM.out] at HB
      go_wp2
      go_ret
      exact ⟨rfl, ⟨lo, hlo, HB.out.1⟩, Q2.out.trans HB.out.2.1⟩
    have OD : Own wr w1.heap.size 92 2 D.length (rowL D) (.slice do0 D.length dc) := own_kept O2.out (fun j hj => by
      have h1 := own_in O2.out j hj
      have h2 := hz.out
      have h3 := HZ.out
      exact HB.out.2.2 j (by omega) (by omega))
    obtain ⟨gd, od, hdo, _, hgd, d0, d1⟩ := OD.row.1.at2 hlt
    subst hdo
    rw [rowL_key] at d0
    rw [rowL_val] at d1
    obtain ⟨p, hp, hpl⟩ := HP.out k hlt
    obtain ⟨cm, hcm⟩ : ∃ c, (D.getD k (0, 0)).2 = c := ⟨_, rfl⟩
    rw [hpl] at d0
    rw [hcm] at d1
    have HC : Hid ((D.getD k (0, 0)).1 = p ∧ (D.getD k (0, 0)).2 = cm) := ⟨hpl, hcm⟩
    obtain ⟨L, hL⟩ : ∃ L, modN T D ts k = L := ⟨_, rfl⟩
    have hLl : L.length ≤ 192 := by have := modN_len (ts := ts) HP.out (fun i hi => (HRR.out.2 i hi).2) k (by omega); rw [hL] at this; omega
    have HLL : Hid (modN T D ts k = L ∧ Rises L) := ⟨hL, hL ▸ modN_rises T D ts k⟩
    rw [hL] at HB
    have HA : Hid (∀ o : Obj, RisL (wr.alloc o) x0.heap.size lo L ∧ OffB x0.heap.size lo w2 (wr.alloc o)) := fun o => ⟨HB.out.1.later (below_alloc _ _), HB.out.2.later hlo hlw (below_alloc _ _)⟩
    clear hL hpl hcm OD
    by_cases hle : cm ≤ ts
    case neg =>
      have d2 : decide (cm ≤ ts) = false := decide_eq_false hle
      have HE : Hid (modN T D ts (k + 1) = L) := by unfold Hid; rw [modN, HC.out.2, if_neg hle]; exact HLL.out.1
      clear hle HC HLL HB
      go_wp2
      go_roundw
      case rel => exact ⟨k + 1, by omega, by go_num, by rw [HE.out]; exact HA.out _⟩
      case measure => simp [intOf]; omega
    have d2 : decide (cm ≤ ts) = true := decide_eq_true hle
    have QB : Hid (Below x0.heap.size x0 wr) := Q2.out.trans HB.out.2.1
    obtain ⟨gx, ox, hax, _, hgx, ⟨_, _, _, _, _, x5⟩, hrow, _⟩ := H0.out.txs.at hp
    subst hax
    have hm12 := (HRR.out.2 p hp).2
    obtain ⟨t, ht⟩ : ∃ t, T p = t := ⟨_, rfl⟩
    rw [ht] at hrow hm12
    have HE : Hid (modN T D ts (k + 1) = applyN L t.L t.m) := by unfold Hid; rw [modN, HC.out.2, if_pos hle, HC.out.1, HLL.out.1]; simp only [Int.toNat_natCast, ht]
    obtain ⟨y, hy⟩ : ∃ y, Y p = y := ⟨_, rfl⟩
    rw [hy] at x5 hrow
    obtain ⟨yo, yc, rfl⟩ := hrow.form
    have HRW : Hid (Row x0 0 3 t.m t.L (.slice yo t.m yc)) := hrow
    have hpn : (p : Int) < (nt : Int) := by omega
    have X5 : Hid (gx < x0.heap.size ∧ x0.cell? ⟨gx, ox + p * 6 + 5, none⟩ = some (.slice yo t.m yc)) := ⟨hgx, x5⟩
    have hS0 : Below x0.heap.size x0 (wr.alloc (.cells #[.int .i64 p, .int .i64 cm] 92)).drew := (QB.out.alloc QB.out.size _).drew
    have HW : Hid (RisL (wr.alloc (.cells #[.int .i64 p, .int .i64 cm] 92)).drew x0.heap.size lo L ∧ OffB x0.heap.size lo w2 (wr.alloc (.cells #[.int .i64 p, .int .i64 cm] 92)).drew) := ⟨(HA.out _).1.later (Below.refl _ _).drew, (HA.out _).2.later hlo hlw (Below.refl _ _).drew⟩
    have HZ0 : Hid ((wr.alloc (.cells #[.int .i64 p, .int .i64 cm] 92)).drew.cell? ⟨wr.heap.size, 0, none⟩ = some (.int .i64 p)) := (Blk2.new wr _ _ _).1.1
    clear hle HC ht hy hrow HB HA QB x5
    go_upto_region 6 with fail
    refine wp_region_held_drew (S := fun X : World => Below x0.heap.size x0 X) (by kernel_rfl) hS0 (fun hS => ?_)
    generalize (wr.alloc (.cells #[.int .i64 p, .int .i64 cm] 92)).drew = wa at hS HW HZ0 ⊢
    clear hS0 d0 d1
    refine tkH 0 ?_ hS (fun wx hx => ?_) ?_; rotate_left
    · obtain ⟨⟨hx0, hx1, hx2, hx3, hx4⟩, _⟩ := H0.out.kb.later hx; have hx6 := (hx.cell X5.out.1).trans X5.out.2; go_simp; try with_reducible rfl
    refine tkH 1 ?_ hS (fun wx hx => ?_) ?_; rotate_left
    · obtain ⟨⟨hx0, hx1, hx2, hx3, hx4⟩, _⟩ := H0.out.kb.later hx; have hx6 := (hx.cell X5.out.1).trans X5.out.2; go_simp; try with_reducible rfl
    refine tkH 2 ?_ hS (fun wx hx => ?_) ?_; rotate_left
    · obtain ⟨⟨hx0, hx1, hx2, hx3, hx4⟩, _⟩ := H0.out.kb.later hx; have hx6 := (hx.cell X5.out.1).trans X5.out.2; go_simp; try with_reducible rfl
    try simp only [Act.put, List.getElem_toArray, List.getElem_cons_zero, List.getElem_cons_succ, List.setIfInBounds_toArray, List.set_cons_succ, List.set_cons_zero]
    refine tkH 3 ?_ hS (fun wx hx => ?_) ?_; rotate_left
    · obtain ⟨⟨hx0, hx1, hx2, hx3, hx4⟩, _⟩ := H0.out.kb.later hx; have hx6 := (hx.cell X5.out.1).trans X5.out.2; go_simp; try with_reducible rfl
    refine tkH 4 ?_ hS (fun wx hx => ?_) ?_; rotate_left
    · obtain ⟨⟨hx0, hx1, hx2, hx3, hx4⟩, _⟩ := H0.out.kb.later hx; have hx6 := (hx.cell X5.out.1).trans X5.out.2; go_simp; try with_reducible rfl
    refine tkH 5 ?_ hS (fun wx hx => ?_) ?_; rotate_left
    · obtain ⟨⟨hx0, hx1, hx2, hx3, hx4⟩, _⟩ := H0.out.kb.later hx; have hx6 := (hx.cell X5.out.1).trans X5.out.2; go_simp; try with_reducible rfl
    try simp only [Act.put, List.getElem_toArray, List.getElem_cons_zero, List.getElem_cons_succ, List.setIfInBounds_toArray, List.set_cons_succ, List.set_cons_zero]
    refine rdH 6 (fun K hK => ?_)
    have z0 := HZ0.out
    go_simp
    refine hK.out _ _ hS (fun hS => ?_)
    clear hK K z0
    try simp only [Act.put, List.getElem_toArray, List.getElem_cons_zero, List.getElem_cons_succ, List.setIfInBounds_toArray, List.set_cons_succ, List.set_cons_zero]
    refine tkH 7 ?_ hS (fun wx hx => ?_) ?_; rotate_left
    · obtain ⟨⟨hx0, hx1, hx2, hx3, hx4⟩, _⟩ := H0.out.kb.later hx; have hx6 := (hx.cell X5.out.1).trans X5.out.2; go_simp; try with_reducible rfl
    refine tkH 8 ?_ hS (fun wx hx => ?_) ?_; rotate_left
    · obtain ⟨⟨hx0, hx1, hx2, hx3, hx4⟩, _⟩ := H0.out.kb.later hx; have hx6 := (hx.cell X5.out.1).trans X5.out.2; go_simp; try with_reducible rfl
    try simp only [Act.put, List.getElem_toArray, List.getElem_cons_zero, List.getElem_cons_succ, List.setIfInBounds_toArray, List.set_cons_succ, List.set_cons_zero]
    refine tkH 9 ?_ hS (fun wx hx => ?_) ?_; rotate_left
    · obtain ⟨⟨hx0, hx1, hx2, hx3, hx4⟩, _⟩ := H0.out.kb.later hx; have hx6 := (hx.cell X5.out.1).trans X5.out.2; go_simp; try with_reducible rfl
    try simp only [Act.put, List.getElem_toArray, List.getElem_cons_zero, List.getElem_cons_succ, List.setIfInBounds_toArray, List.set_cons_succ, List.set_cons_zero]
    refine rdH 10 (fun K hK => ?_)
    go_simp
    go_wp2_with fail
    refine (applyTo_lo L t.L t.m x0.heap.size lo hlo _ 0 x0 _ HRW.out hS (Nat.le_refl _) HW.out.1 (Nat.le_trans hlw HW.out.2.1.size) HLL.out.2 (by omega) hm12).mono ?_
    rintro e w3 ⟨rfl, o3, q3⟩
    rw [← HE.out] at o3
    have H3 : Hid (RisL w3 x0.heap.size lo (modN T D ts (k + 1)) ∧ OffB x0.heap.size lo w2 w3) := ⟨o3, HW.out.2.trans q3⟩
    have hS3 : Below x0.heap.size x0 w3 := hS.trans q3.1
    clear o3 q3 HW
    go_wp2_with fail
    refine hK.out _ _ hS3 (fun hS => ?_)
    clear hK K hS3
    refine wpAnyH_done (by kernel_rfl) ?_ _
    go_simp
    clear hS
    go_wp2
    go_roundw
    case rel => exact ⟨k + 1, by omega, by go_num, H3⟩
    case measure => simp [intOf]; omega
end Go.Proofs.YtpodcnmiaacndaaGreat

namespace Go.Proofs.YtpodcnmiaacndaaGreat
open Go.RowKit

/-- What ModelAt answers: a code and a list. -/
def MoAns (nw nx bd : Int) (nr : Nat) (F : Nat → Int) (n : Nat) (S : Nat → Sto) (nt : Nat) (T : Nat → Tx) (ts : Int) (c : Int) (L : Prs) : Prop :=
  (worldF nw nx bd nr F n S nt T ≠ 0 ∧ c = worldF nw nx bd nr F n S nt T ∧ L = []) ∨
  (worldF nw nx bd nr F n S nt T = 0 ∧ ¬ (0 ≤ ts ∧ ts ≤ 100000) ∧ c = 3 ∧ L = []) ∨
  (worldF nw nx bd nr F n S nt T = 0 ∧ (0 ≤ ts ∧ ts ≤ 100000) ∧ c = 0 ∧ ∃ R, (∀ i, i < nt → DoneAt nr F S (T i) (R i)) ∧ modN T (donesL R nt) ts (donesL R nt).length = L)
theorem world_dones {nw nx bd : Int} {nr : Nat} {F : Nat → Int} {n : Nat} {S : Nat → Sto} {nt : Nat} {T : Nat → Tx} (h : worldF nw nx bd nr F n S nt T = 0) : ∃ R : Nat → Option Int, ∀ i, i < nt → DoneAt nr F S (T i) (R i) := by
  have Z := world_fine h
  have hall : ∀ i, ∃ r, i < nt → DoneAt nr F S (T i) r := fun i => by
    by_cases hi : i < nt
    · obtain ⟨r, hr⟩ := DoneAt.get (S := S) (groupsF_zero Z.1).1 (Z.2.2 i hi).2
      exact ⟨r, fun _ => hr⟩
    · exact ⟨none, fun q => absurd q hi⟩
  exact Classical.axiomOfChoice hall
theorem MoAns.get (nw nx bd : Int) (nr : Nat) (F : Nat → Int) (n : Nat) (S : Nat → Sto) (nt : Nat) (T : Nat → Tx) (ts : Int) : ∃ c L, L.length ≤ 192 ∧ MoAns nw nx bd nr F n S nt T ts c L := by
  by_cases h : worldF nw nx bd nr F n S nt T = 0
  · by_cases q : 0 ≤ ts ∧ ts ≤ 100000
    · have Z := world_fine h
      obtain ⟨R, hR⟩ := world_dones h
      have hl := Nat.le_trans (donesL_len R nt) Z.2.1
      exact ⟨0, _, Nat.le_trans (modN_len (donesL_places R nt) (fun i hi => (Z.2.2 i hi).1.2) _ (Nat.le_refl _)) (by omega), Or.inr (Or.inr ⟨h, q, rfl, R, hR, rfl⟩)⟩
    · exact ⟨3, [], by simp, Or.inr (Or.inl ⟨h, q, rfl, rfl⟩)⟩
  · exact ⟨_, [], by simp, Or.inl ⟨h, rfl, rfl⟩⟩
theorem world_kinds {nw nx bd : Int} {nr : Nat} {F : Nat → Int} {n : Nat} {S : Nat → Sto} {nt : Nat} {T : Nat → Tx} (h : worldF nw nx bd nr F n S nt T = 0) : ∀ i, i < nt → ∀ k, k < (T i).m → 1 ≤ (T i).L (k * 3 + 1) ∧ (T i).L (k * 3 + 1) ≤ 3 := fun i hi => by
  refine txF_kinds ?_
  unfold worldF at h
  split at h
  · omega
  split at h
  · rename_i q; exact absurd h q
  split at h
  · rename_i q; exact absurd h q
  split at h
  · omega
  have := scan_zero h i hi
  unfold placeF at this
  split at this
  · rename_i q; exact absurd this q
  · rename_i q; exact Decidable.not_not.1 q
set_option maxRecDepth 100000 in
set_option maxHeartbeats 8000000 in
theorem implModelAt_is (nw nx bd : Int) (nr : Nat) (F : Nat → Int) (n : Nat) (S : Nat → Sto) (V : Nat → Nat → Value) (vr vs : Value) (nt : Nat) (T : Nat → Tx) (X : Nat → Value) (vt : Value) (ts : Int) (B : Nat) (c : Int) (L : Prs) (w : World) (h : Grs w B nr F n S V vr vs) (hx : Txs w B nt T X vt) (hr : nr ≤ 9223372036854775807) (hn : n ≤ 9223372036854775807) (ht : nt ≤ 9223372036854775807) (hm : ∀ i, i < nt → (T i).m ≤ 9223372036854775807) (hA : MoAns nw nx bd nr F n S nt T ts c L) :
    Calls Tryz.prog 48 #[.agg #[.int .i64 nw, .int .i64 nx, .int .i64 bd, vr, vs, vt], .int .i64 ts] w (ResRow 2 w c L.length (rowL L)) := by
  obtain ⟨a0, c0, a1, c1, rfl, rfl⟩ := h.form
  obtain ⟨a2, c2, rfl⟩ := hx.form
  have HG : Hid (Grs w 0 nr F n S V (.slice a0 nr c0) (.slice a1 n c1) ∧ Txs w 0 nt T X (.slice a2 nt c2)) := ⟨h.mono (Nat.zero_le _), hx.mono (Nat.zero_le _)⟩
  have HM : Hid (∀ i, i < nt → (T i).m ≤ 9223372036854775807) := hm
  have H0 : Hid (LiesD ((w.alloc (.cells #[.int .i64 nw, .int .i64 nx, .int .i64 bd, .slice a0 nr c0, .slice a1 n c1, .slice a2 nt c2] 43)).alloc (.cells #[.int .i64 0, .slice none 0 0] 60)) w.heap.size nw nx bd nr F n S V (.slice a0 nr c0) (.slice a1 n c1) nt T X (.slice a2 nt c2) ∧ Blk2 ((w.alloc (.cells #[.int .i64 nw, .int .i64 nx, .int .i64 bd, .slice a0 nr c0, .slice a1 n c1, .slice a2 nt c2] 43)).alloc (.cells #[.int .i64 0, .slice none 0 0] 60)) (w.heap.size + 1) (.int .i64 0) (.slice none 0 0) ∧ Below w.heap.size w ((w.alloc (.cells #[.int .i64 nw, .int .i64 nx, .int .i64 bd, .slice a0 nr c0, .slice a1 n c1, .slice a2 nt c2] 43)).alloc (.cells #[.int .i64 0, .slice none 0 0] 60))) := ⟨⟨(Blk6.new w _ _ _ _ _ _ _).alloc _, ((h.mono (Nat.zero_le _)).alloc _).alloc _, ((hx.mono (Nat.zero_le _)).alloc _).alloc _⟩, by have := Blk2.new (w.alloc (.cells #[.int .i64 nw, .int .i64 nx, .int .i64 bd, .slice a0 nr c0, .slice a1 n c1, .slice a2 nt c2] 43)) (.int .i64 0) (.slice none 0 0) 60; simpa using this, (below_alloc _ _).alloc (by simp) _⟩
  clear h hx hm
  obtain ⟨f, E⟩ : ∃ f, Hid (worldF nw nx bd nr F n S nt T = f) := ⟨_, rfl⟩
  obtain ⟨⟨k0, k1, k2, k3, k4, k5⟩, _⟩ := H0.out.1.1
  rcases hA with ⟨h1, rfl, rfl⟩ | ⟨h1, hts, rfl, rfl⟩ | ⟨h1, hts, rfl, R, hR, hL⟩
  · rw [E.out] at h1
    have d : (f != 0) = true := bne_iff_ne.2 h1
    rw [E.out]
    clear h1
    go_enter Tryz.func48, Tryz.ntmps48
    go_wp2_with fail
    refine (implWorldFault_any nw nx bd nr F n S V _ _ nt T X _ 0 _ H0.out.1.2.1 H0.out.1.2.2 hr hn ht).mono ?_
    rw [E.out]
    rintro e w1 ⟨rfl, q1⟩
    have hb := H0.out.2.1.later q1
    have HB : Hid (Below w.heap.size w w1) := H0.out.2.2.trans (q1.mono (by simp; omega))
    obtain ⟨⟨b0, b1⟩, y0, y1⟩ := hb
    clear q1 H0 k0 k1 k2 k3 k4 k5
    go_wp2
    refine bodyPost_ret (v := .agg #[.int .i64 f, .slice none 0 0]) (by simp [results, Tryz.results48, go_sem, b0, b1]) rfl ?_
    exact res_noneD rfl ((HB.out.setCell (by simp) _).setCell (by simp) _)
  · obtain rfl : f = 0 := E.out.symm.trans h1
    clear h1
    go_enter Tryz.func48, Tryz.ntmps48
    go_wp2_with fail
    refine (implWorldFault_any nw nx bd nr F n S V _ _ nt T X _ 0 _ H0.out.1.2.1 H0.out.1.2.2 hr hn ht).mono ?_
    rw [E.out]
    rintro e w1 ⟨rfl, q1⟩
    have H1 : Hid (Blk2 w1 (w.heap.size + 1) (.int .i64 0) (.slice none 0 0) ∧ Below w.heap.size w w1) := ⟨H0.out.2.1.later q1, H0.out.2.2.trans (q1.mono (by simp; omega))⟩
    clear q1 H0 k0 k1 k2 k3 k4 k5
    obtain ⟨⟨b0, b1⟩, y0, y1⟩ := H1.out.1
    by_cases hneg : ts < 0
    · have d0 : decide (ts < 0) = true := decide_eq_true hneg
      clear hts hneg
      go_wp2
      refine bodyPost_ret (v := .agg #[.int .i64 3, .slice none 0 0]) (by simp [results, Tryz.results48, go_sem, b0, b1]) rfl ?_
      exact res_noneD rfl ((H1.out.2.setCell (by simp) _).setCell (by simp) _)
    · have d0 : decide (ts < 0) = false := decide_eq_false hneg
      have d1 : decide (ts > 100000) = true := decide_eq_true (by omega)
      have d1' : decide (100000 < ts) = true := decide_eq_true (by omega)
      clear hts hneg
      go_wp2
      refine bodyPost_ret (v := .agg #[.int .i64 3, .slice none 0 0]) (by simp [results, Tryz.results48, go_sem, b0, b1]) rfl ?_
      exact res_noneD rfl ((H1.out.2.setCell (by simp) _).setCell (by simp) _)
  · have Z := world_fine h1
    have ZG := groupsF_zero Z.1
    have ZK := world_kinds h1
    obtain rfl : f = 0 := E.out.symm.trans h1
    have d0 : decide (ts < 0) = false := decide_eq_false (by omega)
    have d1 : decide (ts > 100000) = false := decide_eq_false (by omega)
    have d1' : decide (100000 < ts) = false := decide_eq_false (by omega)
    have HR : Hid ((∀ i, i < nt → DoneAt n F S (T i) (R i)) ∧ modN T (donesL R nt) ts (donesL R nt).length = L) := ⟨by rw [ZG.2.1]; exact hR, hL⟩
    have HZ : Hid ((n = nr ∧ n ≤ 12) ∧ (∀ i, i < n → storeF (S i) = 0) ∧ nt ≤ 16 ∧ ∀ i, i < nt → 1 ≤ (T i).m ∧ (T i).m ≤ 12) := ⟨⟨ZG.2.1, by have := ZG.1.n6; have := ZG.2.1; omega⟩, fun i hi => (ZG.2.2.1 i hi).1, Z.2.1, fun i hi => (Z.2.2 i hi).1⟩
    clear hR hL h1 Z ZG ZK hts
    go_enter Tryz.func48, Tryz.ntmps48
    go_wp2_with fail
    refine (implWorldFault_any nw nx bd nr F n S V _ _ nt T X _ 0 _ H0.out.1.2.1 H0.out.1.2.2 hr hn ht).mono ?_
    rw [E.out]
    rintro e w1 ⟨rfl, q1⟩
    have H1 : Hid (LiesD w1 w.heap.size nw nx bd nr F n S V (.slice a0 nr c0) (.slice a1 n c1) nt T X (.slice a2 nt c2) ∧ Blk2 w1 (w.heap.size + 1) (.int .i64 0) (.slice none 0 0) ∧ Below w.heap.size w w1) := ⟨H0.out.1.later q1, H0.out.2.1.later q1, H0.out.2.2.trans (q1.mono (by simp; omega))⟩
    clear q1 H0 k0 k1 k2 k3 k4 k5
    obtain ⟨⟨k0, k1, k2, k3, k4, k5⟩, _⟩ := H1.out.1.1
    go_wp2_with fail
    refine (workOn_is nw nx bd nr F n S V _ _ nt T X _ 0 _ H1.out.1.2.1 H1.out.1.2.2 HZ.out.2.1 HZ.out.1.1 HZ.out.1.2 HZ.out.2.2.1 HZ.out.2.2.2).mono ?_
    rintro e w2 ⟨b, B2, g, P, Y, v, rfl, hW⟩
    have HD : Hid (DonE w2 b nw nx bd n F S g P w1.heap.size nt T Y v w2) := ⟨Below.refl _ _, hW.kb, hW.work, hW.txs.txs.mono (Nat.zero_le _)⟩
    have H2 : Hid (Blk2 w2 (w.heap.size + 1) (.int .i64 0) (.slice none 0 0) ∧ Below w.heap.size w w2) := ⟨H1.out.2.1.later hW.below, H1.out.2.2.trans (hW.below.mono H1.out.2.2.size)⟩
    clear hW H1 k0 k1 k2 k3 k4 k5
    go_wp2_with fail
    refine (model_is w2 b nw nx bd n F S g P w1.heap.size nt T Y v R ts HD.out HR.out.1 HZ.out.1.2 HZ.out.2.2.1 HZ.out.2.2.2 L HR.out.2).mono ?_
    rintro e w4 ⟨rfl, ⟨lo, hlo, rv, hbx, hr2⟩, q4⟩
    obtain ⟨ro, rc, rfl⟩ := hr2.form
    have HO : Hid (Own w4 w2.heap.size 144 2 L.length (rowL L) (.slice ro L.length rc) ∧ Below w.heap.size w w4) := ⟨hr2.mono (by omega), H2.out.2.trans (q4.mono H2.out.2.size)⟩
    have hbw : w.heap.size + 1 < w2.heap.size := H2.out.1.lt
    obtain ⟨⟨x0, x1⟩, z0, z1⟩ := H2.out.1.later q4
    obtain ⟨⟨v0, v1⟩, _, _⟩ := hbx
    clear hr2 q4 hlo
    obtain ⟨LN, hLN⟩ : ∃ LN, L.length = LN := ⟨_, rfl⟩
    have HLN : Hid (L.length = LN) := hLN
    rw [hLN] at HO ⊢
    rw [hLN] at v0
    clear hLN
    go_wp2
    refine bodyPost_ret (v := .agg #[.int .i64 0, .slice ro LN rc]) (by simp [results, Tryz.results48, go_sem, x0, x1]) rfl ?_
    rw [HLN.out]
    refine ⟨ro, rc, rfl, ?_, ?_, ?_⟩
    · exact ((HO.out.1.row.1.far (Or.inl (by simp; omega)) _).far (Or.inl (by simp; omega)) _).mono (by omega)
    · exact (HO.out.1.row.2.far _ _).far _ _
    · exact (HO.out.2.setCell (by simp) _).setCell (by simp) _
end Go.Proofs.YtpodcnmiaacndaaGreat

namespace Go.Proofs.YtpodcnmiaacndaaGreat
open Go.RowKit

/-- What ViewOf answers: a code and a list. -/
def VwAns (nw nx bd : Int) (nr : Nat) (F : Nat → Int) (n : Nat) (S : Nat → Sto) (nt : Nat) (T : Nat → Tx) (nq : Nat) (R : Nat → Int) (c : Int) (L : Prs) : Prop :=
  (fsW nw nx bd nr F n S nt T nq R ≠ 0 ∧ c = fsW nw nx bd nr F n S nt T nq R ∧ L = []) ∨
  (fsW nw nx bd nr F n S nt T nq R = 0 ∧ c = 0 ∧ ∃ D, (∀ i, i < nt → DoneAt nr F S (T i) (D i)) ∧ modN T (donesL D nt) 100000 (donesL D nt).length = L)
theorem VwAns.get (nw nx bd : Int) (nr : Nat) (F : Nat → Int) (n : Nat) (S : Nat → Sto) (nt : Nat) (T : Nat → Tx) (nq : Nat) (R : Nat → Int) : ∃ c L, L.length ≤ 192 ∧ VwAns nw nx bd nr F n S nt T nq R c L := by
  by_cases h : fsW nw nx bd nr F n S nt T nq R = 0
  · have hw := (fsW_zero h).1
    have Z := world_fine hw
    obtain ⟨D, hD⟩ := world_dones hw
    have hl := Nat.le_trans (donesL_len D nt) Z.2.1
    exact ⟨0, _, Nat.le_trans (modN_len (donesL_places D nt) (fun i hi => (Z.2.2 i hi).1.2) _ (Nat.le_refl _)) (by omega), Or.inr ⟨h, rfl, D, hD, rfl⟩⟩
  · exact ⟨_, [], by simp, Or.inl ⟨h, rfl, rfl⟩⟩
set_option maxRecDepth 100000 in
set_option maxHeartbeats 4000000 in
theorem specViewOf_is (nw nx bd : Int) (nr : Nat) (F : Nat → Int) (n : Nat) (S : Nat → Sto) (V : Nat → Nat → Value) (vr vs : Value) (nt : Nat) (T : Nat → Tx) (X : Nat → Value) (vt : Value) (nq : Nat) (R : Nat → Int) (vq : Value) (B : Nat) (c : Int) (L : Prs) (w : World) (h : Grs w B nr F n S V vr vs) (hx : Txs w B nt T X vt) (hq : Row w B 10 nq R vq) (hr : nr ≤ 9223372036854775807) (hn : n ≤ 9223372036854775807) (ht : nt ≤ 9223372036854775807) (hnq : nq ≤ 9223372036854775807) (hm : ∀ i, i < nt → (T i).m ≤ 9223372036854775807) (hA : VwAns nw nx bd nr F n S nt T nq R c L) :
    Calls Tryz.prog 20 #[.agg #[.int .i64 nw, .int .i64 nx, .int .i64 bd, vr, vs, vt, vq]] w (ResRow 2 w c L.length (rowL L)) := by
  obtain ⟨a0, c0, a1, c1, rfl, rfl⟩ := h.form
  obtain ⟨a2, c2, rfl⟩ := hx.form
  obtain ⟨a3, c3, rfl⟩ := hq.form
  have H0 : Hid (LiesF ((w.alloc (.cells #[.int .i64 nw, .int .i64 nx, .int .i64 bd, .slice a0 nr c0, .slice a1 n c1, .slice a2 nt c2, .slice a3 nq c3] 46)).alloc (.cells #[.int .i64 0, .slice none 0 0] 60)) w.heap.size nw nx bd nr F n S V (.slice a0 nr c0) (.slice a1 n c1) nt T X (.slice a2 nt c2) nq R (.slice a3 nq c3) ∧ Blk2 ((w.alloc (.cells #[.int .i64 nw, .int .i64 nx, .int .i64 bd, .slice a0 nr c0, .slice a1 n c1, .slice a2 nt c2, .slice a3 nq c3] 46)).alloc (.cells #[.int .i64 0, .slice none 0 0] 60)) (w.heap.size + 1) (.int .i64 0) (.slice none 0 0) ∧ Below w.heap.size w ((w.alloc (.cells #[.int .i64 nw, .int .i64 nx, .int .i64 bd, .slice a0 nr c0, .slice a1 n c1, .slice a2 nt c2, .slice a3 nq c3] 46)).alloc (.cells #[.int .i64 0, .slice none 0 0] 60))) := by
    have k := Blk2.new (w.alloc (.cells #[.int .i64 nw, .int .i64 nx, .int .i64 bd, .slice a0 nr c0, .slice a1 n c1, .slice a2 nt c2, .slice a3 nq c3] 46)) (.int .i64 0) (.slice none 0 0) 60
    rw [World.size_alloc] at k
    exact ⟨LiesF.later ⟨Blk7F.new w _ _ _ _ _ _ _ _, (h.mono (Nat.zero_le _)).alloc _, (hx.mono (Nat.zero_le _)).alloc _, (hq.mono (Nat.zero_le _)).later (below_alloc _ _)⟩ (below_alloc _ _), k, (below_alloc _ _).alloc (by simp) _⟩
  have HM : Hid (∀ i, i < nt → (T i).m ≤ 9223372036854775807) := hm
  clear h hx hm hq
  obtain ⟨f, E⟩ : ∃ f, Hid (fsW nw nx bd nr F n S nt T nq R = f) := ⟨_, rfl⟩
  rcases hA with ⟨h1, rfl, rfl⟩ | ⟨h1, rfl, D, hD, hL⟩
  · rw [E.out] at h1
    have d : (f != 0) = true := bne_iff_ne.2 h1
    rw [E.out]
    clear h1
    go_enter Tryz.func20, Tryz.ntmps20
    go_wp2_with fail
    refine (l15Fault_any _ nw nx bd nr F n S V _ _ nt T X _ nq R _ _ H0.out.1 hr hn ht hnq HM.out).mono ?_
    rw [E.out]
    rintro e w1 ⟨rfl, q1⟩
    have hb := H0.out.2.1.later q1
    have HB : Hid (Below w.heap.size w w1) := H0.out.2.2.trans (q1.mono (by simp; omega))
    obtain ⟨⟨b0, b1⟩, y0, y1⟩ := hb
    clear q1 H0
    go_wp2
    refine bodyPost_ret (v := .agg #[.int .i64 f, .slice none 0 0]) (by simp [results, Tryz.results20, go_sem, b0, b1]) rfl ?_
    exact res_noneD rfl ((HB.out.setCell (by simp) _).setCell (by simp) _)
  · have hw := (fsW_zero h1).1
    have Z := world_fine hw
    have ZG := groupsF_zero Z.1
    have ZK := world_kinds hw
    obtain rfl : f = 0 := E.out.symm.trans h1
    have HR : Hid ((∀ i, i < nt → DoneAt nr F S (T i) (D i)) ∧ modN T (donesL D nt) 100000 (donesL D nt).length = L) := ⟨hD, hL⟩
    have HZ : Hid ((nr ≤ 6 ∧ n = nr) ∧ (∀ i, i < n → (S i).nl ≤ 200 ∧ (S i).nw ≤ 200) ∧ nt ≤ 16 ∧ (∀ i, i < nt → 1 ≤ (T i).m ∧ (T i).m ≤ 12) ∧ ∀ i, i < nt → ∀ k, k < (T i).m → 1 ≤ (T i).L (k * 3 + 1) ∧ (T i).L (k * 3 + 1) ≤ 3) := ⟨⟨ZG.1.n6, ZG.2.1⟩, fun i hi => (storeF_zero (ZG.2.2.1 i hi).1).1.2, Z.2.1, fun i hi => (Z.2.2 i hi).1, ZK⟩
    clear hD hL h1 Z ZG ZK hw
    go_enter Tryz.func20, Tryz.ntmps20
    go_wp2_with fail
    refine (l15Fault_any _ nw nx bd nr F n S V _ _ nt T X _ nq R _ _ H0.out.1 hr hn ht hnq HM.out).mono ?_
    rw [E.out]
    rintro e w1 ⟨rfl, q1⟩
    have H1 : Hid (LiesF w1 w.heap.size nw nx bd nr F n S V (.slice a0 nr c0) (.slice a1 n c1) nt T X (.slice a2 nt c2) nq R (.slice a3 nq c3) ∧ Blk2 w1 (w.heap.size + 1) (.int .i64 0) (.slice none 0 0) ∧ Below w.heap.size w w1) := ⟨H0.out.1.later q1, H0.out.2.1.later q1, H0.out.2.2.trans (q1.mono (by simp; omega))⟩
    clear q1 H0
    go_wp2_with fail
    refine (l11Model_is _ nw nx bd nr F n S V _ _ nt T X _ D 100000 _ H1.out.1.world HZ.out.1.1 HZ.out.1.2 HZ.out.2.1 HZ.out.2.2.1 HZ.out.2.2.2.1 HZ.out.2.2.2.2 HR.out.1 L HR.out.2).mono ?_
    rintro e w4 ⟨ro, rc, rfl, hr2, q4⟩
    have HO : Hid (Own w4 w1.heap.size 144 2 L.length (rowL L) (.slice ro L.length rc) ∧ Below w.heap.size w w4) := ⟨hr2, H1.out.2.2.trans (q4.mono H1.out.2.2.size)⟩
    have hbw : w.heap.size + 1 < w1.heap.size := H1.out.2.1.lt
    obtain ⟨⟨x0, x1⟩, z0, z1⟩ := H1.out.2.1.later q4
    clear hr2 q4
    obtain ⟨LN, hLN⟩ : ∃ LN, L.length = LN := ⟨_, rfl⟩
    have HLN : Hid (L.length = LN) := hLN
    rw [hLN] at HO ⊢
    clear hLN
    go_wp2
    refine bodyPost_ret (v := .agg #[.int .i64 0, .slice ro LN rc]) (by simp [results, Tryz.results20, go_sem, x0, x1]) rfl ?_
    rw [HLN.out]
    refine ⟨ro, rc, rfl, ?_, ?_, ?_⟩
    · exact ((HO.out.1.row.1.far (Or.inl (by simp; omega)) _).far (Or.inl (by simp; omega)) _).mono (by omega)
    · exact (HO.out.1.row.2.far _ _).far _ _
    · exact (HO.out.2.setCell (by simp) _).setCell (by simp) _
set_option maxRecDepth 100000 in
set_option maxHeartbeats 4000000 in
theorem implViewOf_is (nw nx bd : Int) (nr : Nat) (F : Nat → Int) (n : Nat) (S : Nat → Sto) (V : Nat → Nat → Value) (vr vs : Value) (nt : Nat) (T : Nat → Tx) (X : Nat → Value) (vt : Value) (nq : Nat) (R : Nat → Int) (vq : Value) (B : Nat) (c : Int) (L : Prs) (w : World) (h : Grs w B nr F n S V vr vs) (hx : Txs w B nt T X vt) (hq : Row w B 10 nq R vq) (hr : nr ≤ 9223372036854775807) (hn : n ≤ 9223372036854775807) (ht : nt ≤ 9223372036854775807) (hnq : nq ≤ 9223372036854775807) (hm : ∀ i, i < nt → (T i).m ≤ 9223372036854775807) (hA : VwAns nw nx bd nr F n S nt T nq R c L) :
    Calls Tryz.prog 21 #[.agg #[.int .i64 nw, .int .i64 nx, .int .i64 bd, vr, vs, vt, vq]] w (ResRow 2 w c L.length (rowL L)) := by
  obtain ⟨a0, c0, a1, c1, rfl, rfl⟩ := h.form
  obtain ⟨a2, c2, rfl⟩ := hx.form
  obtain ⟨a3, c3, rfl⟩ := hq.form
  have H0 : Hid (LiesF ((w.alloc (.cells #[.int .i64 nw, .int .i64 nx, .int .i64 bd, .slice a0 nr c0, .slice a1 n c1, .slice a2 nt c2, .slice a3 nq c3] 46)).alloc (.cells #[.int .i64 0, .slice none 0 0] 60)) w.heap.size nw nx bd nr F n S V (.slice a0 nr c0) (.slice a1 n c1) nt T X (.slice a2 nt c2) nq R (.slice a3 nq c3) ∧ Blk2 ((w.alloc (.cells #[.int .i64 nw, .int .i64 nx, .int .i64 bd, .slice a0 nr c0, .slice a1 n c1, .slice a2 nt c2, .slice a3 nq c3] 46)).alloc (.cells #[.int .i64 0, .slice none 0 0] 60)) (w.heap.size + 1) (.int .i64 0) (.slice none 0 0) ∧ Below w.heap.size w ((w.alloc (.cells #[.int .i64 nw, .int .i64 nx, .int .i64 bd, .slice a0 nr c0, .slice a1 n c1, .slice a2 nt c2, .slice a3 nq c3] 46)).alloc (.cells #[.int .i64 0, .slice none 0 0] 60))) := by
    have k := Blk2.new (w.alloc (.cells #[.int .i64 nw, .int .i64 nx, .int .i64 bd, .slice a0 nr c0, .slice a1 n c1, .slice a2 nt c2, .slice a3 nq c3] 46)) (.int .i64 0) (.slice none 0 0) 60
    rw [World.size_alloc] at k
    exact ⟨LiesF.later ⟨Blk7F.new w _ _ _ _ _ _ _ _, (h.mono (Nat.zero_le _)).alloc _, (hx.mono (Nat.zero_le _)).alloc _, (hq.mono (Nat.zero_le _)).later (below_alloc _ _)⟩ (below_alloc _ _), k, (below_alloc _ _).alloc (by simp) _⟩
  have HM : Hid (∀ i, i < nt → (T i).m ≤ 9223372036854775807) := hm
  clear h hx hm hq
  obtain ⟨f, E⟩ : ∃ f, Hid (fsW nw nx bd nr F n S nt T nq R = f) := ⟨_, rfl⟩
  obtain ⟨⟨k0, k1, k2, k3, k4, k5, k6⟩, _⟩ := H0.out.1.1
  rcases hA with ⟨h1, rfl, rfl⟩ | ⟨h1, rfl, D, hD, hL⟩
  · rw [E.out] at h1
    have d : (f != 0) = true := bne_iff_ne.2 h1
    rw [E.out]
    clear h1
    go_enter Tryz.func21, Tryz.ntmps21
    go_wp2_with fail
    refine (implFsWorldFault_any nw nx bd nr F n S V _ _ nt T X _ nq R _ 0 _ H0.out.1.2.1 H0.out.1.2.2.1 H0.out.1.2.2.2 hr hn ht hnq).mono ?_
    rw [E.out]
    rintro e w1 ⟨rfl, q1⟩
    have hb := H0.out.2.1.later q1
    have HB : Hid (Below w.heap.size w w1) := H0.out.2.2.trans (q1.mono (by simp; omega))
    obtain ⟨⟨b0, b1⟩, y0, y1⟩ := hb
    clear q1 H0 k0 k1 k2 k3 k4 k5 k6
    go_wp2
    refine bodyPost_ret (v := .agg #[.int .i64 f, .slice none 0 0]) (by simp [results, Tryz.results21, go_sem, b0, b1]) rfl ?_
    exact res_noneD rfl ((HB.out.setCell (by simp) _).setCell (by simp) _)
  · have HA : Hid (MoAns nw nx bd nr F n S nt T 100000 0 L) := Or.inr (Or.inr ⟨(fsW_zero h1).1, ⟨by decide, by decide⟩, rfl, D, hD, hL⟩)
    obtain rfl : f = 0 := E.out.symm.trans h1
    clear hD hL h1
    go_enter Tryz.func21, Tryz.ntmps21
    go_wp2_with fail
    refine (implFsWorldFault_any nw nx bd nr F n S V _ _ nt T X _ nq R _ 0 _ H0.out.1.2.1 H0.out.1.2.2.1 H0.out.1.2.2.2 hr hn ht hnq).mono ?_
    rw [E.out]
    rintro e w1 ⟨rfl, q1⟩
    clear k0 k1 k2 k3 k4 k5 k6
    have H1 : Hid (LiesF w1 w.heap.size nw nx bd nr F n S V (.slice a0 nr c0) (.slice a1 n c1) nt T X (.slice a2 nt c2) nq R (.slice a3 nq c3) ∧ Blk2 w1 (w.heap.size + 1) (.int .i64 0) (.slice none 0 0) ∧ Below w.heap.size w w1) := ⟨H0.out.1.later q1, H0.out.2.1.later q1, H0.out.2.2.trans (q1.mono (by simp; omega))⟩
    clear q1 H0
    obtain ⟨⟨k0, k1, k2, k3, k4, k5, k6⟩, _⟩ := H1.out.1.1
    go_wp2_with fail
    refine (implModelAt_is nw nx bd nr F n S V _ _ nt T X _ 100000 0 0 L _ H1.out.1.2.1 H1.out.1.2.2.1 hr hn ht HM.out HA.out).mono ?_
    rintro e w4 ⟨ro, rc, rfl, hr2, hf2, q4⟩
    have HO : Hid (Row w4 w1.heap.size 2 L.length (rowL L) (.slice ro L.length rc) ∧ Free w4 (L.length * 2) (.slice ro L.length rc) ∧ Below w.heap.size w w4) := ⟨hr2, hf2, H1.out.2.2.trans (q4.mono H1.out.2.2.size)⟩
    have hbw : w.heap.size + 1 < w1.heap.size := H1.out.2.1.lt
    obtain ⟨⟨x0, x1⟩, z0, z1⟩ := H1.out.2.1.later q4
    clear hr2 hf2 q4 k0 k1 k2 k3 k4 k5 k6
    obtain ⟨LN, hLN⟩ : ∃ LN, L.length = LN := ⟨_, rfl⟩
    have HLN : Hid (L.length = LN) := hLN
    rw [hLN] at HO ⊢
    clear hLN
    go_wp2
    refine bodyPost_ret (v := .agg #[.int .i64 0, .slice ro LN rc]) (by simp [results, Tryz.results21, go_sem, x0, x1]) rfl ?_
    rw [HLN.out]
    refine ⟨ro, rc, rfl, ?_, ?_, ?_⟩
    · exact ((HO.out.1.far (Or.inl (by simp; omega)) _).far (Or.inl (by simp; omega)) _).mono (by omega)
    · exact (HO.out.2.1.far _ _).far _ _
    · exact (HO.out.2.2.setCell (by simp) _).setCell (by simp) _
end Go.Proofs.YtpodcnmiaacndaaGreat

namespace Go.Proofs.YtpodcnmiaacndaaGreat
open Go.RowKit

def markX (T : Nat → Tx) (i : Nat) : Nat := 5 + (T i).m * 3
theorem markX_le (T : Nat → Tx) : ∀ n, sumN (markX T) n ≤ 5 * n + 3 * sumN (sizeX T) n
  | 0 => by simp [sumN]
  | n + 1 => by
    have := markX_le T n
    show sumN (markX T) n + markX T n ≤ 5 * (n + 1) + 3 * (sumN (sizeX T) n + sizeX T n)
    unfold markX sizeX at *
    omega
theorem Fil.over {w : World} {g N : Nat} {X : Nat → Value} {D : Nat → Prop} (h : Fil w g N X D) {p : Nat} (hp : p < N) (hd : ¬ D p) (v : Value) : Fil (w.setCell ⟨g, p, none⟩ v) g N X D := by
  obtain ⟨u, hu⟩ := (h.2 p hp).1.1
  have same : (w.setCell ⟨g, p, none⟩ v).cell? ⟨g, p, none⟩ = some v := World.cell?_setCell_same _ _ _ hu
  have other : ∀ q, q ≠ p → (w.setCell ⟨g, p, none⟩ v).cell? ⟨g, q, none⟩ = w.cell? ⟨g, q, none⟩ := fun q hq => World.cell?_setCell_other _ _ _ _ (fun e => hq (congrArg Addr.off e).symm)
  refine ⟨by simpa [World.setCell] using h.1, fun q hq => ⟨⟨?_, by simp only [World.frozen?_setCell]; exact (h.2 q hq).1.2⟩, fun d => ?_⟩⟩
  · by_cases e : q = p
    · subst e; exact ⟨_, same⟩
    · rw [other q e]; exact (h.2 q hq).1.1
  · by_cases e : q = p
    · subst e; exact absurd d hd
    · rw [other q e]; exact (h.2 q hq).2 d
theorem Fil.within {w w' : World} {g N B E : Nat} {X : Nat → Value} {D : Nat → Prop} (h : Fil w g N X D) (hw : Within B E w w') (hg : g < B ∨ E ≤ g) : Fil w' g N X D := by
  have hb := hw.block g h.1 hg
  refine ⟨Nat.lt_of_lt_of_le h.1 hw.size, fun p hp => ?_⟩
  rw [World.cell?_of_block (w := w) (a := ⟨g, p, none⟩) hb, World.frozen?_of_block (w := w) (a := ⟨g, p, none⟩) hb]
  exact h.2 p hp
theorem FineT.up {w : World} {z : Nat → Nat} {n : Nat} {T : Nat → Tx} {U : Nat → Value} (h : FineT w z n T U) : ∀ j, j ≤ n → ∀ i, i ≤ j → z i ≤ z j
  | 0, _, i, hi => by obtain rfl : i = 0 := by omega
                      exact Nat.le_refl _
  | j + 1, hj, i, hi => by
    by_cases q : i = j + 1
    · subst q; exact Nat.le_refl _
    · exact Nat.le_trans (h.up j (by omega) i (by omega)) (h j (by omega)).2.2
/-- What stands while transactions are numbered: the items of those from k on, and where they lie. -/
def MarkE (w : World) (g n : Nat) (T : Nat → Tx) (U : Nat → Value) (z : Nat → Nat) (k : Nat) (x : World) : Prop :=
  Fil x g (n * 6) (fun p => U (p / 6)) (fun p => p % 6 = 5) ∧ (∀ i, k ≤ i → i < n → Row x (z i) 3 (T i).m (T i).L (U i) ∧ Free x ((T i).m * 3) (U i)) ∧ Within g (z n) w x
theorem MarkE.over {w x : World} {g n : Nat} {T : Nat → Tx} {U : Nat → Value} {z : Nat → Nat} {k : Nat} (h : MarkE w g n T U z k x) (hz : ∀ i, i ≤ n → g < z i) {p : Nat} (hp : p < n * 6) (hd : p % 6 ≠ 5) (v : Value) : MarkE w g n T U z k (x.setCell ⟨g, p, none⟩ v) := by
  refine ⟨h.1.over hp hd v, fun i hi hn => ⟨(h.2.1 i hi hn).1.far (Or.inl (hz i (by omega))) v, (h.2.1 i hi hn).2.far _ _⟩, h.2.2.trans ⟨rfl, rfl, rfl, by simp [World.setCell], fun q hq ho => Below.heap_setCell x _ v q ?_⟩⟩
  have := hz n (Nat.le_refl _)
  show q ≠ g
  omega
theorem MarkE.over5 {w x : World} {g n : Nat} {T : Nat → Tx} {U : Nat → Value} {z : Nat → Nat} {k : Nat} (h : MarkE w g n T U z k x) (hz : ∀ i, i ≤ n → g < z i) (hk : k < n) (v0 v1 v2 v3 v4 : Value) :
    MarkE w g n T U z k (((((x.setCell ⟨g, k * 6, none⟩ v0).setCell ⟨g, k * 6 + 1, none⟩ v1).setCell ⟨g, k * 6 + 2, none⟩ v2).setCell ⟨g, k * 6 + 3, none⟩ v3).setCell ⟨g, k * 6 + 4, none⟩ v4) :=
  ((((h.over hz (by omega) (by omega) v0).over hz (by omega) (by omega) v1).over hz (by omega) (by omega) v2).over hz (by omega) (by omega) v3).over hz (by omega) (by omega) v4
theorem MarkE.next {w x x1 : World} {g n : Nat} {T : Nat → Tx} {U : Nat → Value} {z : Nat → Nat} {k : Nat} (h : MarkE w g n T U z k x) (hz : ∀ i, i ≤ n → g < z i) (hf : FineT w z n T U) (hk : k < n) (hw : Within (z k) (z (k + 1)) x x1) : MarkE w g n T U z (k + 1) x1 := by
  refine ⟨h.1.within hw (Or.inl (hz k (by omega))), fun i hi hn => ?_, h.2.2.trans (hw.mono (Nat.le_of_lt (hz k (by omega))) (hf.up n (Nat.le_refl _) (k + 1) hk))⟩
  have ho : 0 < (T i).m → ∀ q, (U i).ownBlock = some q → q < z k ∨ z (k + 1) ≤ q := fun h0 q hq => Or.inr (by
    have h1 := (hf i hn).2.1 h0 q hq
    have h2 := hf.up i (by omega) (k + 1) hi
    omega)
  exact ⟨(h.2.1 i (by omega) hn).1.within hw ho, (h.2.1 i (by omega) hn).2.within (h.2.1 i (by omega) hn).1 hw ho⟩
set_option maxRecDepth 100000 in
set_option maxHeartbeats 8000000 in
theorem markTxnS_any (n cp g : Nat) (T : Nat → Tx) (U : Nat → Value) (z : Nat → Nat) (k0 : Int) (w : World) (hF : FillT w g n n T U) (hf : FineT w z n T U) (hz : ∀ i, i ≤ n → g < z i) (hs : ∀ i, i < n → (T i).m ≤ 1048576) (ht : sumN (sizeX T) n ≤ 1048576) (h0 : 0 ≤ k0) (h1 : k0 ≤ 20000000) (hn : n ≤ 1048576) :
    Calls Tryz.prog 82 #[.slice (some ⟨g, 0, none⟩) n cp, .int .i64 k0] w fun e w' => e = .returned (.int .i64 (k0 + (sumN (markX T) n : Nat))) ∧ Within g (z n) w w' := by
  have HZ : Hid ((∀ i, i ≤ n → g < z i) ∧ FineT w z n T U) := ⟨hz, hf⟩
  have HN : Hid ((∀ i, i < n → (T i).m ≤ 1048576) ∧ ∀ k, k ≤ n → sumN (markX T) k ≤ 8388608) := ⟨hs, fun k hk => by have := sum_mono (markX T) hk; have := markX_le T n; omega⟩
  have HM : Hid (MarkE w g n T U z 0 w) := ⟨Fil.congr hF (fun p hp d => ⟨by omega, by
    show txV (T (p / 6)) (U (p / 6)) (p % 6) = U (p / 6)
    rw [d]
    rfl⟩), fun i _ hi => ⟨(hf i hi).1.1, (hf i hi).1.2.1⟩, Within.refl _ _ _⟩
  clear hF hf hz hs ht
  go_enter Tryz.func82, Tryz.ntmps82
  go_wp2
  go_loopw [1, 5] (fun j i wr => ∃ (k c : Nat), k ≤ n ∧ j = .int .i64 (k0 + (c : Nat)) ∧ i = .int .i64 k ∧ Hid (c = sumN (markX T) k) ∧ Hid (MarkE w g n T U z k wr)) (fun _ i _ => n - (intOf i).toNat)
  case atStart => exact ⟨0, 0, Nat.zero_le _, by simp, rfl, rfl, HM⟩
  case round =>
    clear HM
    obtain ⟨k, c, hk, rfl, rfl, HC, HR⟩ := hrel
    have hcb : c ≤ 8388608 := by rw [HC.out]; exact HN.out.2 k hk
    by_cases hlt : k < n
    · obtain ⟨⟨⟨x0, y0⟩, f0⟩, _⟩ := HR.out.1.2 (k * 6) (by omega)
      obtain ⟨⟨⟨x1, y1⟩, f1⟩, _⟩ := HR.out.1.2 (k * 6 + 1) (by omega)
      obtain ⟨⟨⟨x2, y2⟩, f2⟩, _⟩ := HR.out.1.2 (k * 6 + 2) (by omega)
      obtain ⟨⟨⟨x3, y3⟩, f3⟩, _⟩ := HR.out.1.2 (k * 6 + 3) (by omega)
      obtain ⟨⟨⟨x4, y4⟩, f4⟩, _⟩ := HR.out.1.2 (k * 6 + 4) (by omega)
      have y5 := (HR.out.1.2 (k * 6 + 5) (by omega)).2 (by omega)
      simp only [show (k * 6 + 5) / 6 = k by omega] at y5
      obtain ⟨uo, uc, hU⟩ := (HR.out.2.1 k (Nat.le_refl _) hlt).1.form
      have hm := HN.out.1 k hlt
      obtain ⟨m, hmm⟩ : ∃ m, (T k).m = m := ⟨_, rfl⟩
      rw [hU, hmm] at y5
      rw [hmm] at hm
      have HU : Hid (U k = .slice uo m uc ∧ (T k).m = m) := ⟨by rw [hU, hmm], hmm⟩
      clear hU hmm
      have HM5 : Hid (∀ v0 v1 v2 v3 v4, MarkE w g n T U z k (((((wr.setCell ⟨g, k * 6, none⟩ v0).setCell ⟨g, k * 6 + 1, none⟩ v1).setCell ⟨g, k * 6 + 2, none⟩ v2).setCell ⟨g, k * 6 + 3, none⟩ v3).setCell ⟨g, k * 6 + 4, none⟩ v4)) := fun v0 v1 v2 v3 v4 => HR.out.over5 HZ.out.1 hlt v0 v1 v2 v3 v4
      have HIT : Hid (∀ v0 v1 v2 v3 v4, Row (((((wr.setCell ⟨g, k * 6, none⟩ v0).setCell ⟨g, k * 6 + 1, none⟩ v1).setCell ⟨g, k * 6 + 2, none⟩ v2).setCell ⟨g, k * 6 + 3, none⟩ v3).setCell ⟨g, k * 6 + 4, none⟩ v4) (z k) 3 m (T k).L (.slice uo m uc) ∧ Free (((((wr.setCell ⟨g, k * 6, none⟩ v0).setCell ⟨g, k * 6 + 1, none⟩ v1).setCell ⟨g, k * 6 + 2, none⟩ v2).setCell ⟨g, k * 6 + 3, none⟩ v3).setCell ⟨g, k * 6 + 4, none⟩ v4) (m * 3) (.slice uo m uc)) := fun v0 v1 v2 v3 v4 => by
        have := (HM5.out v0 v1 v2 v3 v4).2.1 k (Nat.le_refl _) hlt
        rw [HU.out.1, HU.out.2] at this
        exact this
      have HOW : Hid (0 < m → ∀ q, (Value.slice uo m uc).ownBlock = some q → z k ≤ q ∧ q < z (k + 1)) := by
        have := (HZ.out.2 k hlt).2.1
        rw [HU.out.1, HU.out.2] at this
        exact this
      have HC1 : Hid (c + 5 + m * 3 = sumN (markX T) (k + 1)) := by
        unfold Hid
        show _ = sumN (markX T) k + (5 + (T k).m * 3)
        rw [HC.out, HU.out.2]
        omega
      go_wp2_with fail
      refine (markItemS_turn _ (z k) m (T k).L _ _ (HIT.out _ _ _ _ _).1 (HIT.out _ _ _ _ _).2 hm (by omega) (by omega)).mono ?_
      rintro e w1 ⟨rfl, _, _, g1⟩
      have HM1 : Hid (MarkE w g n T U z (k + 1) w1) := (HM5.out _ _ _ _ _).next HZ.out.1 HZ.out.2 hlt (Within.of g1 (fun b q => by obtain ⟨h0, h1⟩ := turn_eq q; exact HOW.out h0 b h1))
      clear g1 HIT HM5 HR y0 y1 y2 y3 y4 y5 f0 f1 f2 f3 f4
      go_wp2
      go_roundw
      case rel => exact ⟨k + 1, c + 5 + m * 3, by omega, by congr 1; push_cast; omega, by go_num, HC1, HM1⟩
      case measure => simp [intOf]; omega
    · obtain rfl : k = n := by omega
      go_wp2
      go_ret
      exact ⟨by rw [HC.out]; rfl, HR.out.2.2⟩
end Go.Proofs.YtpodcnmiaacndaaGreat

namespace Go.Proofs.YtpodcnmiaacndaaGreat
open Go.RowKit

set_option maxHeartbeats 2000000 in
theorem markGroups_lim (nr : Nat) (F : Nat → Int) (n : Nat) (S : Nat → Sto) (ra : Option Addr) (rc g : Nat) (U : Nat → Nat → Value) (z : Nat → Nat) (lo : Nat) (w : World) (h : FineG w lo nr F n S ra rc g U z) (hr : nr ≤ 1048576) (hn : n ≤ 1048576) (hs : ∀ i, i < n → SmallS (S i)) (ht : sumN (sizeT S) n ≤ 1048576) :
    Calls Tryz.prog 81 #[.agg #[.slice ra nr rc, .slice (some ⟨g, 0, none⟩) n n], .int .i64 1] w fun e w' => ∃ k : Int, (0 ≤ k ∧ k ≤ 20000000) ∧ e = .returned (.int .i64 k) ∧ Within lo (z n) w w' := by
  have H : Hid (FineG w lo nr F n S ra rc g U z) := h
  have HN : Hid ((∀ i, i < n → SmallS (S i)) ∧ sumN (sizeT S) n ≤ 1048576) := ⟨hs, ht⟩
  clear h hs ht
  have hb2 := Blk2.new w (.slice ra nr rc) (.slice (some ⟨g, 0, none⟩) n n) 40
  have HB : Hid (Blk2 (w.alloc (.cells #[.slice ra nr rc, .slice (some ⟨g, 0, none⟩) n n] 40)) w.heap.size (.slice ra nr rc) (.slice (some ⟨g, 0, none⟩) n n)) := hb2
  clear hb2
  go_enter Tryz.func81, Tryz.ntmps81
  go_wp2_with fail
  refine (markRangeS_turn _ lo nr F 1 _ (H.out.1.1.alloc _) (H.out.1.2.1.ofRow H.out.1.1 (below_alloc _ _)) hr (by omega) (by omega)).mono ?_
  rintro e w1 ⟨rfl, _, _, g1⟩
  have hzn : g < z n := H.out.2.2.2.2.2.1 n (Nat.le_refl _)
  have hz0 : z 0 = g + 1 := H.out.2.2.2.2.1
  have hzs : z n ≤ w.heap.size := H.out.2.2.2.2.2.2
  have W1 : Hid (Within lo (g + 1) (w.alloc (.cells #[.slice ra nr rc, .slice (some ⟨g, 0, none⟩) n n] 40)) w1) := Within.of g1 (fun b q => by obtain ⟨h0, h1⟩ := turn_eq q; exact ⟨(H.out.1.1.lt h0 b h1).1, by have := H.out.1.2.2 h0 b h1; omega⟩)
  have g1b := g1.block w.heap.size (by simp) (fun q => by obtain ⟨h0, h1⟩ := turn_eq q.symm; have := (H.out.1.1.lt h0 _ h1).2; omega)
  have HB1 : Hid (Blk2 w1 w.heap.size (.slice ra nr rc) (.slice (some ⟨g, 0, none⟩) n n)) := HB.out.kept g1b
  have gg : w1.heap[g]? = w.heap[g]? := by
    have h1 := g1.block g (by have := H.out.2.2.1.1; simp; omega) (fun q => by obtain ⟨h0, h1⟩ := turn_eq q.symm; have := H.out.1.2.2 h0 _ h1; omega)
    exact h1.trans ((below_alloc w _).block g H.out.2.2.1.1)
  have FL : Hid (FillS w1 g n n U) := H.out.2.2.1.kept (Nat.le_trans (by simp) g1.size) gg
  have FI : Hid (Fine w1 z n S U) := fun i hi => by
    obtain ⟨⟨x1, x2, x3⟩, x4, x5⟩ := (H.out.2.2.2.1.later (below_alloc w (.cells #[.slice ra nr rc, .slice (some ⟨g, 0, none⟩) n n] 40))) i hi
    have ho : OwnIn (S i) (U i 0) (U i 1) (U i 2) (fun j => j < lo ∨ g + 1 ≤ j) := x4.mono (fun j hj => Or.inr (by have := H.out.2.2.2.1.up i (by omega) 0 (Nat.zero_le _); omega))
    exact ⟨⟨x1.within W1.out ho, x2.within x1 W1.out ho, x3⟩, x4, x5⟩
  have hs1 : z n ≤ w1.heap.size := Nat.le_trans hzs (Nat.le_trans (by simp) g1.size)
  clear g1 g1b gg
  obtain ⟨⟨p0, p1⟩, _⟩ := HB1.out
  go_wp2_with fail
  refine (markStoreS_any n n g S U z (1 + nr * 3) _ FL.out FI.out (by omega) hs1 HN.out.1 HN.out.2 (by omega) (by omega) hn).mono ?_
  rintro e w2 ⟨rfl, _, W2⟩
  have hlo : lo ≤ g := H.out.2.1
  have WW : Hid (Within lo (z n) w w2) := ((Within.grow (below_alloc w _)).trans (W1.out.mono (Nat.le_refl _) (by omega))).trans (W2.mono (by omega) (Nat.le_refl _))
  clear W2 W1 FL FI HB1 HB p0 p1
  go_wp2
  go_ret
  exact ⟨1 + nr * 3 + (sumN (markT S) n : Nat), ⟨by omega, by have := markT_le S n; have := HN.out.2; omega⟩, rfl, WW.out⟩
theorem FillT.withinW {w w' : World} {g n k B E : Nat} {T : Nat → Tx} {U : Nat → Value} (h : FillT w g n k T U) (hw : Within B E w w') (hg : g < B ∨ E ≤ g) : FillT w' g n k T U := Fil.within h hw hg
theorem FineT.withinW {w w' : World} {z : Nat → Nat} {n B E : Nat} {T : Nat → Tx} {U : Nat → Value} (h : FineT w z n T U) (hw : Within B E w w') (hz : ∀ i, i ≤ n → E ≤ z i) : FineT w' z n T U := fun i hi => by
  obtain ⟨⟨h1, h2, h3⟩, h4, h5⟩ := h i hi
  have ho : 0 < (T i).m → ∀ q, (U i).ownBlock = some q → q < B ∨ E ≤ q := fun h0 q hq => Or.inr (by have := (h4 h0 q hq).1; have := hz i (by omega); omega)
  exact ⟨⟨h1.within hw ho, h2.within h1 hw ho, h3⟩, h4, h5⟩
/-- A world of its own: its groups, then its transactions, block behind block. -/
def OwnW (w : World) (lo nr : Nat) (F : Nat → Int) (n : Nat) (S : Nat → Sto) (ra : Option Addr) (rc g : Nat) (U : Nat → Nat → Value) (z : Nat → Nat) (nt : Nat) (T : Nat → Tx) (gt : Nat) (Y : Nat → Value) (zt : Nat → Nat) : Prop :=
  FineG w lo nr F n S ra rc g U z ∧ (z n ≤ gt ∧ gt < w.heap.size ∧ FillT w gt nt nt T Y ∧ FineT w zt nt T Y ∧ zt 0 = gt + 1 ∧ (∀ i, i ≤ nt → gt < zt i) ∧ zt nt ≤ w.heap.size)
theorem OwnW.later {w w' : World} {lo nr : Nat} {F : Nat → Int} {n : Nat} {S : Nat → Sto} {ra : Option Addr} {rc g : Nat} {U : Nat → Nat → Value} {z : Nat → Nat} {nt : Nat} {T : Nat → Tx} {gt : Nat} {Y : Nat → Value} {zt : Nat → Nat} (h : OwnW w lo nr F n S ra rc g U z nt T gt Y zt) (hb : Below w.heap.size w w') : OwnW w' lo nr F n S ra rc g U z nt T gt Y zt :=
  ⟨h.1.later hb, h.2.1, Nat.lt_of_lt_of_le h.2.2.1 hb.size, Fil.later h.2.2.2.1 hb, h.2.2.2.2.1.later hb, h.2.2.2.2.2.1, h.2.2.2.2.2.2.1, Nat.le_trans h.2.2.2.2.2.2.2 hb.size⟩
end Go.Proofs.YtpodcnmiaacndaaGreat

namespace Go.Proofs.YtpodcnmiaacndaaGreat
open Go.RowKit

theorem OwnW.grs {w : World} {lo nr : Nat} {F : Nat → Int} {n : Nat} {S : Nat → Sto} {ra : Option Addr} {rc g : Nat} {U : Nat → Nat → Value} {z : Nat → Nat} {nt : Nat} {T : Nat → Tx} {gt : Nat} {Y : Nat → Value} {zt : Nat → Nat} (h : OwnW w lo nr F n S ra rc g U z nt T gt Y zt) : Grs w 0 nr F n S U (.slice ra nr rc) (.slice (some ⟨g, 0, none⟩) n n) ∧ Txs w 0 nt T Y (.slice (some ⟨gt, 0, none⟩) nt nt) := by
  obtain ⟨hF, _, hgt, hfil, hfin, _⟩ := h
  refine ⟨hF.grs.mono (Nat.zero_le _), ⟨⟨_, _, rfl, fun _ => ⟨gt, 0, rfl, Nat.zero_le _, hgt, fun i hi j hj => ?_⟩⟩, fun i hi => ⟨(hfin i hi).1.1.mono (Nat.zero_le _), (hfin i hi).1.2.2⟩⟩⟩
  rw [Nat.zero_add]
  exact hfil.cell (Nat.le_refl _) hi hj
theorem NewWd.own {w w' : World} {nw nx bd : Int} {nr : Nat} {F : Nat → Int} {n : Nat} {S : Nat → Sto} {nt : Nat} {T : Nat → Tx} {e : Ending} (h : NewWd w nw nx bd nr F n S nt T e w') :
    ∃ ra rc g U z gt Y zt, e = .returned (.agg #[.int .i64 nw, .int .i64 nx, .int .i64 bd, .slice ra nr rc, .slice (some ⟨g, 0, none⟩) n n, .slice (some ⟨gt, 0, none⟩) nt nt]) ∧ OwnW w' w.heap.size nr F n S ra rc g U z nt T gt Y zt ∧ Below w.heap.size w w' := by
  obtain ⟨ra, rc, g, U, z, gt, Y, zt, he, hF, hT, hb⟩ := h
  exact ⟨ra, rc, g, U, z, gt, Y, zt, he, ⟨hF, hT⟩, hb⟩
end Go.Proofs.YtpodcnmiaacndaaGreat

namespace Go.Proofs.YtpodcnmiaacndaaGreat
open Go.RowKit

set_option maxRecDepth 100000 in
set_option maxHeartbeats 4000000 in
theorem markWorld_lim (nw nx bd : Int) (lo nr : Nat) (F : Nat → Int) (n : Nat) (S : Nat → Sto) (ra : Option Addr) (rc g : Nat) (U : Nat → Nat → Value) (z : Nat → Nat) (nt : Nat) (T : Nat → Tx) (gt : Nat) (Y : Nat → Value) (zt : Nat → Nat) (w : World) (h : OwnW w lo nr F n S ra rc g U z nt T gt Y zt) (hs : (nr ≤ 1048576 ∧ n ≤ 1048576 ∧ ∀ i, i < n → SmallS (S i)) ∧ nt ≤ 1048576 ∧ ∀ i, i < nt → (T i).m ≤ 1048576) (ht : sumN (sizeT S) n ≤ 1048576 ∧ sumN (sizeX T) nt ≤ 1048576) :
    Calls Tryz.prog 39 #[.agg #[.int .i64 nw, .int .i64 nx, .int .i64 bd, .slice ra nr rc, .slice (some ⟨g, 0, none⟩) n n, .slice (some ⟨gt, 0, none⟩) nt nt], .int .i64 1] w fun e w' => ∃ k : Int, (0 ≤ k ∧ k ≤ 60000000) ∧ e = .returned (.int .i64 k) ∧ Within lo (zt nt) w w' := by
  have H : Hid (OwnW (w.alloc (.cells #[.int .i64 nw, .int .i64 nx, .int .i64 bd, .slice ra nr rc, .slice (some ⟨g, 0, none⟩) n n, .slice (some ⟨gt, 0, none⟩) nt nt] 43)) lo nr F n S ra rc g U z nt T gt Y zt) := h.later (below_alloc _ _)
  have HB : Hid (Blk6 (w.alloc (.cells #[.int .i64 nw, .int .i64 nx, .int .i64 bd, .slice ra nr rc, .slice (some ⟨g, 0, none⟩) n n, .slice (some ⟨gt, 0, none⟩) nt nt] 43)) w.heap.size (.int .i64 nw) (.int .i64 nx) (.int .i64 bd) (.slice ra nr rc) (.slice (some ⟨g, 0, none⟩) n n) (.slice (some ⟨gt, 0, none⟩) nt nt)) := Blk6.new w _ _ _ _ _ _ _
  have hzt : zt nt ≤ w.heap.size := h.2.2.2.2.2.2.2
  have HN : Hid (((nr ≤ 1048576 ∧ n ≤ 1048576 ∧ ∀ i, i < n → SmallS (S i)) ∧ nt ≤ 1048576 ∧ ∀ i, i < nt → (T i).m ≤ 1048576) ∧ sumN (sizeT S) n ≤ 1048576 ∧ sumN (sizeX T) nt ≤ 1048576) := ⟨hs, ht⟩
  clear h hs ht
  go_enter Tryz.func39, Tryz.ntmps39
  go_wp2_with fail
  refine (markGroups_lim nr F n S ra rc g U z lo _ H.out.1 HN.out.1.1.1 HN.out.1.1.2.1 HN.out.1.1.2.2 HN.out.2.1).mono ?_
  rintro e w1 ⟨k, hk, rfl, W1⟩
  have hgt : zt 0 = gt + 1 := H.out.2.2.2.2.2.1
  have hzz := H.out.2.2.2.2.1.up nt (Nat.le_refl _) 0 (Nat.zero_le _)
  have hzg := H.out.2.1
  have HK : Hid (Blk6 w1 w.heap.size (.int .i64 nw) (.int .i64 nx) (.int .i64 bd) (.slice ra nr rc) (.slice (some ⟨g, 0, none⟩) n n) (.slice (some ⟨gt, 0, none⟩) nt nt)) := HB.out.kept (W1.block _ (by simp) (Or.inr (by omega)))
  have HT : Hid (FillT w1 gt nt nt T Y ∧ FineT w1 zt nt T Y ∧ ∀ i, i ≤ nt → gt < zt i) := ⟨H.out.2.2.2.1.withinW W1 (Or.inr hzg), H.out.2.2.2.2.1.withinW W1 (fun i hi => by have := H.out.2.2.2.2.2.2.1 i hi; omega), H.out.2.2.2.2.2.2.1⟩
  have HW1 : Hid (Within lo (zt nt) w w1) := (Within.grow (below_alloc w _)).trans (W1.mono (Nat.le_refl _) (by omega))
  have hlo : lo ≤ gt := by have := H.out.1.2.1; have := H.out.1.2.2.2.2.2.1 n (Nat.le_refl _); omega
  clear W1 H HB
  obtain ⟨⟨p0, p1, p2, p3, p4, p5⟩, _⟩ := HK.out
  go_wp2_with fail
  refine (markTxnS_any nt nt gt T Y zt k _ HT.out.1 HT.out.2.1 HT.out.2.2 HN.out.1.2.2 HN.out.2.2 hk.1 hk.2 HN.out.1.2.1).mono ?_
  rintro e w2 ⟨rfl, W2⟩
  have HW2 : Hid (Within lo (zt nt) w w2) := HW1.out.trans (W2.mono hlo (Nat.le_refl _))
  clear W2 HW1 HT HK p0 p1 p2 p3 p4 p5
  go_wp2
  go_ret
  have hx3 := markX_le T nt
  have hx4 := HN.out.2.2
  have hx5 := HN.out.1.2.1
  exact ⟨_, ⟨by omega, by omega⟩, rfl, HW2.out⟩
/-- A file system of its own: its groups, its transactions, its runs, block behind block, all below E. -/
def OwnF (w : World) (lo nr : Nat) (F : Nat → Int) (n : Nat) (S : Nat → Sto) (ra : Option Addr) (rc g : Nat) (U : Nat → Nat → Value) (z : Nat → Nat) (nt : Nat) (T : Nat → Tx) (gt : Nat) (Y : Nat → Value) (zt : Nat → Nat) (nq : Nat) (R : Nat → Int) (uq : Option Addr) (E : Nat) : Prop := OwnW w lo nr F n S ra rc g U z nt T gt Y zt ∧ Qd (zt nt) nq R (.slice uq nq nq) w ∧ (0 < nq → ∀ k, (Value.slice uq nq nq).ownBlock = some k → zt nt ≤ k ∧ k < E) ∧ zt nt ≤ E ∧ E ≤ w.heap.size
theorem OwnF.later {w w' : World} {lo nr : Nat} {F : Nat → Int} {n : Nat} {S : Nat → Sto} {ra : Option Addr} {rc g : Nat} {U : Nat → Nat → Value} {z : Nat → Nat} {nt : Nat} {T : Nat → Tx} {gt : Nat} {Y : Nat → Value} {zt : Nat → Nat} {nq : Nat} {R : Nat → Int} {uq : Option Addr} {E : Nat} (h : OwnF w lo nr F n S ra rc g U z nt T gt Y zt nq R uq E) (hb : Below w.heap.size w w') : OwnF w' lo nr F n S ra rc g U z nt T gt Y zt nq R uq E :=
  ⟨h.1.later hb, ⟨h.2.1.1.later hb, h.2.1.2.ofRow h.2.1.1 hb⟩, h.2.2.1, h.2.2.2.1, Nat.le_trans h.2.2.2.2 hb.size⟩
theorem OwnF.grs {w : World} {lo nr : Nat} {F : Nat → Int} {n : Nat} {S : Nat → Sto} {ra : Option Addr} {rc g : Nat} {U : Nat → Nat → Value} {z : Nat → Nat} {nt : Nat} {T : Nat → Tx} {gt : Nat} {Y : Nat → Value} {zt : Nat → Nat} {nq : Nat} {R : Nat → Int} {uq : Option Addr} {E : Nat} (h : OwnF w lo nr F n S ra rc g U z nt T gt Y zt nq R uq E) : Grs w 0 nr F n S U (.slice ra nr rc) (.slice (some ⟨g, 0, none⟩) n n) ∧ Txs w 0 nt T Y (.slice (some ⟨gt, 0, none⟩) nt nt) ∧ Row w 0 10 nq R (.slice uq nq nq) := ⟨h.1.grs.1, h.1.grs.2, h.2.1.1.mono (Nat.zero_le _)⟩
theorem NewFw.own {w w' : World} {nw nx bd : Int} {nr : Nat} {F : Nat → Int} {n : Nat} {S : Nat → Sto} {nt : Nat} {T : Nat → Tx} {nq : Nat} {R : Nat → Int} {e : Ending} (h : NewFw w nw nx bd nr F n S nt T nq R e w') :
    ∃ ra rc g U z gt Y zt uq, e = .returned (.agg #[.int .i64 nw, .int .i64 nx, .int .i64 bd, .slice ra nr rc, .slice (some ⟨g, 0, none⟩) n n, .slice (some ⟨gt, 0, none⟩) nt nt, .slice uq nq nq]) ∧ OwnF w' w.heap.size nr F n S ra rc g U z nt T gt Y zt nq R uq w'.heap.size ∧ Below w.heap.size w w' := by
  obtain ⟨ra, rc, g, U, z, gt, Y, zt, uq, rfl, h1, h2, h3⟩ := h
  exact ⟨ra, rc, g, U, z, gt, Y, zt, uq, rfl, ⟨h1, h2, fun h0 k hk => h2.1.lt h0 k hk, h1.2.2.2.2.2.2.2, Nat.le_refl _⟩, h3⟩
set_option maxRecDepth 100000 in
set_option maxHeartbeats 4000000 in
theorem markFsWorld_any (nw nx bd : Int) (lo nr : Nat) (F : Nat → Int) (n : Nat) (S : Nat → Sto) (ra : Option Addr) (rc g : Nat) (U : Nat → Nat → Value) (z : Nat → Nat) (nt : Nat) (T : Nat → Tx) (gt : Nat) (Y : Nat → Value) (zt : Nat → Nat) (nq : Nat) (R : Nat → Int) (uq : Option Addr) (E : Nat) (w : World) (h : OwnF w lo nr F n S ra rc g U z nt T gt Y zt nq R uq E) (hs : (nr ≤ 1048576 ∧ n ≤ 1048576 ∧ ∀ i, i < n → SmallS (S i)) ∧ nt ≤ 1048576 ∧ ∀ i, i < nt → (T i).m ≤ 1048576) (ht : sumN (sizeT S) n ≤ 1048576 ∧ sumN (sizeX T) nt ≤ 1048576) (hnq : nq ≤ 1048576) :
    Calls Tryz.prog 15 #[.agg #[.int .i64 nw, .int .i64 nx, .int .i64 bd, .slice ra nr rc, .slice (some ⟨g, 0, none⟩) n n, .slice (some ⟨gt, 0, none⟩) nt nt, .slice uq nq nq], .int .i64 1] w fun e w' => ∃ k : Int, 0 ≤ k ∧ e = .returned (.int .i64 k) ∧ Within lo E w w' := by
  have H : Hid (OwnF (w.alloc (.cells #[.int .i64 nw, .int .i64 nx, .int .i64 bd, .slice ra nr rc, .slice (some ⟨g, 0, none⟩) n n, .slice (some ⟨gt, 0, none⟩) nt nt, .slice uq nq nq] 46)) lo nr F n S ra rc g U z nt T gt Y zt nq R uq E) := h.later (below_alloc _ _)
  have HB : Hid (Blk7F (w.alloc (.cells #[.int .i64 nw, .int .i64 nx, .int .i64 bd, .slice ra nr rc, .slice (some ⟨g, 0, none⟩) n n, .slice (some ⟨gt, 0, none⟩) nt nt, .slice uq nq nq] 46)) w.heap.size (.int .i64 nw) (.int .i64 nx) (.int .i64 bd) (.slice ra nr rc) (.slice (some ⟨g, 0, none⟩) n n) (.slice (some ⟨gt, 0, none⟩) nt nt) (.slice uq nq nq)) := Blk7F.new w _ _ _ _ _ _ _ _
  have hE : E ≤ w.heap.size := h.2.2.2.2
  have hzE : zt nt ≤ E := h.2.2.2.1
  have HN : Hid (((nr ≤ 1048576 ∧ n ≤ 1048576 ∧ ∀ i, i < n → SmallS (S i)) ∧ nt ≤ 1048576 ∧ ∀ i, i < nt → (T i).m ≤ 1048576) ∧ sumN (sizeT S) n ≤ 1048576 ∧ sumN (sizeX T) nt ≤ 1048576) := ⟨hs, ht⟩
  have hlz : lo ≤ zt nt := by
    have h1 := h.1.1.2.1
    have h2 := h.1.1.2.2.2.2.2.1 n (Nat.le_refl _)
    have h3 := h.1.2.1
    have h4 := h.1.2.2.2.2.2.2.1 nt (Nat.le_refl _)
    omega
  clear h hs ht
  go_enter Tryz.func15, Tryz.ntmps15
  go_wp2_with fail
  refine (markWorld_lim nw nx bd lo nr F n S ra rc g U z nt T gt Y zt _ H.out.1 HN.out.1 HN.out.2).mono ?_
  rintro e w1 ⟨k, hk, rfl, W1⟩
  have HK : Hid (Blk7F w1 w.heap.size (.int .i64 nw) (.int .i64 nx) (.int .i64 bd) (.slice ra nr rc) (.slice (some ⟨g, 0, none⟩) n n) (.slice (some ⟨gt, 0, none⟩) nt nt) (.slice uq nq nq)) := HB.out.kept (W1.block _ (by simp) (Or.inr (by omega)))
  have ho : 0 < nq → ∀ j, (Value.slice uq nq nq).ownBlock = some j → j < lo ∨ zt nt ≤ j := fun h0 j hj => Or.inr (H.out.2.2.1 h0 j hj).1
  have HQ : Hid (Qd (zt nt) nq R (.slice uq nq nq) w1) := ⟨H.out.2.1.1.within W1 ho, H.out.2.1.2.within H.out.2.1.1 W1 ho⟩
  have HW1 : Hid (Within lo E w w1) := (Within.grow (below_alloc w _)).trans (W1.mono (Nat.le_refl _) hzE)
  have HR : Hid (0 < nq → ∀ j, (Value.slice uq nq nq).ownBlock = some j → zt nt ≤ j ∧ j < E) := H.out.2.2.1
  clear W1 H HB ho
  obtain ⟨⟨p0, p1, p2, p3, p4, p5, p6⟩, _⟩ := HK.out
  go_wp2_with fail
  refine (markRunS_turn _ (zt nt) nq R k _ HQ.out.1 HQ.out.2 hnq hk.1 (by omega)).mono ?_
  rintro e w2 ⟨rfl, _, _, g2⟩
  have HW2 : Hid (Within lo E w w2) := HW1.out.trans ((Within.of g2 (turn_off HR.out)).mono hlz (Nat.le_refl _))
  clear g2 HW1 HK p0 p1 p2 p3 p4 p5 p6
  go_wp2
  go_ret
  exact ⟨_, by omega, rfl, HW2.out⟩
end Go.Proofs.YtpodcnmiaacndaaGreat

namespace Go.Proofs.YtpodcnmiaacndaaGreat
open Go.RowKit

/-- What the law stands on: its argument (block w.heap.size), what the model answered (block W), the program's copy (block q, its lists its own), what the program answered (block G). -/
structure EnvF (w : World) (nw nx bd : Int) (vr vs vt vq : Value) (W : Nat) (c : Int) (vw : Value) (q : Nat) (ur us ut uq : Value) (G : Nat) (vg : Value) (m : Nat) (R : Nat → Int) (lg : Nat) (x : World) : Prop where
  below : Below w.heap.size w x
  arg : Blk7F x w.heap.size (.int .i64 nw) (.int .i64 nx) (.int .i64 bd) vr vs vt vq
  want : Blk2 x W (.int .i64 c) vw
  copy : Blk7F x q (.int .i64 nw) (.int .i64 nx) (.int .i64 bd) ur us ut uq
  got : Blk2 x G (.int .i64 c) vg
  rw : Row x w.heap.size 2 m R vw
  rg : Row x lg 2 m R vg
  fg : Free x (m * 2) vg
theorem EnvF.later {w : World} {nw nx bd : Int} {vr vs vt vq : Value} {W : Nat} {c : Int} {vw : Value} {q : Nat} {ur us ut uq : Value} {G : Nat} {vg : Value} {m : Nat} {R : Nat → Int} {lg : Nat} {x x' : World} (h : EnvF w nw nx bd vr vs vt vq W c vw q ur us ut uq G vg m R lg x) (hb : Below x.heap.size x x') : EnvF w nw nx bd vr vs vt vq W c vw q ur us ut uq G vg m R lg x' :=
  ⟨h.below.trans (hb.mono h.below.size), h.arg.later hb, h.want.later hb, h.copy.later hb, h.got.later hb, h.rw.later hb, h.rg.later hb, h.fg.ofRow h.rg hb⟩
theorem EnvF.within {w : World} {nw nx bd : Int} {vr vs vt vq : Value} {W : Nat} {c : Int} {vw : Value} {q : Nat} {ur us ut uq : Value} {G : Nat} {vg : Value} {m : Nat} {R : Nat → Int} {lg : Nat} {x x' : World} {B E : Nat} (h : EnvF w nw nx bd vr vs vt vq W c vw q ur us ut uq G vg m R lg x) (hw : Within B E x x') (hB : w.heap.size < B) (hW : W < B) (hq : E ≤ q) (hG : E ≤ G) (ow : 0 < m → ∀ k, vw.ownBlock = some k → k < B) (og : 0 < m → ∀ k, vg.ownBlock = some k → E ≤ k) : EnvF w nw nx bd vr vs vt vq W c vw q ur us ut uq G vg m R lg x' :=
  ⟨hw.below h.below (Nat.le_of_lt hB), h.arg.kept (hw.block _ h.arg.lt (Or.inl hB)), h.want.kept (hw.block _ h.want.lt (Or.inl hW)), h.copy.kept (hw.block _ h.copy.lt (Or.inr hq)), h.got.kept (hw.block _ h.got.lt (Or.inr hG)), h.rw.within hw (fun h0 k hk => Or.inl (ow h0 k hk)), h.rg.within hw (fun h0 k hk => Or.inr (og h0 k hk)), h.fg.within h.rg hw (fun h0 k hk => Or.inr (og h0 k hk))⟩
set_option maxRecDepth 100000 in
set_option maxHeartbeats 8000000 in
theorem viewOf_walk (nw nx bd : Int) (nr : Nat) (F : Nat → Int) (n : Nat) (S : Nat → Sto) (V : Nat → Nat → Value) (vr vs : Value) (nt : Nat) (T : Nat → Tx) (X : Nat → Value) (vt : Value) (nq : Nat) (R : Nat → Int) (vq : Value) (w : World) (h : Grs w 0 nr F n S V vr vs) (hx : Txs w 0 nt T X vt) (hq : Row w 0 10 nq R vq) (hr : nr ≤ 9223372036854775807) (hn : n ≤ 9223372036854775807) (hs : ∀ i, i < n → BigS (S i)) (hnt : nt ≤ 9223372036854775807) (hm : ∀ i, i < nt → (T i).m ≤ 9223372036854775807) (hnq : nq ≤ 9223372036854775807) :
    Calls Tryz.prog 6 #[.agg #[.int .i64 nw, .int .i64 nx, .int .i64 bd, vr, vs, vt, vq]] w fun e w' => e = .returned (.bool true) ∧ Below w.heap.size w w' := by
  obtain ⟨a0, c0, a1, c1, rfl, rfl⟩ := h.form
  obtain ⟨a2, c2, rfl⟩ := hx.form
  obtain ⟨a3, c3, rfl⟩ := hq.form
  have HQ : Hid (Row w 0 10 nq R (.slice a3 nq c3)) := hq
  have HG : Hid (Grs w 0 nr F n S V (.slice a0 nr c0) (.slice a1 n c1) ∧ Txs w 0 nt T X (.slice a2 nt c2)) := ⟨h, hx⟩
  have HN : Hid ((∀ i, i < n → BigS (S i)) ∧ ∀ i, i < nt → (T i).m ≤ 9223372036854775807) := ⟨hs, hm⟩
  have H : Hid (Blk7F (w.alloc (.cells #[.int .i64 nw, .int .i64 nx, .int .i64 bd, .slice a0 nr c0, .slice a1 n c1, .slice a2 nt c2, .slice a3 nq c3] 33)) w.heap.size (.int .i64 nw) (.int .i64 nx) (.int .i64 bd) (.slice a0 nr c0) (.slice a1 n c1) (.slice a2 nt c2) (.slice a3 nq c3) ∧ Below w.heap.size w (w.alloc (.cells #[.int .i64 nw, .int .i64 nx, .int .i64 bd, .slice a0 nr c0, .slice a1 n c1, .slice a2 nt c2, .slice a3 nq c3] 33))) := ⟨Blk7F.new w _ _ _ _ _ _ _ _, below_alloc _ _⟩
  clear h hx hs hm hq
  obtain ⟨c, L, hL16, hans⟩ := VwAns.get nw nx bd nr F n S nt T nq R
  obtain ⟨G, hG⟩ : ∃ G, rowL L = G := ⟨_, rfl⟩
  obtain ⟨m, hmm⟩ : ∃ m, L.length = m := ⟨_, rfl⟩
  rw [hmm] at hL16
  have hm : m ≤ 1048576 := by omega
  have hnn : decide ((1 : Int) + m * 2 < 0) = false := decide_eq_false (by omega)
  have HF : Hid (∀ (U : Nat → Nat → Value) (ur us : Value) (Y : Nat → Value) (ut uq : Value) (x : World), Grs x 0 nr F n S U ur us → Txs x 0 nt T Y ut → Row x 0 10 nq R uq → nr ≤ 1048576 → n ≤ 1048576 → nt ≤ 1048576 → (∀ i, i < nt → (T i).m ≤ 1048576) → nq ≤ 1048576 → Calls Tryz.prog 20 #[.agg #[.int .i64 nw, .int .i64 nx, .int .i64 bd, ur, us, ut, uq]] x (ResRow 2 x c m G) ∧ Calls Tryz.prog 21 #[.agg #[.int .i64 nw, .int .i64 nx, .int .i64 bd, ur, us, ut, uq]] x (ResRow 2 x c m G)) := fun U ur us Y ut uq x q1 q2 q3 b1 b2 b3 b4 b5 => by
    rw [← hG, ← hmm]
    exact ⟨specViewOf_is nw nx bd nr F n S U ur us nt T Y ut nq R uq 0 c L x q1 q2 q3 (by omega) (by omega) (by omega) (by omega) (fun i hi => by have := b4 i hi; omega) hans, implViewOf_is nw nx bd nr F n S U ur us nt T Y ut nq R uq 0 c L x q1 q2 q3 (by omega) (by omega) (by omega) (by omega) (fun i hi => by have := b4 i hi; omega) hans⟩
  clear hans hG hmm hL16
  go_enter Tryz.func6, Tryz.ntmps6
  go_wp2_with fail
  refine (szFsWorld_any nw nx bd nr F n S V _ _ nt T X _ nq R _ 0 _ (HG.out.1.alloc _) (HG.out.2.alloc _) (HQ.out.later (below_alloc _ _)) hr hn HN.out.1 hnt HN.out.2 hnq).mono ?_
  rintro e w1 ⟨r, rfl, hA, q1⟩
  have H1 : Hid (Blk7F w1 w.heap.size (.int .i64 nw) (.int .i64 nx) (.int .i64 bd) (.slice a0 nr c0) (.slice a1 n c1) (.slice a2 nt c2) (.slice a3 nq c3) ∧ Below w.heap.size w w1) := ⟨H.out.1.later q1, H.out.2.trans (q1.mono H.out.2.size)⟩
  clear q1 H
  rcases hA with rfl | ⟨h1, ⟨h2, h3, hsum, h4⟩, ⟨h5, hsux, h6⟩, h7⟩
  · go_wp2
    go_ret
    exact ⟨rfl, H1.out.2⟩
  have HB : Hid ((nr ≤ 1048576 ∧ n ≤ 1048576 ∧ ∀ i, i < n → SmallS (S i)) ∧ nt ≤ 1048576 ∧ ∀ i, i < nt → (T i).m ≤ 1048576) := ⟨⟨h2, h3, h4⟩, h5, h6⟩
  have HSU : Hid (sumN (sizeT S) n ≤ 1048576 ∧ sumN (sizeX T) nt ≤ 1048576) := ⟨hsum, hsux⟩
  have dr : decide (r < 0) = false := decide_eq_false (by omega)
  clear h1 h2 h3 h4 h5 h6 hr hn HN hnt hsum hsux hnq
  obtain ⟨⟨p0, p1, p2, p3, p4, p5, p6⟩, _⟩ := H1.out.1
  go_wp2_with fail
  refine (toFsWorld_any nw nx bd nr F n S V _ _ nt T X _ nq R _ 0 _ (HG.out.1.later H1.out.2) (HG.out.2.later H1.out.2) (HQ.out.later H1.out.2) HB.out.1 HB.out.2 h7).mono ?_
  intro e w2 hN2
  obtain ⟨ra, rc, g, U, z, gt, Y, zt, uq2, rfl, o2, q2⟩ := hN2.own
  have H2 : Hid (Blk7F w2 w.heap.size (.int .i64 nw) (.int .i64 nx) (.int .i64 bd) (.slice a0 nr c0) (.slice a1 n c1) (.slice a2 nt c2) (.slice a3 nq c3) ∧ Below w.heap.size w w2) := ⟨H1.out.1.later q2, H1.out.2.trans (q2.mono H1.out.2.size)⟩
  have G2 := HF.out _ _ _ _ _ _ _ o2.grs.1 o2.grs.2.1 o2.grs.2.2 HB.out.1.1 HB.out.1.2.1 HB.out.2.1 HB.out.2.2 h7
  clear q2 hN2 o2 H1 p0 p1 p2 p3 p4 p5 p6
  go_wp2_with fail
  refine G2.1.mono ?_
  clear G2
  rintro e w3 ⟨ow, pw, rfl, rw3, _, q3⟩
  have H3 : Hid (Blk7F w3 w.heap.size (.int .i64 nw) (.int .i64 nx) (.int .i64 bd) (.slice a0 nr c0) (.slice a1 n c1) (.slice a2 nt c2) (.slice a3 nq c3) ∧ Below w.heap.size w w3) := ⟨H2.out.1.later q3, H2.out.2.trans (q3.mono H2.out.2.size)⟩
  have P3 : Hid (((Blk7F (w3.alloc (.cells #[.int .i64 c, .slice ow m pw] 60)) w.heap.size (.int .i64 nw) (.int .i64 nx) (.int .i64 bd) (.slice a0 nr c0) (.slice a1 n c1) (.slice a2 nt c2) (.slice a3 nq c3) ∧ Below w.heap.size w (w3.alloc (.cells #[.int .i64 c, .slice ow m pw] 60))) ∧ Blk2 (w3.alloc (.cells #[.int .i64 c, .slice ow m pw] 60)) w3.heap.size (.int .i64 c) (.slice ow m pw)) ∧ Row (w3.alloc (.cells #[.int .i64 c, .slice ow m pw] 60)) w.heap.size 2 m G (.slice ow m pw)) := ⟨⟨⟨H3.out.1.alloc _, H3.out.2.alloc H3.out.2.size _⟩, Blk2.new w3 _ _ _⟩, (rw3.mono H2.out.2.size).alloc _⟩
  have LW : Hid (0 < m → ∀ k, (Value.slice ow m pw).ownBlock = some k → k < w3.heap.size) := fun h0 k hk => (rw3.lt h0 k hk).2
  have z3 : Hid (w.heap.size < w3.heap.size) := H3.out.1.lt
  clear q3 rw3 H2 H3
  obtain ⟨⟨p0, p1, p2, p3, p4, p5, p6⟩, _⟩ := P3.out.1.1.1
  go_wp2_with fail
  refine (toFsWorld_any nw nx bd nr F n S V _ _ nt T X _ nq R _ 0 _ (HG.out.1.later P3.out.1.1.2) (HG.out.2.later P3.out.1.1.2) (HQ.out.later P3.out.1.1.2) HB.out.1 HB.out.2 h7).mono ?_
  intro e w4 hN4
  obtain ⟨rb, rd, g4, U4, z4, gt4, Y4, zt4, uq4, rfl, o4, q4⟩ := hN4.own
  have zs4 : Hid (w3.heap.size + 1 ≤ w4.heap.size ∧ zt4 nt ≤ w4.heap.size) := ⟨by have := q4.size; simp at this; omega, o4.2.2.2.1⟩
  have O4 : Hid (OwnF (w4.alloc (.cells #[.int .i64 nw, .int .i64 nx, .int .i64 bd, .slice rb nr rd, .slice (some ⟨g4, 0, none⟩) n n, .slice (some ⟨gt4, 0, none⟩) nt nt, .slice uq4 nq nq] 46)) (w3.heap.size + 1) nr F n S rb rd g4 U4 z4 nt T gt4 Y4 zt4 nq R uq4 w4.heap.size) := by
    rw [World.size_alloc] at o4
    exact o4.later (below_alloc _ _)
  have P4 : Hid ((((Blk7F (w4.alloc (.cells #[.int .i64 nw, .int .i64 nx, .int .i64 bd, .slice rb nr rd, .slice (some ⟨g4, 0, none⟩) n n, .slice (some ⟨gt4, 0, none⟩) nt nt, .slice uq4 nq nq] 46)) w.heap.size (.int .i64 nw) (.int .i64 nx) (.int .i64 bd) (.slice a0 nr c0) (.slice a1 n c1) (.slice a2 nt c2) (.slice a3 nq c3) ∧ Below w.heap.size w (w4.alloc (.cells #[.int .i64 nw, .int .i64 nx, .int .i64 bd, .slice rb nr rd, .slice (some ⟨g4, 0, none⟩) n n, .slice (some ⟨gt4, 0, none⟩) nt nt, .slice uq4 nq nq] 46))) ∧ Blk2 (w4.alloc (.cells #[.int .i64 nw, .int .i64 nx, .int .i64 bd, .slice rb nr rd, .slice (some ⟨g4, 0, none⟩) n n, .slice (some ⟨gt4, 0, none⟩) nt nt, .slice uq4 nq nq] 46)) w3.heap.size (.int .i64 c) (.slice ow m pw)) ∧ Row (w4.alloc (.cells #[.int .i64 nw, .int .i64 nx, .int .i64 bd, .slice rb nr rd, .slice (some ⟨g4, 0, none⟩) n n, .slice (some ⟨gt4, 0, none⟩) nt nt, .slice uq4 nq nq] 46)) w.heap.size 2 m G (.slice ow m pw)) ∧ Blk7F (w4.alloc (.cells #[.int .i64 nw, .int .i64 nx, .int .i64 bd, .slice rb nr rd, .slice (some ⟨g4, 0, none⟩) n n, .slice (some ⟨gt4, 0, none⟩) nt nt, .slice uq4 nq nq] 46)) w4.heap.size (.int .i64 nw) (.int .i64 nx) (.int .i64 bd) (.slice rb nr rd) (.slice (some ⟨g4, 0, none⟩) n n) (.slice (some ⟨gt4, 0, none⟩) nt nt) (.slice uq4 nq nq)) :=
    ⟨⟨⟨⟨(P3.out.1.1.1.later q4).alloc _, (P3.out.1.1.2.trans (q4.mono P3.out.1.1.2.size)).alloc (Nat.le_trans P3.out.1.1.2.size q4.size) _⟩, (P3.out.1.2.later q4).alloc _⟩, (P3.out.2.later q4).alloc _⟩, Blk7F.new _ _ _ _ _ _ _ _ _⟩
  have s5 : Hid (w4.heap.size < (w4.alloc (.cells #[.int .i64 nw, .int .i64 nx, .int .i64 bd, .slice rb nr rd, .slice (some ⟨g4, 0, none⟩) n n, .slice (some ⟨gt4, 0, none⟩) nt nt, .slice uq4 nq nq] 46)).heap.size) := by unfold Hid; simp
  clear q4 hN4 o4 P3 p0 p1 p2 p3 p4 p5 p6
  go_wp2_with fail
  generalize w4.alloc (.cells #[.int .i64 nw, .int .i64 nx, .int .i64 bd, .slice rb nr rd, .slice (some ⟨g4, 0, none⟩) n n, .slice (some ⟨gt4, 0, none⟩) nt nt, .slice uq4 nq nq] 46) = w5 at O4 P4 s5 ⊢
  refine (HF.out _ _ _ _ _ _ _ O4.out.grs.1 O4.out.grs.2.1 O4.out.grs.2.2 HB.out.1.1 HB.out.1.2.1 HB.out.2.1 HB.out.2.2 h7).2.mono ?_
  rintro e w6 ⟨og, pg, rfl, rg6, fg6, q6⟩
  have E6 : Hid (EnvF w nw nx bd (.slice a0 nr c0) (.slice a1 n c1) (.slice a2 nt c2) (.slice a3 nq c3) w3.heap.size c (.slice ow m pw) w4.heap.size (.slice rb nr rd) (.slice (some ⟨g4, 0, none⟩) n n) (.slice (some ⟨gt4, 0, none⟩) nt nt) (.slice uq4 nq nq) w6.heap.size (.slice og m pg) m G w5.heap.size (w6.alloc (.cells #[.int .i64 c, .slice og m pg] 60))) :=
    ⟨(P4.out.1.1.1.2.trans (q6.mono P4.out.1.1.1.2.size)).alloc (Nat.le_trans P4.out.1.1.1.2.size q6.size) _, (P4.out.1.1.1.1.later q6).alloc _, (P4.out.1.1.2.later q6).alloc _, (P4.out.2.later q6).alloc _, Blk2.new _ _ _ _, (P4.out.1.2.later q6).alloc _, rg6.alloc _, fg6.ofRow rg6 (below_alloc _ _)⟩
  have O6 : Hid (OwnF (w6.alloc (.cells #[.int .i64 c, .slice og m pg] 60)) (w3.heap.size + 1) nr F n S rb rd g4 U4 z4 nt T gt4 Y4 zt4 nq R uq4 w4.heap.size) := (O4.out.later q6).later (below_alloc _ _)
  have LG : Hid ((0 < m → ∀ k, (Value.slice og m pg).ownBlock = some k → w5.heap.size ≤ k ∧ k < w6.heap.size) ∧ w5.heap.size ≤ w6.heap.size) := ⟨fun h0 k hk => rg6.lt h0 k hk, q6.size⟩
  obtain ⟨⟨t0, t1⟩, _⟩ := P4.out.1.1.2.later q6
  have hl := (P4.out.1.1.2.later q6).lt
  clear q6 rg6 fg6 O4 P4
  go_wp2_with fail
  refine (eqPairsResult_same c m _ _ _ _ _ _ G _ E6.out.rg E6.out.rw hm).mono ?_
  rintro e w7 ⟨rfl, q7⟩
  have E7 : Hid (EnvF w nw nx bd (.slice a0 nr c0) (.slice a1 n c1) (.slice a2 nt c2) (.slice a3 nq c3) w3.heap.size c (.slice ow m pw) w4.heap.size (.slice rb nr rd) (.slice (some ⟨g4, 0, none⟩) n n) (.slice (some ⟨gt4, 0, none⟩) nt nt) (.slice uq4 nq nq) w6.heap.size (.slice og m pg) m G w5.heap.size w7) := E6.out.later q7
  have O7 : Hid (OwnF w7 (w3.heap.size + 1) nr F n S rb rd g4 U4 z4 nt T gt4 Y4 zt4 nq R uq4 w4.heap.size) := O6.out.later q7
  clear q7 E6 O6 t0 t1 hl
  go_wp2_with fail
  refine wp_region_held_drew (S := fun x : World => (EnvF w nw nx bd (.slice a0 nr c0) (.slice a1 n c1) (.slice a2 nt c2) (.slice a3 nq c3) w3.heap.size c (.slice ow m pw) w4.heap.size (.slice rb nr rd) (.slice (some ⟨g4, 0, none⟩) n n) (.slice (some ⟨gt4, 0, none⟩) nt nt) (.slice uq4 nq nq) w6.heap.size (.slice og m pg) m G w5.heap.size x) ∧ OwnF x (w3.heap.size + 1) nr F n S rb rd g4 U4 z4 nt T gt4 Y4 zt4 nq R uq4 w4.heap.size) (by kernel_rfl) ⟨E7.out.later (Below.drew (Below.refl _ _)), O7.out.later (Below.drew (Below.refl _ _))⟩ (fun hS => ?_)
  clear E7 O7
  refine tkH 0 ?_ hS (fun wx hx => ?_) ?_; rotate_left
  · obtain ⟨⟨hx0, hx1, hx2, hx3, hx4, hx5, hx6⟩, _⟩ := hx.1.arg; obtain ⟨⟨hy0, hy1, hy2, hy3, hy4, hy5, hy6⟩, _⟩ := hx.1.copy; go_simp; try with_reducible rfl
  refine tkH 1 ?_ hS (fun wx hx => ?_) ?_; rotate_left
  · obtain ⟨⟨hx0, hx1, hx2, hx3, hx4, hx5, hx6⟩, _⟩ := hx.1.arg; obtain ⟨⟨hy0, hy1, hy2, hy3, hy4, hy5, hy6⟩, _⟩ := hx.1.copy; go_simp; try with_reducible rfl
  refine rdH 2 (fun K hK => ?_)
  go_simp
  go_wp2_with fail
  refine (toFsWorld_any nw nx bd nr F n S V _ _ nt T X _ nq R _ 0 _ (HG.out.1.later hS.1.below) (HG.out.2.later hS.1.below) (HQ.out.later hS.1.below) HB.out.1 HB.out.2 h7).mono ?_
  intro e w8 hN8
  obtain ⟨re, rf, g8, U8, z8, gt8, Y8, zt8, uq8, rfl, o8, q8⟩ := hN8.own
  have G8 : Hid (Grs w8 0 nr F n S U8 (.slice re nr rf) (.slice (some ⟨g8, 0, none⟩) n n) ∧ Txs w8 0 nt T Y8 (.slice (some ⟨gt8, 0, none⟩) nt nt) ∧ Row w8 0 10 nq R (.slice uq8 nq nq)) := o8.grs
  have hS' := (show _ ∧ _ from ⟨hS.1.later q8, hS.2.later q8⟩)
  clear q8 hN8 o8
  go_wp2_with fail
  refine hK.out _ _ hS' (fun hS => ?_)
  clear hK K hS'
  refine rdH 3 (fun K hK => ?_)
  go_simp
  go_wp2_with fail
  refine (eqFsWorld_same nw nx bd nr F n S U4 U8 _ _ _ _ _ _ _ _ nt T Y4 Y8 _ _ _ _ nq R _ _ _ _ 0 0 _ hS.2.grs.1 G8.out.1 hS.2.grs.2.1 G8.out.2.1 hS.2.grs.2.2 G8.out.2.2 HB.out.1 HB.out.2 h7).mono ?_
  rintro e w9 ⟨rfl, q9⟩
  have hS' := (show _ ∧ _ from ⟨hS.1.later q9, hS.2.later q9⟩)
  clear q9 G8
  go_wp2_with fail
  refine hK.out _ _ hS' (fun hS => ?_)
  clear hK K hS'
  refine tkH 4 ?_ hS (fun wx hx => ?_) ?_; rotate_left
  · obtain ⟨⟨hx0, hx1, hx2, hx3, hx4, hx5, hx6⟩, _⟩ := hx.1.arg; obtain ⟨⟨hy0, hy1, hy2, hy3, hy4, hy5, hy6⟩, _⟩ := hx.1.copy; go_simp; try with_reducible rfl
  refine wpAnyH_done (by kernel_rfl) ?_ _
  have E9 : Hid (EnvF w nw nx bd (.slice a0 nr c0) (.slice a1 n c1) (.slice a2 nt c2) (.slice a3 nq c3) w3.heap.size c (.slice ow m pw) w4.heap.size (.slice rb nr rd) (.slice (some ⟨g4, 0, none⟩) n n) (.slice (some ⟨gt4, 0, none⟩) nt nt) (.slice uq4 nq nq) w6.heap.size (.slice og m pg) m G w5.heap.size w9) := hS.1
  have O9 : Hid (OwnF w9 (w3.heap.size + 1) nr F n S rb rd g4 U4 z4 nt T gt4 Y4 zt4 nq R uq4 w4.heap.size) := hS.2
  clear hS
  go_simp
  obtain ⟨⟨p0, p1, p2, p3, p4, p5, p6⟩, _⟩ := E9.out.copy
  go_wp2_with fail
  refine (markFsWorld_any nw nx bd _ nr F n S rb rd g4 U4 z4 nt T gt4 Y4 zt4 nq R uq4 _ _ O9.out HB.out HSU.out h7).mono ?_
  rintro e wA ⟨kA, hkA, rfl, WA⟩
  have dk : decide (kA < 0) = false := decide_eq_false (by omega)
  have EA : Hid (EnvF w nw nx bd (.slice a0 nr c0) (.slice a1 n c1) (.slice a2 nt c2) (.slice a3 nq c3) w3.heap.size c (.slice ow m pw) w4.heap.size (.slice rb nr rd) (.slice (some ⟨g4, 0, none⟩) n n) (.slice (some ⟨gt4, 0, none⟩) nt nt) (.slice uq4 nq nq) w6.heap.size (.slice og m pg) m G w5.heap.size wA) := E9.out.within WA (by have := z3.out; omega) (by omega) (by have := zs4.out.2; omega) (by have := zs4.out.2; have := s5.out; have := LG.out.2; omega) (fun h0 k hk => by have := LW.out h0 k hk; omega) (fun h0 k hk => by have := (LG.out.1 h0 k hk).1; have := zs4.out.2; have := s5.out; omega)
  clear WA hkA E9 O9 p0 p1 p2 p3 p4 p5 p6
  obtain ⟨⟨t0, t1⟩, _⟩ := EA.out.want
  obtain ⟨⟨g0, g1⟩, _⟩ := EA.out.got
  go_wp2_with fail
  refine (eqPairsResult_same c m _ _ _ _ _ _ G _ EA.out.rg EA.out.rw hm).mono ?_
  rintro e wB ⟨rfl, qB⟩
  have EB : Hid (EnvF w nw nx bd (.slice a0 nr c0) (.slice a1 n c1) (.slice a2 nt c2) (.slice a3 nq c3) w3.heap.size c (.slice ow m pw) w4.heap.size (.slice rb nr rd) (.slice (some ⟨g4, 0, none⟩) n n) (.slice (some ⟨gt4, 0, none⟩) nt nt) (.slice uq4 nq nq) w6.heap.size (.slice og m pg) m G w5.heap.size wB) := EA.out.later qB
  clear qB EA t0 t1 g0 g1
  obtain ⟨⟨g0, g1⟩, _⟩ := EB.out.got
  go_wp2_with fail
  refine (markPairsResult_any c m _ _ _ G _ EB.out.rg EB.out.fg hm).mono ?_
  rintro e wC ⟨rfl, mC, gC⟩
  have WC : Within w5.heap.size w6.heap.size wB wC := Within.of gC (turn_off LG.out.1)
  have EC : Hid ((Below w.heap.size w wC ∧ Blk7F wC w.heap.size (.int .i64 nw) (.int .i64 nx) (.int .i64 bd) (.slice a0 nr c0) (.slice a1 n c1) (.slice a2 nt c2) (.slice a3 nq c3)) ∧ (Blk2 wC w3.heap.size (.int .i64 c) (.slice ow m pw) ∧ Row wC w.heap.size 2 m G (.slice ow m pw)) ∧ Blk2 wC w6.heap.size (.int .i64 c) (.slice og m pg) ∧ Row wC w5.heap.size 2 m (fun p => 1 + (p : Nat)) (.slice og m pg)) := by
    have a1 := z3.out
    have a2 := zs4.out.1
    have a3 := s5.out
    exact ⟨⟨WC.below EB.out.below (by omega), EB.out.arg.kept (WC.block _ EB.out.arg.lt (Or.inl (by omega)))⟩, ⟨EB.out.want.kept (WC.block _ EB.out.want.lt (Or.inl (by omega))), EB.out.rw.within WC (fun h0 k hk => Or.inl (by have := LW.out h0 k hk; omega))⟩, EB.out.got.kept (WC.block _ EB.out.got.lt (Or.inr (Nat.le_refl _))), mC⟩
  clear WC gC mC EB g0 g1
  obtain ⟨⟨g0, g1⟩, _⟩ := EC.out.2.2.1
  go_wp2_with fail
  refine (heldPairsResult_any c m _ _ _ _ EC.out.2.2.2 hm).mono ?_
  rintro e wD ⟨rfl, qD⟩
  have ED : Hid ((Below w.heap.size w wD ∧ Blk7F wD w.heap.size (.int .i64 nw) (.int .i64 nx) (.int .i64 bd) (.slice a0 nr c0) (.slice a1 n c1) (.slice a2 nt c2) (.slice a3 nq c3)) ∧ (Blk2 wD w3.heap.size (.int .i64 c) (.slice ow m pw) ∧ Row wD w.heap.size 2 m G (.slice ow m pw)) ∧ Blk2 wD w6.heap.size (.int .i64 c) (.slice og m pg) ∧ Row wD w5.heap.size 2 m (fun p => 1 + (p : Nat)) (.slice og m pg)) := ⟨⟨EC.out.1.1.trans (qD.mono EC.out.1.1.size), EC.out.1.2.later qD⟩, ⟨EC.out.2.1.1.later qD, EC.out.2.1.2.later qD⟩, EC.out.2.2.1.later qD, EC.out.2.2.2.later qD⟩
  clear qD EC g0 g1
  obtain ⟨⟨p0, p1, p2, p3, p4, p5, p6⟩, _⟩ := ED.out.1.2
  go_wp2_with fail
  refine (toFsWorld_any nw nx bd nr F n S V _ _ nt T X _ nq R _ 0 _ (HG.out.1.later ED.out.1.1) (HG.out.2.later ED.out.1.1) (HQ.out.later ED.out.1.1) HB.out.1 HB.out.2 h7).mono ?_
  intro e wE hNE
  obtain ⟨rg, rh, gE, UE, zE, gtE, YE, ztE, uqE, rfl, oE, qE⟩ := hNE.own
  have EE : Hid (Below w.heap.size w wE ∧ (Blk2 wE w3.heap.size (.int .i64 c) (.slice ow m pw) ∧ Row wE w.heap.size 2 m G (.slice ow m pw)) ∧ Blk2 wE w6.heap.size (.int .i64 c) (.slice og m pg) ∧ Row wE w5.heap.size 2 m (fun p => 1 + (p : Nat)) (.slice og m pg)) := ⟨ED.out.1.1.trans (qE.mono ED.out.1.1.size), ⟨ED.out.2.1.1.later qE, ED.out.2.1.2.later qE⟩, ED.out.2.2.1.later qE, ED.out.2.2.2.later qE⟩
  have GE := HF.out _ _ _ _ _ _ _ oE.grs.1 oE.grs.2.1 oE.grs.2.2 HB.out.1.1 HB.out.1.2.1 HB.out.2.1 HB.out.2.2 h7
  clear qE hNE oE ED p0 p1 p2 p3 p4 p5 p6
  go_wp2_with fail
  refine GE.2.mono ?_
  clear GE
  rintro e wF ⟨oh, ph, rfl, rhF, _, qF⟩
  have EF : Hid (Below w.heap.size w (wF.alloc (.cells #[.int .i64 c, .slice oh m ph] 60)) ∧ Row (wF.alloc (.cells #[.int .i64 c, .slice oh m ph] 60)) w.heap.size 2 m G (.slice ow m pw) ∧ Blk2 (wF.alloc (.cells #[.int .i64 c, .slice oh m ph] 60)) w6.heap.size (.int .i64 c) (.slice og m pg) ∧ Row (wF.alloc (.cells #[.int .i64 c, .slice oh m ph] 60)) w5.heap.size 2 m (fun p => 1 + (p : Nat)) (.slice og m pg) ∧ Row (wF.alloc (.cells #[.int .i64 c, .slice oh m ph] 60)) 0 2 m G (.slice oh m ph)) := ⟨(EE.out.1.trans (qF.mono EE.out.1.size)).alloc (Nat.le_trans EE.out.1.size qF.size) _, (EE.out.2.1.2.later qF).alloc _, (EE.out.2.2.1.later qF).alloc _, (EE.out.2.2.2.later qF).alloc _, (rhF.mono (Nat.zero_le _)).alloc _⟩
  obtain ⟨⟨t0, t1⟩, _⟩ := EE.out.2.1.1.later qF
  have hl := (EE.out.2.1.1.later qF).lt
  clear qF rhF EE
  go_wp2_with fail
  refine (eqPairsResult_same c m _ _ _ _ _ _ G _ EF.out.2.2.2.2 EF.out.2.1 hm).mono ?_
  rintro e wG ⟨rfl, qG⟩
  have EG : Hid (Below w.heap.size w wG ∧ Blk2 wG w6.heap.size (.int .i64 c) (.slice og m pg) ∧ Row wG w5.heap.size 2 m (fun p => 1 + (p : Nat)) (.slice og m pg)) := ⟨EF.out.1.trans (qG.mono EF.out.1.size), EF.out.2.2.1.later qG, EF.out.2.2.2.1.later qG⟩
  clear qG EF t0 t1 hl
  obtain ⟨⟨g0, g1⟩, _⟩ := EG.out.2.1
  go_wp2_with fail
  refine (heldPairsResult_any c m _ _ _ _ EG.out.2.2 hm).mono ?_
  rintro e wH ⟨rfl, qH⟩
  have EH : Hid (Below w.heap.size w wH) := EG.out.1.trans (qH.mono EG.out.1.size)
  clear qH EG g0 g1
  go_wp2
  go_ret
  exact ⟨rfl, EH.out⟩
end Go.Proofs.YtpodcnmiaacndaaGreat

