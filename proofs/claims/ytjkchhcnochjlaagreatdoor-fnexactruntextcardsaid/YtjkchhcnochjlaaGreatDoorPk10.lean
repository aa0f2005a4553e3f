/-
  Own text, merged of RunI, RunJ, ModC, IntsA, FsE, RunK, DgtA, TxtA, TxtB, TxtC.
-/
import Derived.Test.YtjkchhcnochjlaaGreatDoorPk9
namespace Go.Proofs.YtjkchhcnochjlaaGreatDoor
open Go.RowKit Go.Maps

theorem intKeyedI : Keyed Tryz.prog 2 := int_keyed Tryz.underlying2
def intD (v : Int) : DataW Unit := .lit (.int .i64 v)
def intR (v : Value) : Option (DataW Unit × List MemPlace) :=
  match v with
  | .int .i64 x => some (intD x, [])
  | _ => none
theorem intR_mk (s : Int) : intR (.int .i64 s) = some (intD s, []) := rfl
theorem intR_inv {v : Value} {s : Int} {ps : List MemPlace} (h : intR v = some (intD s, ps)) : v = .int .i64 s := by
  unfold intR at h
  split at h
  · simp only [intD, Option.some.injEq, Prod.mk.injEq, DataW.lit.injEq, Lit.int.injEq, true_and] at h
    obtain ⟨rfl, _⟩ := h
    rfl
  · cases h
/-- Block b is a map of at most n entries: at key k it has m k. -/
def IM (w : World) (b n : Nat) (m : Int → Option Int) : Prop :=
  ∃ D : DataW Unit, w.ownsMap Tryz.prog 2 intR b n D ∧ ∀ x, (Lit.int .i64 x).wf = true → Maps.has D (.int .i64 x) = (m x).isSome ∧ D.atKey (.int .i64 x) (intD 0) = intD ((m x).getD 0)
theorem IM.made (w : World) : IM (w.alloc (.map #[] 0)) w.heap.size 0 (fun _ => none) := ⟨.map [], World.ownsMap_made w _ _ _, fun _ _ => ⟨rfl, rfl⟩⟩
theorem IM.lt {w : World} {b n : Nat} {m : Int → Option Int} (h : IM w b n m) : b < w.heap.size := by
  obtain ⟨D, h, _⟩ := h; exact h.lt
theorem IM.kept {w w' : World} {b n : Nat} {m : Int → Option Int} (h : IM w b n m) (hb : w'.heap[b]? = w.heap[b]?) : IM w' b n m := by
  obtain ⟨D, ⟨es, clock, h1, h2⟩, r⟩ := h
  exact ⟨D, ⟨es, clock, hb.trans h1, h2⟩, r⟩
theorem IM.later {w w' : World} {b n : Nat} {m : Int → Option Int} (h : IM w b n m) (hb : Below w.heap.size w w') : IM w' b n m := h.kept (hb.block b h.lt)
theorem zero_intI (w : World) : (zeroValue 2).run Tryz.prog w = .ok (.int .i64 0) w := by kernel_rfl
/-- 'v, ok := m[k]', 'm[k]'. -/
theorem IM.look {w : World} {b n : Nat} {m : Int → Option Int} (h : IM w b n m) {x : Int} (hx : (Lit.int .i64 x).wf = true) :
    (Instr.lookup 176 (.map (some b)) (.int .i64 x) true).run Tryz.prog w = .ok (.tuple #[.int .i64 ((m x).getD 0), .bool (m x).isSome]) w := by
  obtain ⟨D, h, r⟩ := h
  obtain ⟨v, ps, hrun, hv⟩ := h.look_ok intKeyedI Tryz.underlying176 (zero_intI w) (intR_mk 0) (keyOf_int_mk Tryz.underlying2 hx)
  rw [(r x hx).2] at hv
  rw [hrun, (r x hx).1, intR_inv hv]
theorem keyLitI (x : Int) : WideAt.IsKeyLit (.int .i64 x) := trivial
def putI1 (m : Int → Option Int) (a : Int) (v : Int) (x : Int) : Option Int := if x = a then some v else m x
/-- 'm[k] = v'. -/
theorem IM.put {w : World} {b n : Nat} {m : Int → Option Int} (h : IM w b n m) (hn : n < maxLen) {x : Int} (hx : (Lit.int .i64 x).wf = true) (s : Int) :
    ∃ w', (Instr.mapUpdate 176 (.map (some b)) (.int .i64 x) (.int .i64 s)).run Tryz.prog w = .ok () w' ∧ IM w' b (n + 1) (putI1 m x s) ∧ w.grownBy w' (some b) := by
  obtain ⟨D, h, r⟩ := h
  obtain ⟨w', hrun, h', hg⟩ := h.update intKeyedI Tryz.underlying176 hn (keyOf_int_mk Tryz.underlying2 hx) (intR_mk s)
  refine ⟨w', hrun, ⟨_, h', fun p hp => ?_⟩, hg⟩
  unfold putI1
  by_cases e : p = x
  · subst e
    rw [if_pos rfl]
    exact ⟨has_put_same h.isMap (keyLitI _) _, atKey_put_same h.isMap (keyLitI _) _ _⟩
  · rw [if_neg e, has_put_other (fun q => e (by simpa using q)), atKey_put_other (fun q => e (by simpa using q))]
    exact r p hp
theorem wf_keyI {a : Int} (h0 : -1 ≤ a) (h1 : a ≤ 100000) : (Lit.int .i64 a).wf = true := by
  have e0 : IntKind.i64.min = -9223372036854775808 := by decide
  have e1 : IntKind.i64.max = 9223372036854775807 := by decide
  simp [Lit.wf, e0, e1]
  omega
theorem run_mapI (w : World) : (Instr.makeMap 176 none).run Tryz.prog w = .ok (.map (some w.heap.size)) (w.alloc (.map #[] 0)) := by
  first | kernel_rfl | rfl
/-- The commits of the first m of a list, by place. -/
def mapC (D : Prs) : Nat → Int → Option Int
  | 0 => fun _ => none
  | m + 1 => putI1 (mapC D m) (D.getD m (0, 0)).1 (D.getD m (0, 0)).2
theorem mapC_last {D : Prs} (h : ∀ m, m < D.length → 1 ≤ (D.getD m (0, 0)).2) (p : Int) : ∀ m, m ≤ D.length → (mapC D m p = none ∧ lastC D p m = 0) ∨ (∃ v, 1 ≤ v ∧ mapC D m p = some v ∧ lastC D p m = v)
  | 0, _ => Or.inl ⟨rfl, rfl⟩
  | m + 1, hm => by
    by_cases e : (D.getD m (0, 0)).1 = p
    · refine Or.inr ⟨(D.getD m (0, 0)).2, h m (by omega), ?_, lastC_hit e⟩
      show putI1 _ _ _ p = _
      unfold putI1
      rw [if_pos e.symm]
    · have h1 : mapC D (m + 1) p = mapC D m p := by
        show putI1 _ _ _ p = _
        unfold putI1
        rw [if_neg (fun q => e q.symm)]
      rw [h1, lastC_miss e]
      exact mapC_last h p m (by omega)
end Go.Proofs.YtjkchhcnochjlaaGreatDoor

namespace Go.Proofs.YtjkchhcnochjlaaGreatDoor
open Go.RowKit Go.Maps

set_option maxRecDepth 100000 in
set_option maxHeartbeats 4000000 in
theorem history_is (x0 : World) (b : Nat) (nw nx bd : Int) (n : Nat) (F : Nat → Int) (S : Nat → Sto) (g : Nat) (P : Nat → Nat) (Bw nt : Nat) (T : Nat → Tx) (Y : Nat → Value) (v : Value) (Q : Nat → Option Int) (D : Prs) (nk : Nat) (R : Nat → Int) (vq : Value) (h : DonE x0 b nw nx bd n F S g P Bw nt T Y v x0) (hq : Row x0 0 10 nk R vq) (hQ : ∀ i, i < nt → DoneAt n F S (T i) (Q i)) (hD : donesL Q nt = D) (hn : n ≤ 12) (hnt : nt ≤ 16) (hit : ∀ i, i < nt → 1 ≤ (T i).m) (hnk : nk ≤ 30) (hpos : ∀ m, m < D.length → 1 ≤ (D.getD m (0, 0)).2) (hpl : ∀ m, m < D.length → 0 ≤ (D.getD m (0, 0)).1 ∧ (D.getD m (0, 0)).1 ≤ 16) (hft : ∀ i, i < nk → 1 ≤ R (i * 10 + 7) ∧ -1 ≤ R (i * 10 + 6) ∧ R (i * 10 + 6) ≤ 16) :
    Calls Tryz.prog 70 #[.pointer (some ⟨b, 0, none⟩), vq] x0 fun e x' => ∃ ao cp, e = .returned (.slice ao (histL D R nk).length cp) ∧ Own x' x0.heap.size 61 2 (histL D R nk).length (rowL (histL D R nk)) (.slice ao (histL D R nk).length cp) ∧ Below x0.heap.size x0 x' := by
  obtain ⟨a3, c3, rfl⟩ := hq.form
  have hH : DonE (x0.alloc (.map #[] 0)) b nw nx bd n F S g P Bw nt T Y v (x0.alloc (.map #[] 0)) := by
    have k := h.later (below_alloc x0 (.map #[] 0))
    exact ⟨Below.refl _ _, k.kb, k.work, k.txs⟩
  have HH : Hid (DonE (x0.alloc (.map #[] 0)) b nw nx bd n F S g P Bw nt T Y v (x0.alloc (.map #[] 0))) := hH
  have HRW : Hid (Row x0 0 10 nk R (.slice a3 nk c3)) := hq
  have HQ' : Hid ((∀ i, i < nt → DoneAt n F S (T i) (Q i)) ∧ ∀ i, i < nt → 1 ≤ (T i).m) := ⟨hQ, hit⟩
  have HDD : Hid (donesL Q nt = D ∧ D.length ≤ 16) := ⟨hD, by rw [← hD]; exact Nat.le_trans (donesL_len Q nt) hnt⟩
  have HP : Hid ((∀ m, m < D.length → 1 ≤ (D.getD m (0, 0)).2) ∧ ∀ m, m < D.length → 0 ≤ (D.getD m (0, 0)).1 ∧ (D.getD m (0, 0)).1 ≤ 16) := ⟨hpos, hpl⟩
  have HFT : Hid (∀ i, i < nk → 1 ≤ R (i * 10 + 7) ∧ -1 ≤ R (i * 10 + 6) ∧ R (i * 10 + 6) ≤ 16) := hft
  have hmk := fun w => run_mapI w
  clear h hH hq hQ hit hD hpos hpl hft
  go_enter Tryz.func70, Tryz.ntmps70
  go_wp2_with fail
  refine (dones_is (x0.alloc (.map #[] 0)) b nw nx bd n F S g P Bw nt T Y v Q HH.out HQ'.out.1 hn hnt HQ'.out.2).mono ?_
  rw [HDD.out.1]
  rintro e w1 ⟨lo, lc, rfl, O1, q1⟩
  have hDl : D.length ≤ 16 := HDD.out.2
  have HA : Hid (IM w1 x0.heap.size 0 (mapC D 0) ∧ Below x0.heap.size x0 w1 ∧ Row w1 (x0.heap.size + 1) 2 D.length (rowL D) (.slice lo D.length lc)) := by
    have k := O1.row.1
    rw [World.size_alloc] at k
    exact ⟨(IM.made x0).later q1, (below_alloc _ _).trans (q1.mono (by simp)), k⟩
  clear O1 q1 HH HQ' HDD hmk
  go_wp2_with fail
  go_loopw [17] (fun i wr => ∃ m : Nat, m ≤ D.length ∧ i = .int .i64 m ∧ Hid (IM wr x0.heap.size m (mapC D m) ∧ Below x0.heap.size x0 wr ∧ Row wr (x0.heap.size + 1) 2 D.length (rowL D) (.slice lo D.length lc))) (fun i _ => D.length - (intOf i).toNat)
  case atStart => exact ⟨0, Nat.zero_le _, rfl, HA⟩
  case round =>
    clear HA
    obtain ⟨m, hm, rfl, HA⟩ := hrel
    obtain ⟨wa, rfl⟩ : ∃ x, x = wr := ⟨_, rfl⟩
    by_cases hlm : m < D.length
    · obtain ⟨g3, o3, hlo, hB3, hg3, u0, u1⟩ := HA.out.2.2.at2 hlm
      subst hlo
      rw [rowL_key] at u0
      rw [rowL_val] at u1
      have hwf : (Lit.int .i64 (D.getD m (0, 0)).1).wf = true := wf_keyI (by have := (HP.out.2 m hlm).1; omega) (by have := (HP.out.2 m hlm).2; omega)
      have HMC : Hid (mapC D (m + 1) = putI1 (mapC D m) (D.getD m (0, 0)).1 (D.getD m (0, 0)).2) := rfl
      obtain ⟨e0, he0⟩ : ∃ y, (D.getD m (0, 0)).1 = y := ⟨_, rfl⟩
      obtain ⟨e1, he1⟩ : ∃ y, (D.getD m (0, 0)).2 = y := ⟨_, rfl⟩
      rw [he0] at u0 hwf HMC
      rw [he1] at u1 HMC
      clear he0 he1
      obtain ⟨w2, hrun, hP2, hg2⟩ := IM.put (HA.out.1.later (below_alloc wa (.cells #[.int .i64 e0, .int .i64 e1] 61))) (Nat.lt_of_le_of_lt (Nat.le_trans hm hDl) (by decide)) hwf e1
      have H2 : Hid (IM w2 x0.heap.size (m + 1) (mapC D (m + 1)) ∧ Below x0.heap.size x0 w2 ∧ Row w2 (x0.heap.size + 1) 2 D.length (rowL D) (.slice (some ⟨g3, o3, none⟩) D.length lc)) := by
        rw [HMC.out]
        refine ⟨hP2, (HA.out.2.1.alloc HA.out.2.1.size _).grown hg2 (by have := HA.out.2.1.size; simp; omega) (fun r e => by cases e; exact Nat.le_refl _), ?_⟩
        exact (HA.out.2.2.later (below_alloc wa _)).within (Within.of (B := x0.heap.size) (E := x0.heap.size + 1) hg2 (fun k e => by cases e; exact ⟨Nat.le_refl _, Nat.lt_succ_self _⟩)) (fun _ k hk => Or.inr (by cases hk; exact hB3))
      clear hP2 hg2 HMC hwf
      go_wp2
      go_roundw
      case rel => exact ⟨m + 1, by omega, by go_num, H2⟩
      case measure => simp [intOf]; omega
    obtain rfl : m = D.length := by omega
    go_wp2_with fail
    refine (filledD_nil _).mono ?_
    rintro e w1 ⟨rfl, r1, q1⟩
    have hmb : x0.heap.size < wa.heap.size := HA.out.1.lt
    have H1 : Hid (IM w1 x0.heap.size D.length (mapC D D.length) ∧ Below x0.heap.size x0 w1 ∧ RisD w1 wa.heap.size (histL D R 0)) := ⟨HA.out.1.later q1, HA.out.2.1.trans (q1.mono HA.out.2.1.size), r1⟩
    clear r1 q1 HA
    go_wp2_with fail
    go_loopw [30] (fun i wr => ∃ k : Nat, k ≤ nk ∧ i = .int .i64 k ∧ Hid (IM wr x0.heap.size D.length (mapC D D.length) ∧ Below x0.heap.size x0 wr ∧ RisD wr wa.heap.size (histL D R k))) (fun i _ => nk - (intOf i).toNat)
    case atStart => exact ⟨0, Nat.zero_le _, rfl, H1⟩
    case round =>
      clear H1
      obtain ⟨k, hk, rfl, HB⟩ := hrel
      obtain ⟨wb, rfl⟩ : ∃ x, x = wr := ⟨_, rfl⟩
      by_cases hlt : k < nk
      case neg =>
        obtain rfl : k = nk := by omega
        obtain ⟨vv, r1, r2⟩ := HB.out.2.2
        obtain ⟨ao, cp, rfl⟩ := r2.form
        obtain ⟨LN, hLN⟩ : ∃ LN, (histL D R k).length = LN := ⟨_, rfl⟩
        have HLN : Hid ((histL D R k).length = LN) := hLN
        have HO : Hid (Own wb x0.heap.size 61 2 (histL D R k).length (rowL (histL D R k)) (.slice ao (histL D R k).length cp) ∧ Below x0.heap.size x0 wb) := ⟨r2.mono (by omega), HB.out.2.1⟩
        rw [hLN] at r1
        obtain ⟨⟨s0, s1⟩, _⟩ := r1
        clear hLN r2 HB
        go_wp2
        refine bodyPost_ret (v := .slice ao LN cp) (by simp [results, Tryz.results70, go_sem]) rfl ?_
        rw [← HLN.out]
        exact ⟨ao, cp, rfl, HO.out.1, HO.out.2⟩
      obtain ⟨L, hL⟩ : ∃ L, histL D R k = L := ⟨_, rfl⟩
      have HLT : Hid ((∀ e ∈ L, e.1 < (k : Int)) ∧ histL D R k = L ∧ RisesD L ∧ L.length ≤ 30) := ⟨fun e he => histL_lt D R k e (by rw [hL]; exact he), hL, by rw [← hL]; exact histL_rises D R k, by have := histL_len D R k; rw [hL] at this; omega⟩
      rw [hL] at HB
      clear hL
      obtain ⟨gq, oq, haq, _, hgq, y0, y1, y2, y3, y4, y5, y6, y7, y8, y9⟩ := (HRW.out.later HB.out.2.1).at10 hlt
      subst haq
      have HF1 := HFT.out k hlt
      obtain ⟨j0, hx0⟩ : ∃ x, R (k * 10) = x := ⟨_, rfl⟩
      rw [hx0] at y0
      obtain ⟨j1, hx1⟩ : ∃ x, R (k * 10 + 1) = x := ⟨_, rfl⟩
      rw [hx1] at y1
      obtain ⟨j2, hx2⟩ : ∃ x, R (k * 10 + 2) = x := ⟨_, rfl⟩
      rw [hx2] at y2
      obtain ⟨j3, hx3⟩ : ∃ x, R (k * 10 + 3) = x := ⟨_, rfl⟩
      rw [hx3] at y3
      obtain ⟨j4, hx4⟩ : ∃ x, R (k * 10 + 4) = x := ⟨_, rfl⟩
      rw [hx4] at y4
      obtain ⟨j5, hx5⟩ : ∃ x, R (k * 10 + 5) = x := ⟨_, rfl⟩
      rw [hx5] at y5
      obtain ⟨j6, hx6⟩ : ∃ x, R (k * 10 + 6) = x := ⟨_, rfl⟩
      rw [hx6] at y6
      obtain ⟨j7, hx7⟩ : ∃ x, R (k * 10 + 7) = x := ⟨_, rfl⟩
      rw [hx7] at y7
      obtain ⟨j8, hx8⟩ : ∃ x, R (k * 10 + 8) = x := ⟨_, rfl⟩
      rw [hx8] at y8
      obtain ⟨j9, hx9⟩ : ∃ x, R (k * 10 + 9) = x := ⟨_, rfl⟩
      rw [hx9] at y9
      have HX : Hid (R (k * 10 + 6) = j6 ∧ R (k * 10 + 7) = j7) := ⟨hx6, hx7⟩
      rw [hx6, hx7] at HF1
      clear hx0 hx1 hx2 hx3 hx4 hx5 hx6 hx7 hx8 hx9
      have hwf : (Lit.int .i64 j6).wf = true := wf_keyI HF1.2.1 (by omega)
      have hlook := (HB.out.1.later (below_alloc wb (.cells #[.int .i64 j0, .int .i64 j1, .int .i64 j2, .int .i64 j3, .int .i64 j4, .int .i64 j5, .int .i64 j6, .int .i64 j7, .int .i64 j8, .int .i64 j9] 65))).look hwf
      have HB1 : Hid (IM (wb.alloc (.cells #[.int .i64 j0, .int .i64 j1, .int .i64 j2, .int .i64 j3, .int .i64 j4, .int .i64 j5, .int .i64 j6, .int .i64 j7, .int .i64 j8, .int .i64 j9] 65)) x0.heap.size D.length (mapC D D.length) ∧ Below x0.heap.size x0 (wb.alloc (.cells #[.int .i64 j0, .int .i64 j1, .int .i64 j2, .int .i64 j3, .int .i64 j4, .int .i64 j5, .int .i64 j6, .int .i64 j7, .int .i64 j8, .int .i64 j9] 65)) ∧ RisD (wb.alloc (.cells #[.int .i64 j0, .int .i64 j1, .int .i64 j2, .int .i64 j3, .int .i64 j4, .int .i64 j5, .int .i64 j6, .int .i64 j7, .int .i64 j8, .int .i64 j9] 65)) wa.heap.size L) := ⟨HB.out.1.later (below_alloc _ _), HB.out.2.1.alloc HB.out.2.1.size _, HB.out.2.2.later (below_alloc _ _)⟩
      have hput := fun c => put_anyD L wa.heap.size k c (wb.alloc (.cells #[.int .i64 j0, .int .i64 j1, .int .i64 j2, .int .i64 j3, .int .i64 j4, .int .i64 j5, .int .i64 j6, .int .i64 j7, .int .i64 j8, .int .i64 j9] 65)) HB1.out.2.2 HLT.out.2.2.1 (fun e he => by have := HLT.out.1 e he; omega) (by have := HLT.out.2.2.2; omega)
      have HPU : Hid (∀ c, Calls Tryz.prog 100 #[.pointer (some ⟨wa.heap.size, 0, none⟩), .agg #[.int .i64 k, .int .i64 c]] (wb.alloc (.cells #[.int .i64 j0, .int .i64 j1, .int .i64 j2, .int .i64 j3, .int .i64 j4, .int .i64 j5, .int .i64 j6, .int .i64 j7, .int .i64 j8, .int .i64 j9] 65)) fun e w' => e = .returned (.tuple #[]) ∧ RisD w' wa.heap.size (putD L (k, c)) ∧ Below wa.heap.size (wb.alloc (.cells #[.int .i64 j0, .int .i64 j1, .int .i64 j2, .int .i64 j3, .int .i64 j4, .int .i64 j5, .int .i64 j6, .int .i64 j7, .int .i64 j8, .int .i64 j9] 65)) w') := hput
      have hmbb : x0.heap.size < wb.heap.size := HB.out.1.lt
      clear hput HB
      by_cases hp : j6 = -1
      case pos =>
        have d1 : (j6 == -1) = true := beq_iff_eq.2 hp
        have HNX : Hid (histL D R (k + 1) = putD L (k, j7)) := by
          have e1 : whenC D (R (k * 10 + 6)) (R (k * 10 + 7)) = j7 := by rw [HX.out.1, HX.out.2]; unfold whenC; rw [if_neg (by omega)]
          unfold Hid
          rw [histL, e1, if_neg (by omega), HLT.out.2.1]
        clear HX hp
        obtain ⟨lv, hlv⟩ : ∃ lv, (mapC D D.length j6).getD 0 = lv := ⟨_, rfl⟩
        obtain ⟨lb, hlb⟩ : ∃ lb, (mapC D D.length j6).isSome = lb := ⟨_, rfl⟩
        rw [hlv, hlb] at hlook
        clear hlv hlb
        go_wp2_with fail
        refine (HPU.out j7).mono ?_
        rintro e w2 ⟨rfl, hr2, q2⟩
        have H2 : Hid (IM w2 x0.heap.size D.length (mapC D D.length) ∧ Below x0.heap.size x0 w2 ∧ RisD w2 wa.heap.size (histL D R (k + 1))) := ⟨HB1.out.1.kept (q2.block _ hmb), HB1.out.2.1.trans (q2.mono (by omega)), by rw [HNX.out]; exact hr2⟩
        clear hr2 q2 HB1 HPU hlook
        go_wp2
        go_roundw
        case rel => exact ⟨k + 1, by omega, by go_num, H2⟩
        case measure => simp [intOf]; omega
      have d1 : (j6 == -1) = false := beq_eq_false_iff_ne.2 hp
      have hge : 0 ≤ j6 := by omega
      rcases mapC_last HP.out.1 j6 D.length (Nat.le_refl _) with ⟨m1, m2⟩ | ⟨cv, hcv, m1, m2⟩
      · have HNX : Hid (histL D R (k + 1) = L) := by
          have e1 : whenC D (R (k * 10 + 6)) (R (k * 10 + 7)) = 0 := by rw [HX.out.1]; unfold whenC; rw [if_pos hge, m2]
          unfold Hid
          rw [histL, e1, if_pos rfl, HLT.out.2.1]
        rw [m1] at hlook
        have hlook' : (Instr.lookup 176 (.map (some x0.heap.size)) (.int .i64 j6) true).run Tryz.prog (wb.alloc (.cells #[.int .i64 j0, .int .i64 j1, .int .i64 j2, .int .i64 j3, .int .i64 j4, .int .i64 j5, .int .i64 j6, .int .i64 j7, .int .i64 j8, .int .i64 j9] 65)) = .ok (.tuple #[.int .i64 0, .bool false]) (wb.alloc (.cells #[.int .i64 j0, .int .i64 j1, .int .i64 j2, .int .i64 j3, .int .i64 j4, .int .i64 j5, .int .i64 j6, .int .i64 j7, .int .i64 j8, .int .i64 j9] 65)) := hlook
        clear HX hp m1 m2 hlook hge
        go_wp2
        go_roundw
        case rel => exact ⟨k + 1, by omega, by go_num, by rw [HNX.out]; exact HB1⟩
        case measure => simp [intOf]; omega
      · have HNX : Hid (histL D R (k + 1) = putD L (k, cv)) := by
          have e1 : whenC D (R (k * 10 + 6)) (R (k * 10 + 7)) = cv := by rw [HX.out.1]; unfold whenC; rw [if_pos hge, m2]
          unfold Hid
          rw [histL, e1, if_neg (by omega), HLT.out.2.1]
        rw [m1] at hlook
        have hlook' : (Instr.lookup 176 (.map (some x0.heap.size)) (.int .i64 j6) true).run Tryz.prog (wb.alloc (.cells #[.int .i64 j0, .int .i64 j1, .int .i64 j2, .int .i64 j3, .int .i64 j4, .int .i64 j5, .int .i64 j6, .int .i64 j7, .int .i64 j8, .int .i64 j9] 65)) = .ok (.tuple #[.int .i64 cv, .bool true]) (wb.alloc (.cells #[.int .i64 j0, .int .i64 j1, .int .i64 j2, .int .i64 j3, .int .i64 j4, .int .i64 j5, .int .i64 j6, .int .i64 j7, .int .i64 j8, .int .i64 j9] 65)) := hlook
        clear HX hp m1 m2 hlook hge
        go_wp2_with fail
        refine (HPU.out cv).mono ?_
        rintro e w2 ⟨rfl, hr2, q2⟩
        have H2 : Hid (IM w2 x0.heap.size D.length (mapC D D.length) ∧ Below x0.heap.size x0 w2 ∧ RisD w2 wa.heap.size (histL D R (k + 1))) := ⟨HB1.out.1.kept (q2.block _ hmb), HB1.out.2.1.trans (q2.mono (by omega)), by rw [HNX.out]; exact hr2⟩
        clear hr2 q2 HB1 HPU hlook'
        go_wp2
        go_roundw
        case rel => exact ⟨k + 1, by omega, by go_num, H2⟩
        case measure => simp [intOf]; omega
end Go.Proofs.YtjkchhcnochjlaaGreatDoor

namespace Go.Proofs.YtjkchhcnochjlaaGreatDoor
open Go.RowKit

theorem world_dones {nw nx bd : Int} {nr : Nat} {F : Nat → Int} {n : Nat} {S : Nat → Sto} {nt : Nat} {T : Nat → Tx} (h : worldF nw nx bd nr F n S nt T = 0) : ∃ R : Nat → Option Int, ∀ i, i < nt → DoneAt nr F S (T i) (R i) := by
  have Z := world_fine h
  have hall : ∀ i, ∃ r, i < nt → DoneAt nr F S (T i) r := fun i => by
    by_cases hi : i < nt
    · obtain ⟨r, hr⟩ := DoneAt.get (S := S) (groupsF_zero Z.1).1 (Z.2.2 i hi).2
      exact ⟨r, fun _ => hr⟩
    · exact ⟨none, fun q => absurd q hi⟩
  exact Classical.axiomOfChoice hall
end Go.Proofs.YtjkchhcnochjlaaGreatDoor

namespace Go.Proofs.YtjkchhcnochjlaaGreatDoor
open Go.RowKit

/-- n numbers from k on. -/
def up (k : Int) (n : Nat) : List Int := (List.range n).map (fun j => k + (j : Nat))
end Go.Proofs.YtjkchhcnochjlaaGreatDoor

namespace Go.Proofs.YtjkchhcnochjlaaGreatDoor
open Go.RowKit

/-- A list literal lies in its own block. -/
theorem OwnM.lit (Y : World) (e : TypeId) (m n : Nat) (L : List Int) (cs : Array Value) (hcs : cs = (L.map (Value.int .i64)).toArray) (hl : L.length = n * m) (hn : n ≤ maxLen) : OwnM (Y.alloc (.cells cs e)) Y.heap.size e m (.slice (some ⟨Y.heap.size, 0, none⟩) n n) n L := by
  subst hcs
  have := World.ownsRow_lit (e := e) Y (L.map (Value.int .i64)).toArray n (Nat.le_refl _) hn (size := m) (by simp [hl])
  simpa [OwnM] using this
theorem heap_setRow (x : World) (b : Nat) (cs : Array Value) (k : Nat) (hk : k ≠ b) : (x.setRow b cs).heap[k]? = x.heap[k]? := by simp [World.setRow, Array.getElem?_modify]; omega
theorem below_row {B : Nat} {w z : World} (h : Below B w z) {g : Nat} (hg : B ≤ g) (cs : Array Value) : Below B w (z.setRow g cs) :=
  ⟨h.os, h.tape, h.output, by simpa [World.setRow] using h.size, fun k hk => (heap_setRow z g cs k (by omega)).trans (h.block k hk)⟩
end Go.Proofs.YtjkchhcnochjlaaGreatDoor

namespace Go.Proofs.YtjkchhcnochjlaaGreatDoor
open Go.RowKit

theorem donesL_mem (Q : Nat → Option Int) : ∀ (k : Nat) (e : Int × Int), e ∈ donesL Q k → ∃ i : Nat, i < k ∧ e.1 = (i : Int) ∧ Q i = some e.2
  | 0, e, h => absurd h (by simp [donesL])
  | k + 1, e, h => by
    rw [donesL] at h
    split at h
    · rename_i c hc
      rcases putD_mem h with rfl | q
      · exact ⟨k, by omega, rfl, hc⟩
      · obtain ⟨i, h1, h2⟩ := donesL_mem Q k e q
        exact ⟨i, by omega, h2⟩
    · obtain ⟨i, h1, h2⟩ := donesL_mem Q k e h
      exact ⟨i, by omega, h2⟩
theorem write_pos {k : Nat → Int} {i : Nat} (h : writeF k i = 0) : 1 ≤ k (i * 4 + 1) := by
  unfold writeF at h
  split at h
  · rename_i q
    exact absurd h q
  · split at h
    · exact absurd h (by decide)
    · rename_i q
      omega
theorem dones_pos {nw nx bd : Int} {nr : Nat} {F : Nat → Int} {n : Nat} {S : Nat → Sto} {nt : Nat} {T : Nat → Tx} {Q : Nat → Option Int} (hw : worldF nw nx bd nr F n S nt T = 0) (hQ : ∀ i, i < nt → DoneAt nr F S (T i) (Q i)) : ∀ m, m < (donesL Q nt).length → 1 ≤ ((donesL Q nt).getD m (0, 0)).2 ∧ 0 ≤ ((donesL Q nt).getD m (0, 0)).1 ∧ ((donesL Q nt).getD m (0, 0)).1 ≤ 16 := fun m hm => by
  have Z := world_fine hw
  have ZG := groupsF_zero Z.1
  have hin : (donesL Q nt).getD m (0, 0) ∈ donesL Q nt := by rw [List.getD_eq_getElem?_getD, List.getElem?_eq_getElem hm]; exact List.getElem_mem hm
  obtain ⟨i, hi, h1, h2⟩ := donesL_mem Q nt _ hin
  have h16 := Z.2.1
  refine ⟨?_, by omega, by omega⟩
  obtain ⟨j, hj, hd⟩ := hQ i hi
  rw [h2] at hd
  rcases hd with ⟨k, hk, e⟩ | ⟨_, e⟩
  · have hjn : j < n := by rw [ZG.2.1]; exact hj.1
    have hs := scan_zero (storeF_zero (ZG.2.2.1 j hjn).1).2.2.2.1 k hk.1.1
    have := write_pos hs
    have e2 := Option.some.inj e
    omega
  · cases e
/-- What HistoryOf answers: a code and a list. -/
def HsAns (nw nx bd : Int) (nr : Nat) (F : Nat → Int) (n : Nat) (S : Nat → Sto) (nt : Nat) (T : Nat → Tx) (nq : Nat) (R : Nat → Int) (c : Int) (L : Prs) : Prop :=
  (fsW nw nx bd nr F n S nt T nq R ≠ 0 ∧ c = fsW nw nx bd nr F n S nt T nq R ∧ L = []) ∨
  (fsW nw nx bd nr F n S nt T nq R = 0 ∧ c = 0 ∧ ∃ D, (∀ i, i < nt → DoneAt nr F S (T i) (D i)) ∧ histL (donesL D nt) R nq = L)
theorem HsAns.get (nw nx bd : Int) (nr : Nat) (F : Nat → Int) (n : Nat) (S : Nat → Sto) (nt : Nat) (T : Nat → Tx) (nq : Nat) (R : Nat → Int) : ∃ c L, L.length ≤ 192 ∧ HsAns nw nx bd nr F n S nt T nq R c L := by
  by_cases h : fsW nw nx bd nr F n S nt T nq R = 0
  · have hw := (fsW_zero h).1
    obtain ⟨D, hD⟩ := world_dones hw
    exact ⟨0, _, Nat.le_trans (histL_len _ _ _) (by have := (fsW_zero h).2.1; omega), Or.inr ⟨h, rfl, D, hD, rfl⟩⟩
  · exact ⟨_, [], by simp, Or.inl ⟨h, rfl, rfl⟩⟩
/-- Block b is one that a history's answer lies in. -/
def HBk (x : World) (b : Nat) : Prop := ∃ old : Array Value, x.heap[b]? = some (.cells old 91 (0, 0)) ∧ old.size = 2
theorem HBk.lt {x : World} {b : Nat} (h : HBk x b) : b < x.heap.size := by
  obtain ⟨old, h, _⟩ := h
  exact (Array.getElem?_eq_some_iff.1 h).1
theorem HBk.kept {x x' : World} {b : Nat} (h : HBk x b) (hb : x'.heap[b]? = x.heap[b]?) : HBk x' b := by
  obtain ⟨old, h, hs⟩ := h
  exact ⟨old, hb.trans h, hs⟩
theorem HBk.later {x x' : World} {b : Nat} (h : HBk x b) (hb : Below x.heap.size x x') : HBk x' b := h.kept (hb.block b h.lt)
theorem HBk.new (w : World) (a0 a1 : Value) : HBk (w.alloc (.cells #[a0, a1] 91)) w.heap.size := ⟨_, heap_alloc_new w _, rfl⟩
theorem step_storeH {ops : Array Oper} {o : Oper} {a : Act} {w : World} {K : Act → World → Prop} {Q : Exit → Act → World → Prop} {E : Prop} (hgd : o.guard = none) (x y : Operand) (ho : o.op = .store 91 x y)
    (g : Nat) (a0 a1 : Value) (hx : a.eval x = .pointer (some ⟨g, 0, none⟩)) (hy : a.eval y = .agg #[a0, a1]) (hP : HBk w g) (h1 : (#[a0, a1] : Array Value).all (·.oneCell') = true)
    (h : K (a.put o.dst undef) (w.setRow g #[a0, a1])) : if Region.wanted o (yielded ops a.tmps) = true then Oper.wp Tryz.prog o a w K Q else E := by
  have hw : Region.wanted o (yielded ops a.tmps) = true := by simp [Region.wanted, hgd]
  rw [if_pos hw]
  obtain ⟨old, hg, hs⟩ := hP
  exact wp_store_row 91 x y ho g #[a0, a1] hx hy 91 old hg (by kernel_rfl) hs h1 h
theorem HBk.blk {x : World} {b : Nat} (h : HBk x b) (a0 a1 : Value) : Blk2 (x.setRow b #[a0, a1]) b a0 a1 := by
  obtain ⟨old, hg, _⟩ := h
  have e : (x.setRow b #[a0, a1]).heap[b]? = some (.cells #[a0, a1] 91 (0, 0)) := by simp [World.setRow, Array.getElem?_modify, hg]
  refine ⟨⟨?_, ?_⟩, ?_, ?_⟩ <;> simp [World.cell?, World.frozen?, e]
set_option maxRecDepth 100000 in
set_option maxHeartbeats 4000000 in
theorem implHistoryOf_is (nw nx bd : Int) (nr : Nat) (F : Nat → Int) (n : Nat) (S : Nat → Sto) (V : Nat → Nat → Value) (vr vs : Value) (nt : Nat) (T : Nat → Tx) (X : Nat → Value) (vt : Value) (nq : Nat) (R : Nat → Int) (vq : Value) (B : Nat) (c : Int) (L : Prs) (w : World) (h : Grs w B nr F n S V vr vs) (hx : Txs w B nt T X vt) (hq : Row w B 10 nq R vq) (hr : nr ≤ 9223372036854775807) (hn : n ≤ 9223372036854775807) (ht : nt ≤ 9223372036854775807) (hnq : nq ≤ 9223372036854775807) (hm : ∀ i, i < nt → (T i).m ≤ 9223372036854775807) (hA : HsAns nw nx bd nr F n S nt T nq R c L) :
    Calls Tryz.prog 36 #[.agg #[.int .i64 nw, .int .i64 nx, .int .i64 bd, vr, vs, vt, vq]] w (ResRow 2 w c L.length (rowL L)) := by
  obtain ⟨a0, c0, a1, c1, rfl, rfl⟩ := h.form
  obtain ⟨a2, c2, rfl⟩ := hx.form
  obtain ⟨a3, c3, rfl⟩ := hq.form
  have H0 : Hid (LiesF ((w.alloc (.cells #[.int .i64 nw, .int .i64 nx, .int .i64 bd, .slice a0 nr c0, .slice a1 n c1, .slice a2 nt c2, .slice a3 nq c3] 48)).alloc (.cells #[.int .i64 0, .slice none 0 0] 91)) w.heap.size nw nx bd nr F n S V (.slice a0 nr c0) (.slice a1 n c1) nt T X (.slice a2 nt c2) nq R (.slice a3 nq c3) ∧ Blk2 ((w.alloc (.cells #[.int .i64 nw, .int .i64 nx, .int .i64 bd, .slice a0 nr c0, .slice a1 n c1, .slice a2 nt c2, .slice a3 nq c3] 48)).alloc (.cells #[.int .i64 0, .slice none 0 0] 91)) (w.heap.size + 1) (.int .i64 0) (.slice none 0 0) ∧ Below w.heap.size w ((w.alloc (.cells #[.int .i64 nw, .int .i64 nx, .int .i64 bd, .slice a0 nr c0, .slice a1 n c1, .slice a2 nt c2, .slice a3 nq c3] 48)).alloc (.cells #[.int .i64 0, .slice none 0 0] 91))) := by
    have k := Blk2.new (w.alloc (.cells #[.int .i64 nw, .int .i64 nx, .int .i64 bd, .slice a0 nr c0, .slice a1 n c1, .slice a2 nt c2, .slice a3 nq c3] 48)) (.int .i64 0) (.slice none 0 0) 91
    rw [World.size_alloc] at k
    exact ⟨LiesF.later ⟨Blk7F.new w _ _ _ _ _ _ _ _, (h.mono (Nat.zero_le _)).alloc _, (hx.mono (Nat.zero_le _)).alloc _, (hq.mono (Nat.zero_le _)).later (below_alloc _ _)⟩ (below_alloc _ _), k, (below_alloc _ _).alloc (by simp) _⟩
  have HM : Hid (∀ i, i < nt → (T i).m ≤ 9223372036854775807) := hm
  clear h hx hm hq
  obtain ⟨f, E⟩ : ∃ f, Hid (fsW nw nx bd nr F n S nt T nq R = f) := ⟨_, rfl⟩
  obtain ⟨⟨k0, k1, k2, k3, k4, k5, k6⟩, _⟩ := H0.out.1.1
  rcases hA with ⟨h1, rfl, rfl⟩ | ⟨h1, rfl, D, hD, hL⟩
  · rw [E.out] at h1
    have d : (f != 0) = true := bne_iff_ne.2 h1
    rw [E.out]
    clear h1
    go_enter Tryz.func36, Tryz.ntmps36
    go_wp2_with fail
    refine (implFsWorldFault_any nw nx bd nr F n S V _ _ nt T X _ nq R _ 0 _ H0.out.1.2.1 H0.out.1.2.2.1 H0.out.1.2.2.2 hr hn ht hnq).mono ?_
    rw [E.out]
    rintro e w1 ⟨rfl, q1⟩
    have hb := H0.out.2.1.later q1
    have HB : Hid (Below w.heap.size w w1) := H0.out.2.2.trans (q1.mono (by simp; omega))
    obtain ⟨⟨b0, b1⟩, y0, y1⟩ := hb
    clear q1 H0 k0 k1 k2 k3 k4 k5 k6
    go_wp2
    refine bodyPost_ret (v := .agg #[.int .i64 f, .slice none 0 0]) (by simp [results, Tryz.results36, go_sem, b0, b1]) rfl ?_
    exact res_noneD rfl ((HB.out.setCell (by simp) _).setCell (by simp) _)
  · have hw := (fsW_zero h1).1
    have Z := world_fine hw
    have ZG := groupsF_zero Z.1
    have ZP := dones_pos hw hD
    have HR : Hid ((∀ i, i < nt → DoneAt n F S (T i) (D i)) ∧ histL (donesL D nt) R nq = L) := ⟨by rw [ZG.2.1]; exact hD, hL⟩
    have HP : Hid ((∀ m, m < (donesL D nt).length → 1 ≤ ((donesL D nt).getD m (0, 0)).2) ∧ ∀ m, m < (donesL D nt).length → 0 ≤ ((donesL D nt).getD m (0, 0)).1 ∧ ((donesL D nt).getD m (0, 0)).1 ≤ 16) := ⟨fun m hm => (ZP m hm).1, fun m hm => (ZP m hm).2⟩
    have HZ : Hid ((n = nr ∧ n ≤ 12) ∧ (∀ i, i < n → storeF (S i) = 0) ∧ nt ≤ 16 ∧ (∀ i, i < nt → 1 ≤ (T i).m ∧ (T i).m ≤ 12) ∧ nq ≤ 30 ∧ ∀ i, i < nq → 1 ≤ R (i * 10 + 7) ∧ -1 ≤ R (i * 10 + 6) ∧ R (i * 10 + 6) ≤ 16) := ⟨⟨ZG.2.1, by have := ZG.1.n6; have := ZG.2.1; omega⟩, fun i hi => (ZG.2.2.1 i hi).1, Z.2.1, fun i hi => (Z.2.2 i hi).1, (fsW_zero h1).2.1, fun i hi => by have := (runF_zero ((fsW_zero h1).2.2 i hi)).2; have := Z.2.1; unfold Fits at *; omega⟩
    have HBK : Hid (HBk ((w.alloc (.cells #[.int .i64 nw, .int .i64 nx, .int .i64 bd, .slice a0 nr c0, .slice a1 n c1, .slice a2 nt c2, .slice a3 nq c3] 48)).alloc (.cells #[.int .i64 0, .slice none 0 0] 91)) (w.heap.size + 1)) := by
      have k := HBk.new (w.alloc (.cells #[.int .i64 nw, .int .i64 nx, .int .i64 bd, .slice a0 nr c0, .slice a1 n c1, .slice a2 nt c2, .slice a3 nq c3] 48)) (.int .i64 0) (.slice none 0 0)
      rw [World.size_alloc] at k
      exact k
    obtain rfl : f = 0 := E.out.symm.trans h1
    clear hD hL h1 Z ZG hw ZP
    go_enter Tryz.func36, Tryz.ntmps36
    go_wp2_with fail
    refine (implFsWorldFault_any nw nx bd nr F n S V _ _ nt T X _ nq R _ 0 _ H0.out.1.2.1 H0.out.1.2.2.1 H0.out.1.2.2.2 hr hn ht hnq).mono ?_
    rw [E.out]
    rintro e w1 ⟨rfl, q1⟩
    have H1 : Hid (LiesF w1 w.heap.size nw nx bd nr F n S V (.slice a0 nr c0) (.slice a1 n c1) nt T X (.slice a2 nt c2) nq R (.slice a3 nq c3) ∧ HBk w1 (w.heap.size + 1) ∧ Below w.heap.size w w1) := ⟨H0.out.1.later q1, HBK.out.later q1, H0.out.2.2.trans (q1.mono (by simp; omega))⟩
    clear q1 H0 k0 k1 k2 k3 k4 k5 k6 HBK
    go_upto_region 4 with fail
    have H2 : Hid (LiesF w1.drew w.heap.size nw nx bd nr F n S V (.slice a0 nr c0) (.slice a1 n c1) nt T X (.slice a2 nt c2) nq R (.slice a3 nq c3) ∧ HBk w1.drew (w.heap.size + 1) ∧ Below w.heap.size w w1.drew) := ⟨H1.out.1.later (Below.refl _ w1).drew, H1.out.2.1.later (Below.refl _ w1).drew, H1.out.2.2.drew⟩
    refine wp_region_held_drew (S := fun Y : World => Blk7F Y w.heap.size (.int .i64 nw) (.int .i64 nx) (.int .i64 bd) (.slice a0 nr c0) (.slice a1 n c1) (.slice a2 nt c2) (.slice a3 nq c3)) (by kernel_rfl) H2.out.1.1 (fun hS => ?_)
    generalize w1.drew = w2 at hS H2 ⊢
    clear H1
    refine tkH 0 ?_ hS (fun wx hx => ?_) ?_; rotate_left
    · obtain ⟨⟨hx0, hx1, hx2, hx3, hx4, hx5, hx6⟩, _⟩ := hx; go_simp; try with_reducible rfl
    refine tkH 1 ?_ hS (fun wx hx => ?_) ?_; rotate_left
    · obtain ⟨⟨hx0, hx1, hx2, hx3, hx4, hx5, hx6⟩, _⟩ := hx; go_simp; try with_reducible rfl
    refine tkH 3 ?_ hS (fun wx hx => ?_) ?_; rotate_left
    · obtain ⟨⟨hx0, hx1, hx2, hx3, hx4, hx5, hx6⟩, _⟩ := hx; go_simp; try with_reducible rfl
    refine tkH 4 ?_ hS (fun wx hx => ?_) ?_; rotate_left
    · obtain ⟨⟨hx0, hx1, hx2, hx3, hx4, hx5, hx6⟩, _⟩ := hx; go_simp; try with_reducible rfl
    try simp only [Act.put, List.getElem_toArray, List.getElem_cons_zero, List.getElem_cons_succ, List.setIfInBounds_toArray, List.set_cons_succ, List.set_cons_zero]
    refine rdH 2 (fun K hK => ?_)
    go_simp
    go_wp2_with fail
    refine (workOn_is nw nx bd nr F n S V _ _ nt T X _ 0 _ H2.out.1.2.1 H2.out.1.2.2.1 HZ.out.2.1 HZ.out.1.1 HZ.out.1.2 HZ.out.2.2.1 HZ.out.2.2.2.1).mono ?_
    rintro e w3 ⟨b, B2, g, P, Y, v, rfl, hW⟩
    have HD : Hid (DonE w3 b nw nx bd n F S g P w2.heap.size nt T Y v w3) := ⟨Below.refl _ _, hW.kb, hW.work, hW.txs.txs.mono (Nat.zero_le _)⟩
    have H3 : Hid (Row w3 0 10 nq R (.slice a3 nq c3) ∧ HBk w3 (w.heap.size + 1) ∧ Below w.heap.size w w3) := ⟨H2.out.1.2.2.2.later hW.below, H2.out.2.1.later hW.below, H2.out.2.2.trans (hW.below.mono H2.out.2.2.size)⟩
    have hS' : Blk7F w3 w.heap.size (.int .i64 nw) (.int .i64 nx) (.int .i64 bd) (.slice a0 nr c0) (.slice a1 n c1) (.slice a2 nt c2) (.slice a3 nq c3) := hS.later hW.below
    clear hW H2 hS
    go_wp2_with fail
    refine hK.out _ _ hS' (fun hS => ?_)
    clear hK K hS'
    refine rdH 5 (fun K hK => ?_)
    go_simp
    go_wp2_with fail
    refine (history_is w3 b nw nx bd n F S g P w2.heap.size nt T Y v D _ nq R _ HD.out H3.out.1 HR.out.1 rfl HZ.out.1.2 HZ.out.2.2.1 (fun i hi => (HZ.out.2.2.2.1 i hi).1) HZ.out.2.2.2.2.1 HP.out.1 HP.out.2 HZ.out.2.2.2.2.2).mono ?_
    rw [HR.out.2]
    rintro e w4 ⟨ro, rc, rfl, hr2, q4⟩
    have hbw : w.heap.size + 1 < w3.heap.size := H3.out.2.1.lt
    have HO : Hid (Own w4 w3.heap.size 61 2 L.length (rowL L) (.slice ro L.length rc) ∧ Below w.heap.size w w4 ∧ HBk w4 (w.heap.size + 1)) := ⟨hr2, H3.out.2.2.trans (q4.mono H3.out.2.2.size), H3.out.2.1.later q4⟩
    have hS' : Blk7F w4 w.heap.size (.int .i64 nw) (.int .i64 nx) (.int .i64 bd) (.slice a0 nr c0) (.slice a1 n c1) (.slice a2 nt c2) (.slice a3 nq c3) := hS.later q4
    clear hr2 q4 H3 HD hS
    obtain ⟨LN, hLN⟩ : ∃ LN, L.length = LN := ⟨_, rfl⟩
    have HLN : Hid (L.length = LN) := hLN
    rw [hLN] at HO ⊢
    clear hLN
    go_wp2_with fail
    refine hK.out _ _ hS' (fun hS => ?_)
    clear hK K hS'
    refine tkH 6 ?_ hS (fun wx hx => ?_) ?_; rotate_left
    · obtain ⟨⟨hx0, hx1, hx2, hx3, hx4, hx5, hx6⟩, _⟩ := hx; go_simp; try with_reducible rfl
    try simp only [Act.put, List.getElem_toArray, List.getElem_cons_zero, List.getElem_cons_succ, List.setIfInBounds_toArray, List.set_cons_succ, List.set_cons_zero]
    refine rdH 7 (fun K hK => ?_)
    refine step_storeH rfl _ _ rfl (w.heap.size + 1) _ _ rfl rfl HO.out.2.2 (by kernel_rfl) ?_
    have KB : Hid (Blk2 (w4.setRow (w.heap.size + 1) #[.int .i64 0, .slice ro LN rc]) (w.heap.size + 1) (.int .i64 0) (.slice ro LN rc)) := HO.out.2.2.blk _ _
    have HF : Hid (Own (w4.setRow (w.heap.size + 1) #[.int .i64 0, .slice ro LN rc]) w3.heap.size 61 2 LN (rowL L) (.slice ro LN rc) ∧ Below w.heap.size w (w4.setRow (w.heap.size + 1) #[.int .i64 0, .slice ro LN rc])) := ⟨HO.out.1.kept (fun k hk => heap_setRow _ _ _ _ (by have := (own_in HO.out.1 k hk).1; omega)), below_row HO.out.2.1 (by omega) _⟩
    have hS' : Blk7F (w4.setRow (w.heap.size + 1) #[.int .i64 0, .slice ro LN rc]) w.heap.size (.int .i64 nw) (.int .i64 nx) (.int .i64 bd) (.slice a0 nr c0) (.slice a1 n c1) (.slice a2 nt c2) (.slice a3 nq c3) := hS.kept (heap_setRow _ _ _ _ (by omega))
    clear hS HO
    refine hK.out _ _ hS' (fun hS => ?_)
    clear hK K hS' hS
    refine wpAnyH_done (by kernel_rfl) ?_ _
    go_simp
    obtain ⟨⟨x0, x1⟩, _⟩ := KB.out
    go_wp2
    refine bodyPost_ret (v := .agg #[.int .i64 0, .slice ro LN rc]) (by simp [results, Tryz.results36, go_sem, x0, x1]) rfl ?_
    rw [HLN.out]
    exact ⟨ro, rc, rfl, HF.out.1.row.1.mono (by omega), HF.out.1.row.2, HF.out.2⟩
end Go.Proofs.YtjkchhcnochjlaaGreatDoor

namespace Go.Proofs.YtjkchhcnochjlaaGreatDoor
open Go.RowKit Go.Shelf

theorem conv_oneD (v : Int) (w : World) (b : Nat) (h : w.cell? ⟨b, 0, none⟩ = some (.int .u8 v)) : (convert 79 9 (.slice (some ⟨b, 0, none⟩) 1 1)).run Tryz.prog w = .ok (.string ⟨#[UInt8.ofNat v.toNat]⟩) w := by
  rw [run_convert_bytes_string _ 79 9 5 _ 1 1 Tryz.underlying79 Tryz.underlying5 Tryz.underlying9]
  have hl := run_loadCells_list (P := Tryz.prog) w ⟨b, 0, none⟩ [.int .u8 v] (fun j x hj => by
    have hj0 : j = 0 := by
      have := (List.getElem?_eq_some_iff.1 hj).1
      simpa using this
    subst hj0
    have hx : Value.int .u8 v = x := by simpa using hj
    subst hx
    exact h)
  rw [run_bytesToString _ _ 1 1 [v] (by simpa using hl)]
  rfl
theorem wrapD_i64 (n : Int) (h0 : 0 ≤ n) (h1 : n ≤ 9223372036854775807) : IntKind.i64.wrap n = n := by
  simp [IntKind.wrap, IntKind.signed, IntKind.bits]; omega
theorem wrapD_u8 (n : Int) (h0 : 0 ≤ n) (h1 : n ≤ 255) : IntKind.u8.wrap n = n := by
  simp [IntKind.wrap, IntKind.signed, IntKind.bits]; omega
theorem cell_oneD (v : Int) (w : World) : (w.alloc (.cells #[.int .u8 v] 5)).cell? ⟨w.heap.size, 0, none⟩ = some (.int .u8 v) := World.cell?_alloc_mark w _ _ _ 0
/-- The decimal text of n. -/
def decT (n : Nat) : ByteArray := ⟨(Lib.decDigits n).toArray⟩
theorem decT_one {n : Nat} (h : n < 10) : decT n = ⟨#[UInt8.ofNat (48 + n)]⟩ := by unfold decT; rw [Lib.decDigits_one h]
theorem decT_more {n : Nat} (h : ¬ n < 10) : decT n = decT (n / 10) ++ ⟨#[UInt8.ofNat (48 + n % 10)]⟩ := by
  unfold decT
  rw [Lib.decDigits, dif_neg h]
  apply ByteArray.ext
  simp
theorem decT_size : ∀ (f n : Nat), n < 10 ^ (f + 1) → (decT n).size ≤ f + 1
  | 0, n, h => by rw [decT_one (by simpa using h)]; exact Nat.le_refl 1
  | f + 1, n, h => by
    by_cases h1 : n < 10
    · rw [decT_one h1]; show 1 ≤ _; omega
    · rw [decT_more h1, ByteArray.size_append]
      have := decT_size f (n / 10) (by rw [Nat.pow_succ] at h; omega)
      show _ + 1 ≤ _
      omega
set_option maxRecDepth 100000 in
set_option maxHeartbeats 2000000 in
theorem l1Digits_int : ∀ (f n : Nat) (z : Int) (w : World), Hid (z = n ∧ n < 10 ^ (f + 1)) → 0 ≤ z → f ≤ 17 →
    Calls Tryz.prog 15 #[.int .i64 z] w fun e w' => e = .returned (.string (decT n)) ∧ Below w.heap.size w w' := by
  intro f
  induction f with
  | zero =>
    intro n z w hz h0 hf
    have h9 : z ≤ 9 := by have := hz.out; simp at this; omega
    have HE : Hid (decT n = ⟨#[UInt8.ofNat (48 + z).toNat]⟩) := by
      have h := hz.out
      unfold Hid
      rw [decT_one (by simpa using h.2), show (48 + z).toNat = 48 + n by omega]
    have kc := fun w => conv_oneD (48 + z) _ _ (cell_oneD (48 + z) w)
    go_enter Tryz.func15, Tryz.ntmps15
    go_wp2
    go_ret
    exact ⟨by rw [HE.out]; rfl, (Below.refl _ _).alloc (Nat.le_refl _) _⟩
  | succ f ih =>
    intro n z w hz h0 hf
    by_cases h9 : z ≤ 9
    · exact ih n z w ⟨hz.out.1, by have := hz.out; exact Nat.lt_of_lt_of_le (show n < 10 by omega) (Nat.le_self_pow (by omega) 10)⟩ h0 (by omega)
    · have HI : Hid (∃ c q : Int, 0 ≤ c ∧ c ≤ 9 ∧ 0 ≤ q ∧ Int.tmod z 10 = c ∧ Int.tdiv z 10 = q ∧ (decT (n / 10)).size ≤ 20 ∧ decT n = decT (n / 10) ++ ⟨#[UInt8.ofNat (48 + c).toNat]⟩ ∧ ∀ w, Calls Tryz.prog 15 #[.int .i64 q] w fun e w' => e = .returned (.string (decT (n / 10))) ∧ Below w.heap.size w w') := by
        obtain ⟨hzn, hlt⟩ := hz.out
        have ec : (48 + ((n % 10 : Nat) : Int)).toNat = 48 + n % 10 := by omega
        rw [Nat.pow_succ] at hlt
        refine ⟨((n % 10 : Nat) : Int), ((n / 10 : Nat) : Int), by omega, by omega, by omega, ?_, ?_, ?_, ?_, fun w => ih (n / 10) _ w ⟨rfl, by omega⟩ (by omega) (by omega)⟩
        · rw [Int.tmod_eq_emod_of_nonneg (by omega)]; omega
        · rw [Int.tdiv_eq_ediv_of_nonneg (by omega)]; omega
        · exact Nat.le_trans (decT_size f (n / 10) (by omega)) (by omega)
        · rw [ec]; exact decT_more (by omega)
      obtain ⟨c, q, c0, c9, q0, e1, e2, hs, hd, hC⟩ := HI.out
      have HC : Hid (∀ w, Calls Tryz.prog 15 #[.int .i64 q] w fun e w' => e = .returned (.string (decT (n / 10))) ∧ Below w.heap.size w w') := hC
      have HD : Hid (decT n = decT (n / 10) ++ ⟨#[UInt8.ofNat (48 + c).toNat]⟩) := hd
      clear HI hC hd ih
      have q1 : q ≤ z := by have := Int.tdiv_eq_ediv_of_nonneg (b := 10) h0; omega
      have hz1 : z < 1000000000000000000 := by have := hz.out; have : 10 ^ (f + 1 + 1) ≤ 10 ^ 18 := Nat.pow_le_pow_right (by omega) (by omega); omega
      have hw1 : IntKind.i64.wrap q = q := wrapD_i64 q (by omega) (by omega)
      have hw2 : IntKind.i64.wrap (48 + c) = 48 + c := wrapD_i64 _ (by omega) (by omega)
      have hw3 : IntKind.u8.wrap (48 + c) = 48 + c := wrapD_u8 _ (by omega) (by omega)
      generalize decT (n / 10) = D at *
      have ka := fun w => run_string_add_sum (P := Tryz.prog) w D ⟨#[UInt8.ofNat (48 + c).toNat]⟩ (by show _ + 1 ≤ _; omega)
      go_enter Tryz.func15, Tryz.ntmps15
      go_wp2_with fail
      refine wp_region_held_drew (S := fun _ => True) (by kernel_rfl) trivial (fun hS => ?_)
      have HB0 : Hid (Below w.heap.size w w.drew) := (Below.refl _ w).drew
      generalize w.drew = wa at *
      refine tkH 0 ?_ hS (fun wx hx => ?_) ?_; rotate_left
      · go_simp; try with_reducible rfl
      refine tkH 1 ?_ hS (fun wx hx => ?_) ?_; rotate_left
      · go_simp; try with_reducible rfl
      refine tkH 3 ?_ hS (fun wx hx => ?_) ?_; rotate_left
      · go_simp; try with_reducible rfl
      refine tkH 4 ?_ hS (fun wx hx => ?_) ?_; rotate_left
      · go_simp; try with_reducible rfl
      refine tkH 5 ?_ hS (fun wx hx => ?_) ?_; rotate_left
      · go_simp; try with_reducible rfl
      refine tkH 6 ?_ hS (fun wx hx => ?_) ?_; rotate_left
      · go_simp; try with_reducible rfl
      refine wpAnyH_ready (rs := [2, 7]) (by kernel_rfl) (by simp) ?_
      refine AllReadyH.cons rfl (fun K hK => ?_) (AllReadyH.cons rfl (fun K hK => ?_) AllReadyH.nil)
      · go_simp
        go_wp2_with fail
        refine (HC.out _).mono ?_
        rintro e w1 ⟨rfl, b1⟩
        go_wp2_with fail
        refine hK.out _ _ trivial (fun hS => ?_)
        clear hK K
        refine rdH 7 (fun K hK => ?_)
        go_simp
        refine hK.out _ _ trivial (fun hS => ?_)
        clear hK K
        refine rdH 8 (fun K hK => ?_)
        have kc := conv_oneD (48 + c) _ _ (cell_oneD (48 + c) w1)
        go_simp
        refine hK.out _ _ trivial (fun hS => ?_)
        clear hK K
        refine tkH 9 ?_ hS (fun wx hx => ?_) ?_; rotate_left
        · go_simp; try with_reducible rfl
        refine tkH 10 ?_ hS (fun wx hx => ?_) ?_; rotate_left
        · go_simp; try with_reducible rfl
        refine wpAnyH_done (by kernel_rfl) ?_ _
        clear hS
        go_simp
        go_wp2
        go_ret
        exact ⟨by rw [HD.out]; rfl, (HB0.out.trans (b1.mono HB0.out.size)).alloc (by have := HB0.out.size; have := b1.size; omega) _⟩
      · go_simp
        refine hK.out _ _ trivial (fun hS => ?_)
        clear hK K
        refine wpAnyH_ready (rs := [2, 8]) (by kernel_rfl) (by simp) ?_
        refine AllReadyH.cons rfl (fun K hK => ?_) (AllReadyH.cons rfl (fun K hK => ?_) AllReadyH.nil)
        · go_simp
          go_wp2_with fail
          refine (HC.out _).mono ?_
          rintro e w1 ⟨rfl, b1⟩
          go_wp2_with fail
          refine hK.out _ _ trivial (fun hS => ?_)
          clear hK K
          refine rdH 8 (fun K hK => ?_)
          have kc := conv_oneD (48 + c) w1 wa.heap.size (by rw [b1.cell (by simp)]; exact cell_oneD (48 + c) wa)
          go_simp
          refine hK.out _ _ trivial (fun hS => ?_)
          clear hK K
          refine tkH 9 ?_ hS (fun wx hx => ?_) ?_; rotate_left
          · go_simp; try with_reducible rfl
          refine tkH 10 ?_ hS (fun wx hx => ?_) ?_; rotate_left
          · go_simp; try with_reducible rfl
          refine wpAnyH_done (by kernel_rfl) ?_ _
          clear hS
          go_simp
          go_wp2
          go_ret
          exact ⟨by rw [HD.out]; rfl, (HB0.out.alloc HB0.out.size _).trans (b1.mono (by have := HB0.out.size; simp; omega))⟩
        · have kc := conv_oneD (48 + c) _ _ (cell_oneD (48 + c) wa)
          go_simp
          refine hK.out _ _ trivial (fun hS => ?_)
          clear hK K
          refine rdH 2 (fun K hK => ?_)
          go_simp
          go_wp2_with fail
          refine (HC.out _).mono ?_
          rintro e w1 ⟨rfl, b1⟩
          go_wp2_with fail
          refine hK.out _ _ trivial (fun hS => ?_)
          clear hK K
          refine tkH 9 ?_ hS (fun wx hx => ?_) ?_; rotate_left
          · go_simp; try with_reducible rfl
          refine tkH 10 ?_ hS (fun wx hx => ?_) ?_; rotate_left
          · go_simp; try with_reducible rfl
          refine wpAnyH_done (by kernel_rfl) ?_ _
          clear hS
          go_simp
          go_wp2
          go_ret
          exact ⟨by rw [HD.out]; rfl, (HB0.out.alloc HB0.out.size _).trans (b1.mono (by have := HB0.out.size; simp; omega))⟩
theorem l1Digits_nat (n : Nat) (w : World) (h : n < 1000000000000000000) :
    Calls Tryz.prog 15 #[.int .i64 n] w fun e w' => e = .returned (.string (decT n)) ∧ Below w.heap.size w w' :=
  l1Digits_int 17 n n w ⟨rfl, by simpa using h⟩ (by omega) (by omega)
/-- The library's table of powers of ten, as its text lays it. -/
def Pow10 (w : World) : Prop := Lib.TabIs Tryz.prog w "internal/strconv.uint64pow10" .u64 Lib.pow10Tab
theorem belowD (w : World) (k : Nat) (os : Array Obj) : Below w.heap.size w (Go.Sort.grow (w.drewN k) os) :=
  ⟨rfl, rfl, rfl, by show w.heap.size ≤ (w.heap ++ os).size; rw [Array.size_append]; omega, fun j hj => by show (w.heap ++ os)[j]? = _; rw [Array.getElem?_append_left hj]⟩
theorem decimal_is (n : Nat) (w : World) (hT : Pow10 w) (h : n < 1000000000000000000) :
    Calls Tryz.prog 20 #[.int .i64 n] w fun e w' => e = .returned (.string (decT n)) ∧ Below w.heap.size w w' := by
  have HF : Hid (∀ w, Pow10 w → Calls Tryz.prog 38 #[.int .i64 n, .int .i64 10] w fun e w' => e = .returned (.string (decT n)) ∧ Below w.heap.size w w') := by
    intro w hT
    refine (Any.strconv_FormatInt_10 Tryz.laysFormat n (by omega) (by omega) w hT).mono ?_
    rintro e w' ⟨rfl, k, os, rfl⟩
    refine ⟨?_, belowD w k os⟩
    unfold decT
    rw [Lib.itoa_nonneg]
  have HT : Hid (Pow10 w) := hT
  clear hT
  generalize decT n = D at *
  go_enter Tryz.func20, Tryz.ntmps20
  go_wp2_with fail
  refine (HF.out _ HT.out).mono ?_
  rintro e w1 ⟨rfl, b1⟩
  have B1 : Hid (Below w.heap.size w w1) := b1
  clear b1
  go_wp2
  go_ret
  exact ⟨rfl, B1.out⟩
/-- The table stands where nothing that was there has turned. -/
theorem Pow10.later {w w' : World} (h : Pow10 w) (hb : Below w.heap.size w w') : Pow10 w' := by
  have hg : Tryz.prog.globalNamed "internal/strconv.uint64pow10" = some (Tryz.prog.globalNamed "internal/strconv.uint64pow10" |>.getD 0) := by kernel_rfl
  unfold Pow10 Lib.TabIs World.var? at h ⊢
  rw [hg] at h ⊢
  generalize (Tryz.prog.globalNamed "internal/strconv.uint64pow10" |>.getD 0) = g at h ⊢
  simp only [Option.bind_some] at h ⊢
  have hlt : g < w.heap.size := by
    rcases Nat.lt_or_ge g w.heap.size with h' | h'
    · exact h'
    · rw [Array.getElem?_eq_none h'] at h; cases h
  rw [hb.block g hlt]
  exact h
end Go.Proofs.YtjkchhcnochjlaaGreatDoor

namespace Go.Proofs.YtjkchhcnochjlaaGreatDoor
open Go.RowKit

/-- Whether one of the first k of a list of pairs has p as its first number. -/
def hasD (F : Nat → Int) (p : Int) : Nat → Bool
  | 0 => false
  | k + 1 => hasD F p k || (F (k * 2) == p)
theorem hasD_true {F : Nat → Int} {p : Int} : ∀ {n k : Nat}, k < n → F (k * 2) = p → hasD F p n = true
  | 0, _, h, _ => absurd h (Nat.not_lt_zero _)
  | n + 1, k, h, e => by
    rw [hasD]
    by_cases hk : k < n
    · rw [hasD_true hk e]; rfl
    · rw [show n = k by omega, e]; simp
theorem hasD_no {F : Nat → Int} {p : Int} {k : Nat} (h : hasD F p k = false) (e : F (k * 2) ≠ p) : hasD F p (k + 1) = false := by
  rw [hasD, h, beq_eq_false_iff_ne.2 e]; rfl
def noB : ByteArray := ⟨#[110, 111, 32]⟩
def okB : ByteArray := ⟨#[111, 107, 32]⟩
def waitsB : ByteArray := ⟨#[119, 97, 105, 116, 115]⟩
/-- What is told of run k: r its reply, v its value, where it counts. -/
def toldT (counts : Bool) (r v : Nat) : ByteArray := if counts = false then waitsB else if r ≠ 0 then noB ++ decT r else okB ++ decT v
theorem toldT_waits (r v : Nat) : toldT false r v = waitsB := rfl
theorem toldT_no {r : Nat} (h : r ≠ 0) (v : Nat) : toldT true r v = noB ++ decT r := by unfold toldT; rw [if_neg (by decide), if_pos h]
theorem toldT_ok (v : Nat) : toldT true 0 v = okB ++ decT v := by unfold toldT; rw [if_neg (by decide), if_neg (by decide)]
/-- What both answer. -/
def RtAns (nw nx bd : Int) (nr : Nat) (F : Nat → Int) (n : Nat) (S : Nat → Sto) (nt : Nat) (T : Nat → Tx) (nq : Nat) (R : Nat → Int) (pl c : Int) (tx : ByteArray) : Prop :=
  (fsW nw nx bd nr F n S nt T nq R ≠ 0 ∧ c = fsW nw nx bd nr F n S nt T nq R ∧ tx = ⟨#[]⟩) ∨
  (fsW nw nx bd nr F n S nt T nq R = 0 ∧ ¬ (0 ≤ pl ∧ pl ≤ (nq : Int) - 1) ∧ c = 3 ∧ tx = ⟨#[]⟩) ∨
  (fsW nw nx bd nr F n S nt T nq R = 0 ∧ c = 0 ∧ ∃ k r v : Nat, pl = k ∧ k < nq ∧ R (k * 10 + 8) = r ∧ r ≤ 10 ∧ R (k * 10 + 9) = v ∧ v ≤ 9999 ∧ ∃ D L, (∀ i, i < nt → DoneAt nr F S (T i) (D i)) ∧ histL (donesL D nt) R nq = L ∧ L.length ≤ 192 ∧ tx = toldT (hasD (rowL L) pl L.length) r v)
theorem RtAns.get (nw nx bd : Int) (nr : Nat) (F : Nat → Int) (n : Nat) (S : Nat → Sto) (nt : Nat) (T : Nat → Tx) (nq : Nat) (R : Nat → Int) (pl : Int) : ∃ c tx, RtAns nw nx bd nr F n S nt T nq R pl c tx := by
  by_cases h : fsW nw nx bd nr F n S nt T nq R = 0
  · by_cases hp : 0 ≤ pl ∧ pl ≤ (nq : Int) - 1
    · have hw := (fsW_zero h).1
      obtain ⟨D, hD⟩ := world_dones hw
      obtain ⟨k, hk⟩ : ∃ k : Nat, pl = k := ⟨pl.toNat, by omega⟩
      have hF := (runF_zero ((fsW_zero h).2.2 k (by omega))).2
      unfold Fits at hF
      exact ⟨0, _, Or.inr (Or.inr ⟨h, rfl, k, (R (k * 10 + 8)).toNat, (R (k * 10 + 9)).toNat, hk, by omega, by omega, by omega, by omega, by omega, D, _, hD, rfl, Nat.le_trans (histL_len _ _ _) (by have := (fsW_zero h).2.1; omega), rfl⟩)⟩
    · exact ⟨3, _, Or.inr (Or.inl ⟨h, hp, rfl, rfl⟩)⟩
  · exact ⟨_, _, Or.inl ⟨h, rfl, rfl⟩⟩
set_option maxRecDepth 100000 in
set_option maxHeartbeats 4000000 in
theorem specRunText_is (nw nx bd : Int) (nr : Nat) (F : Nat → Int) (n : Nat) (S : Nat → Sto) (V : Nat → Nat → Value) (vr vs : Value) (nt : Nat) (T : Nat → Tx) (X : Nat → Value) (vt : Value) (nq : Nat) (R : Nat → Int) (vq : Value) (B : Nat) (pl c : Int) (tx : ByteArray) (w : World) (h : Grs w B nr F n S V vr vs) (hx : Txs w B nt T X vt) (hq : Row w B 10 nq R vq) (hr : nr ≤ 9223372036854775807) (hn : n ≤ 9223372036854775807) (ht : nt ≤ 9223372036854775807) (hnq : nq ≤ 9223372036854775807) (hm : ∀ i, i < nt → (T i).m ≤ 9223372036854775807) (hA : RtAns nw nx bd nr F n S nt T nq R pl c tx) :
    Calls Tryz.prog 5 #[.agg #[.int .i64 nw, .int .i64 nx, .int .i64 bd, vr, vs, vt, vq], .int .i64 pl] w fun e w' => e = .returned (.agg #[.int .i64 c, .string tx]) ∧ Below w.heap.size w w' := by
  obtain ⟨a0, c0, a1, c1, rfl, rfl⟩ := h.form
  obtain ⟨a2, c2, rfl⟩ := hx.form
  obtain ⟨a3, c3, rfl⟩ := hq.form
  have H0 : Hid (LiesF ((w.alloc (.cells #[.int .i64 nw, .int .i64 nx, .int .i64 bd, .slice a0 nr c0, .slice a1 n c1, .slice a2 nt c2, .slice a3 nq c3] 48)).alloc (.cells #[.int .i64 0, .string ⟨#[]⟩] 36)) w.heap.size nw nx bd nr F n S V (.slice a0 nr c0) (.slice a1 n c1) nt T X (.slice a2 nt c2) nq R (.slice a3 nq c3) ∧ Blk2 ((w.alloc (.cells #[.int .i64 nw, .int .i64 nx, .int .i64 bd, .slice a0 nr c0, .slice a1 n c1, .slice a2 nt c2, .slice a3 nq c3] 48)).alloc (.cells #[.int .i64 0, .string ⟨#[]⟩] 36)) (w.heap.size + 1) (.int .i64 0) (.string ⟨#[]⟩) ∧ Below w.heap.size w ((w.alloc (.cells #[.int .i64 nw, .int .i64 nx, .int .i64 bd, .slice a0 nr c0, .slice a1 n c1, .slice a2 nt c2, .slice a3 nq c3] 48)).alloc (.cells #[.int .i64 0, .string ⟨#[]⟩] 36))) := by
    have k := Blk2.new (w.alloc (.cells #[.int .i64 nw, .int .i64 nx, .int .i64 bd, .slice a0 nr c0, .slice a1 n c1, .slice a2 nt c2, .slice a3 nq c3] 48)) (.int .i64 0) (.string ⟨#[]⟩) 36
    rw [World.size_alloc] at k
    exact ⟨LiesF.later ⟨Blk7F.new w _ _ _ _ _ _ _ _, (h.mono (Nat.zero_le _)).alloc _, (hx.mono (Nat.zero_le _)).alloc _, (hq.mono (Nat.zero_le _)).later (below_alloc _ _)⟩ (below_alloc _ _), k, (below_alloc _ _).alloc (by simp) _⟩
  have HM : Hid (∀ i, i < nt → (T i).m ≤ 9223372036854775807) := hm
  clear h hx hm hq
  obtain ⟨f, E⟩ : ∃ f, Hid (fsW nw nx bd nr F n S nt T nq R = f) := ⟨_, rfl⟩
  have HLF : Hid (∀ w1, LiesF w1 w.heap.size nw nx bd nr F n S V (.slice a0 nr c0) (.slice a1 n c1) nt T X (.slice a2 nt c2) nq R (.slice a3 nq c3) → Calls Tryz.prog 12 #[.pointer (some ⟨w.heap.size, 0, none⟩)] w1 fun e w' => e = .returned (.int .i64 f) ∧ Below w1.heap.size w1 w') := by
    intro w1 hl
    have := l15Fault_any _ nw nx bd nr F n S V _ _ nt T X _ nq R _ _ hl hr hn ht hnq HM.out
    rw [E.out] at this
    exact this
  rcases hA with ⟨h1, rfl, rfl⟩ | ⟨h1, hp, rfl, rfl⟩ | ⟨h1, rfl, k, r, v, rfl, hk, hkr, hr10, hkv, hv4, D, L, hD, hL, hl192, rfl⟩
  · rw [E.out] at h1
    have d : (f != 0) = true := bne_iff_ne.2 h1
    rw [E.out]
    clear h1
    go_enter Tryz.func5, Tryz.ntmps5
    go_wp2_with fail
    refine (HLF.out _ H0.out.1).mono ?_
    rintro e w1 ⟨rfl, q1⟩
    have hb := H0.out.2.1.later q1
    have HB : Hid (Below w.heap.size w w1) := H0.out.2.2.trans (q1.mono (by simp; omega))
    obtain ⟨⟨b0, b1⟩, y0, y1⟩ := hb
    clear q1 H0
    go_wp2
    refine bodyPost_ret (v := .agg #[.int .i64 f, .string ⟨#[]⟩]) (by simp [results, Tryz.results5, go_sem, b0, b1]) rfl ?_
    exact ⟨rfl, (HB.out.setCell (by simp) _).setCell (by simp) _⟩
  · have hq30 := (fsW_zero h1).2.1
    obtain rfl : f = 0 := E.out.symm.trans h1
    have HI : Hid (∀ w, Calls Tryz.prog 13 #[.int .i64 pl, .int .i64 0, .int .i64 ((nq : Int) - 1)] w fun e w' => e = .returned (.bool false) ∧ w' = w) := fun w => l1In_is _ _ _ _ (decide_eq_false hp) w
    clear h1 hp
    go_enter Tryz.func5, Tryz.ntmps5
    go_wp2_with fail
    refine (HLF.out _ H0.out.1).mono ?_
    rintro e w1 ⟨rfl, q1⟩
    have hb := H0.out.2.1.later q1
    have HB : Hid (Below w.heap.size w w1) := H0.out.2.2.trans (q1.mono (by simp; omega))
    obtain ⟨⟨b0, b1⟩, y0, y1⟩ := hb
    obtain ⟨⟨k0, k1, k2, k3, k4, k5, k6⟩, _⟩ := (H0.out.1.later q1).1
    clear q1 H0
    go_wp2_with fail
    refine (HI.out _).mono ?_
    rintro e w2 ⟨rfl, rfl⟩
    go_wp2
    refine bodyPost_ret (v := .agg #[.int .i64 3, .string ⟨#[]⟩]) (by simp [results, Tryz.results5, go_sem, b0, b1]) rfl ?_
    exact ⟨rfl, (HB.out.setCell (by simp) _).setCell (by simp) _⟩
  · have hw := (fsW_zero h1).1
    have Z := world_fine hw
    have ZG := groupsF_zero Z.1
    have hq30 := (fsW_zero h1).2.1
    obtain rfl : f = 0 := E.out.symm.trans h1
    have HZ : Hid ((nr ≤ 6 ∧ n = nr) ∧ (∀ i, i < n → (S i).nl ≤ 200 ∧ (S i).nw ≤ 200) ∧ nt ≤ 16 ∧ (∀ i, i < nt → 1 ≤ (T i).m) ∧ nq ≤ 30 ∧ ∀ i, i < nq → 1 ≤ R (i * 10 + 7)) := ⟨⟨ZG.1.n6, ZG.2.1⟩, fun i hi => (storeF_zero (ZG.2.2.1 i hi).1).1.2, Z.2.1, fun i hi => (Z.2.2 i hi).1.1, (fsW_zero h1).2.1, fun i hi => (runF_zero ((fsW_zero h1).2.2 i hi)).2.2.1.1⟩
    have HI : Hid (∀ w, Calls Tryz.prog 13 #[.int .i64 k, .int .i64 0, .int .i64 ((nq : Int) - 1)] w fun e w' => e = .returned (.bool true) ∧ w' = w) := fun w => l1In_is _ _ _ _ (decide_eq_true ⟨by omega, by omega⟩) w
    have HH : Hid (∀ w1, LiesF w1 w.heap.size nw nx bd nr F n S V (.slice a0 nr c0) (.slice a1 n c1) nt T X (.slice a2 nt c2) nq R (.slice a3 nq c3) → Calls Tryz.prog 14 #[.pointer (some ⟨w.heap.size, 0, none⟩)] w1 fun e w' => ∃ ao cp, e = .returned (.slice ao L.length cp) ∧ Row w' w1.heap.size 2 L.length (rowL L) (.slice ao L.length cp) ∧ Below w1.heap.size w1 w') := by
      intro w1 hl
      refine (l15History_is _ nw nx bd nr F n S V _ _ nt T X _ nq R _ D _ w1 hl HZ.out.1.1 HZ.out.1.2 HZ.out.2.1 HZ.out.2.2.1 HZ.out.2.2.2.1 hD rfl HZ.out.2.2.2.2.1 HZ.out.2.2.2.2.2).mono ?_
      rw [hL]
      rintro e w4 ⟨ro, rc, rfl, hr2, q4⟩
      exact ⟨ro, rc, rfl, hr2.row.1, q4⟩
    clear hD hL h1 Z ZG hw HZ
    obtain ⟨FL, hFL⟩ : ∃ FL, rowL L = FL := ⟨_, rfl⟩
    obtain ⟨LN, hLN⟩ : ∃ LN, L.length = LN := ⟨_, rfl⟩
    rw [hFL, hLN] at HH
    rw [hLN] at hl192
    rw [hFL, hLN]
    clear hFL hLN
    obtain ⟨TX, HTX⟩ : ∃ TX, Hid (toldT (hasD FL k LN) r v = TX) := ⟨_, rfl⟩
    rw [HTX.out]
    have HD : Hid (∀ n w, n ≤ 9999 → Calls Tryz.prog 15 #[.int .i64 (n : Nat)] w fun e w' => e = .returned (.string (decT n)) ∧ Below w.heap.size w w') := fun n w hn => l1Digits_nat n w (by omega)
    have HS : Hid (∀ n, n ≤ 9999 → (decT n).size ≤ 4) := fun n hn => decT_size 3 n (by omega)
    go_enter Tryz.func5, Tryz.ntmps5
    go_wp2_with fail
    refine (HLF.out _ H0.out.1).mono ?_
    rintro e w1 ⟨rfl, q1⟩
    have H1 : Hid (LiesF w1 w.heap.size nw nx bd nr F n S V (.slice a0 nr c0) (.slice a1 n c1) nt T X (.slice a2 nt c2) nq R (.slice a3 nq c3) ∧ Blk2 w1 (w.heap.size + 1) (.int .i64 0) (.string ⟨#[]⟩) ∧ Below w.heap.size w w1) := ⟨H0.out.1.later q1, H0.out.2.1.later q1, H0.out.2.2.trans (q1.mono (by simp; omega))⟩
    clear q1 H0
    obtain ⟨⟨k0, k1, k2, k3, k4, k5, k6⟩, _⟩ := H1.out.1.1
    go_wp2_with fail
    refine (HI.out _).mono ?_
    rintro e w2 ⟨rfl, rfl⟩
    clear k0 k1 k2 k3 k4 k5 k6 HI
    go_wp2_with fail
    refine (HH.out _ H1.out.1).mono ?_
    rintro e w2 ⟨ao, cp, rfl, r2, q2⟩
    have H2 : Hid (LiesF w2 w.heap.size nw nx bd nr F n S V (.slice a0 nr c0) (.slice a1 n c1) nt T X (.slice a2 nt c2) nq R (.slice a3 nq c3) ∧ Blk2 w2 (w.heap.size + 1) (.int .i64 0) (.string ⟨#[]⟩) ∧ Below w.heap.size w w2 ∧ Row w2 0 2 LN FL (.slice ao LN cp)) := ⟨H1.out.1.later q2, H1.out.2.1.later q2, H1.out.2.2.trans (q2.mono H1.out.2.2.size), r2.mono (Nat.zero_le _)⟩
    clear q2 r2 H1 HH HLF
    go_wp2_with fail
    go_loop [7] (fun i => ∃ j : Nat, j ≤ LN ∧ i = .int .i64 j ∧ Hid (hasD FL k j = false)) (fun i => LN - (intOf i).toNat)
    case atStart => exact ⟨0, Nat.zero_le _, rfl, rfl⟩
    case round =>
      obtain ⟨j, hj, rfl, HJ⟩ := hrel
      obtain ⟨⟨b0, b1⟩, y0, y1⟩ := H2.out.2.1
      by_cases hlt : j < LN
      case neg =>
        obtain rfl : LN = j := by omega
        have HX : Hid (TX = waitsB) := by unfold Hid; rw [← HTX.out, HJ.out, toldT_waits]
        have HB : Hid (Below w.heap.size w w2) := H2.out.2.2.1
        go_wp2
        refine bodyPost_ret (v := .agg #[.int .i64 0, .string ⟨#[119, 97, 105, 116, 115]⟩]) (by simp [results, Tryz.results5, go_sem, b0, b1]) rfl ?_
        exact ⟨by rw [HX.out]; rfl, (HB.out.setCell (by simp) _).setCell (by simp) _⟩
      obtain ⟨g, o, rfl, _, hg, x0, x1⟩ := H2.out.2.2.2.at2 hlt
      obtain ⟨p, hp⟩ : ∃ p, FL (j * 2) = p := ⟨_, rfl⟩
      rw [hp] at x0
      by_cases he : p = (k : Int)
      case neg =>
        have HN : Hid (hasD FL k (j + 1) = false) := hasD_no HJ.out (by rw [hp]; exact he)
        have hpB : (p == (k : Int)) = false := beq_eq_false_iff_ne.2 he
        clear he hp HJ
        go_wp2
        go_round
        case rel => exact ⟨j + 1, by omega, by go_num, HN⟩
        case measure => simp [intOf]; omega
      have HT : Hid (hasD FL k LN = true) := hasD_true hlt (hp.trans he)
      subst he
      obtain ⟨⟨k0, k1, k2, k3, k4, k5, k6⟩, _⟩ := H2.out.1.1
      obtain ⟨g3, o3, rfl, _, hg3, z0, z1, z2, z3, z4, z5, z6, z7, z8, z9⟩ := H2.out.1.2.2.2.at10 hk
      rw [hkr] at z8
      rw [hkv] at z9
      have HTX2 : Hid (toldT true r v = TX) := by unfold Hid; rw [← HTX.out, HT.out]
      clear hp HT HJ HTX
      by_cases hr0 : r = 0
      case pos =>
        subst hr0
        have HX : Hid (TX = okB ++ decT v) := by unfold Hid; rw [← HTX2.out, toldT_ok]
        clear HTX2
        have hs := HS.out v hv4
        have ka := fun w => run_string_add_sum (P := Tryz.prog) w ⟨#[111, 107, 32]⟩ (decT v) (by show 3 + _ ≤ _; omega)
        have hd := HD.out v
        have HDV : Hid (∀ w, Calls Tryz.prog 15 #[.int .i64 (v : Nat)] w fun e w' => e = .returned (.string (decT v)) ∧ Below w.heap.size w w') := fun w => hd w hv4
        generalize decT v = dv at *
        clear hd HD HS
        go_wp2_with fail
        refine (HDV.out _).mono ?_
        rintro e w3 ⟨rfl, q3⟩
        have hb := (H2.out.2.1.alloc (.cells #[.int .i64 (R (k * 10)), .int .i64 (R (k * 10 + 1)), .int .i64 (R (k * 10 + 2)), .int .i64 (R (k * 10 + 3)), .int .i64 (R (k * 10 + 4)), .int .i64 (R (k * 10 + 5)), .int .i64 (R (k * 10 + 6)), .int .i64 (R (k * 10 + 7)), .int .i64 (0 : Nat), .int .i64 (v : Nat)] 65)).later q3
        have HB : Hid (Below w.heap.size w w3) := (H2.out.2.2.1.alloc H2.out.2.2.1.size _).trans (q3.mono (by have := H2.out.2.2.1.size; simp; omega))
        clear b0 b1 y0 y1
        obtain ⟨⟨b0, b1⟩, y0, y1⟩ := hb
        clear q3 H2
        go_wp2
        refine bodyPost_ret (v := .agg #[.int .i64 0, .string (⟨#[111, 107, 32]⟩ ++ dv)]) (by simp [results, Tryz.results5, go_sem, b0, b1]) rfl ?_
        exact ⟨by rw [HX.out]; rfl, (HB.out.setCell (by simp) _).setCell (by simp) _⟩
      have HX : Hid (TX = noB ++ decT r) := by unfold Hid; rw [← HTX2.out, toldT_no hr0]
      clear HTX2
      have hrB : ((r : Int) != 0) = true := bne_iff_ne.2 (by omega)
      have hs := HS.out r (by omega)
      have ka := fun w => run_string_add_sum (P := Tryz.prog) w ⟨#[110, 111, 32]⟩ (decT r) (by show 3 + _ ≤ _; omega)
      have hd := HD.out r
      have HDV : Hid (∀ w, Calls Tryz.prog 15 #[.int .i64 (r : Nat)] w fun e w' => e = .returned (.string (decT r)) ∧ Below w.heap.size w w') := fun w => hd w (by omega)
      generalize decT r = dv at *
      clear hd HD HS
      go_wp2_with fail
      refine (HDV.out _).mono ?_
      rintro e w3 ⟨rfl, q3⟩
      have hb := (H2.out.2.1.alloc (.cells #[.int .i64 (R (k * 10)), .int .i64 (R (k * 10 + 1)), .int .i64 (R (k * 10 + 2)), .int .i64 (R (k * 10 + 3)), .int .i64 (R (k * 10 + 4)), .int .i64 (R (k * 10 + 5)), .int .i64 (R (k * 10 + 6)), .int .i64 (R (k * 10 + 7)), .int .i64 (r : Nat), .int .i64 (v : Nat)] 65)).later q3
      have HB : Hid (Below w.heap.size w w3) := (H2.out.2.2.1.alloc H2.out.2.2.1.size _).trans (q3.mono (by have := H2.out.2.2.1.size; simp; omega))
      clear b0 b1 y0 y1
      obtain ⟨⟨b0, b1⟩, y0, y1⟩ := hb
      clear q3 H2
      go_wp2
      refine bodyPost_ret (v := .agg #[.int .i64 0, .string (⟨#[110, 111, 32]⟩ ++ dv)]) (by simp [results, Tryz.results5, go_sem, b0, b1]) rfl ?_
      exact ⟨by rw [HX.out]; rfl, (HB.out.setCell (by simp) _).setCell (by simp) _⟩
end Go.Proofs.YtjkchhcnochjlaaGreatDoor

namespace Go.Proofs.YtjkchhcnochjlaaGreatDoor
open Go.RowKit

theorem counts1_is (p t key : Int) (bc : Nat) (r : Bool) (hr : (p == key) = r) (w : World) (hc : w.cell? ⟨bc, 0, none⟩ = some (.int .i64 key)) :
    Calls Tryz.prog 37 #[.agg #[.int .i64 p, .int .i64 t], .pointer (some ⟨bc, 0, none⟩)] w fun e w' => e = .returned (.bool r) ∧ Below w.heap.size w w' := by
  have hlt := World.block_lt_of_cell? w _ hc
  go_enter Tryz.func37, Tryz.ntmps37
  go_wp2
  go_ret
  exact ⟨by first | rfl | (rw [← hr]; rfl), below_alloc _ _⟩
set_option maxRecDepth 100000 in
set_option maxHeartbeats 4000000 in
theorem indexDone_is (bc : Nat) (key : Int) (B n : Nat) (F : Nat → Int) (v : Value) (r : Bool) (hr : hasD F key n = r) (w : World) (h : Row w B 2 n F v) (hn : n ≤ 1000) (hw : w.cell? ⟨bc, 0, none⟩ = some (.int .i64 key)) :
    Calls Tryz.prog 68 #[v, .func (.func 37) #[] #[.pointer (some ⟨bc, 0, none⟩)]] w fun e w' => ∃ z : Int, e = .returned (.int .i64 z) ∧ decide (0 ≤ z) = r ∧ Below w.heap.size w w' := by
  obtain ⟨ao, cp, rfl⟩ := h.form
  have hbc := World.block_lt_of_cell? w _ hw
  have H : Hid (Row w B 2 n F (.slice ao n cp)) := h
  have HR : Hid (hasD F key n = r) := hr
  have HW : Hid (w.cell? ⟨bc, 0, none⟩ = some (.int .i64 key)) := hw
  clear h hr hw
  go_enter Tryz.func68, Tryz.ntmps68
  go_wp2
  go_loopw [8] (fun i wr => ∃ k : Nat, k ≤ n ∧ i = .int .i64 k ∧ Hid (hasD F key k = false) ∧ Hid (Below w.heap.size w wr)) (fun i _ => n - (intOf i).toNat)
  case atStart => exact ⟨0, Nat.zero_le _, rfl, rfl, Below.refl _ _⟩
  case round =>
    obtain ⟨k, hk, rfl, HS, HB⟩ := hrel
    by_cases hlt : k < n
    case neg =>
      obtain rfl : n = k := by omega
      go_wp2
      go_ret
      exact ⟨-1, rfl, HS.out.symm.trans HR.out, HB.out⟩
    obtain ⟨g, o, rfl, _, hg, x0, x1⟩ := (H.out.later HB.out).at2 hlt
    obtain ⟨n0, N0⟩ : ∃ x, F (k * 2) = x := ⟨_, rfl⟩
    rw [N0] at x0
    obtain ⟨n1, N1⟩ : ∃ x, F (k * 2 + 1) = x := ⟨_, rfl⟩
    rw [N1] at x1
    have HC : Hid (wr.cell? ⟨bc, 0, none⟩ = some (.int .i64 key)) := (HB.out.cell (p := ⟨bc, 0, none⟩) hbc).trans HW.out
    by_cases hz : n0 = key
    · have E : Hid (true = r) := (hasD_true hlt (N0.trans hz)).symm.trans HR.out
      have D : Hid ((n0 == key) = true) := by unfold Hid; rw [hz]; exact beq_self_eq_true _
      clear N0 N1 hz
      go_wp2_with fail
      refine (counts1_is n0 n1 key bc true D.out _ HC.out).mono ?_
      rintro e w1 ⟨rfl, q1⟩
      have HB1 : Hid (Below w.heap.size w w1) := HB.out.trans (q1.mono HB.out.size)
      clear q1
      go_wp2
      go_ret
      exact ⟨k, rfl, by rw [← E.out]; exact decide_eq_true (by omega), HB1.out⟩
    · have E : Hid (hasD F key (k + 1) = false) := hasD_no HS.out (by rw [N0]; exact hz)
      have D : Hid ((n0 == key) = false) := beq_eq_false_iff_ne.2 hz
      clear N0 N1 hz HS
      go_wp2_with fail
      refine (counts1_is n0 n1 key bc false D.out _ HC.out).mono ?_
      rintro e w1 ⟨rfl, q1⟩
      have HB1 : Hid (Below w.heap.size w w1) := HB.out.trans (q1.mono HB.out.size)
      clear q1
      go_wp2
      go_roundw
      case rel => exact ⟨k + 1, by omega, by go_num, E, HB1⟩
      case measure => simp [intOf]; omega
set_option maxHeartbeats 1000000 in
theorem containsDone_is (bc : Nat) (key : Int) (B n : Nat) (F : Nat → Int) (v : Value) (r : Bool) (hr : hasD F key n = r) (w : World) (h : Row w B 2 n F v) (hn : n ≤ 1000) (hw : w.cell? ⟨bc, 0, none⟩ = some (.int .i64 key)) :
    Calls Tryz.prog 35 #[v, .func (.func 37) #[] #[.pointer (some ⟨bc, 0, none⟩)]] w fun e w' => e = .returned (.bool r) ∧ Below w.heap.size w w' := by
  obtain ⟨ao, cp, rfl⟩ := h.form
  have H : Hid (Row w B 2 n F (.slice ao n cp)) := h
  have HR : Hid (hasD F key n = r) := hr
  have HW : Hid (w.cell? ⟨bc, 0, none⟩ = some (.int .i64 key)) := hw
  clear h hr hw
  go_enter Tryz.func35, Tryz.ntmps35
  go_wp2_with fail
  refine (indexDone_is bc key B n F _ r HR.out _ H.out hn HW.out).mono ?_
  rintro e w1 ⟨z, rfl, hz, q1⟩
  have HZ : Hid (decide (0 ≤ z) = r) := hz
  have Q : Hid (Below w.heap.size w w1) := q1
  clear q1 hz
  go_wp2
  go_ret
  exact ⟨by rw [← HZ.out]; first | rfl | (congr 3), Q.out⟩
theorem fld_done (c v : Value) (w : World) : (Instr.field 91 (.agg #[c, v]) 1).run Tryz.prog w = .ok v w := by
  kernel_rfl
set_option maxRecDepth 100000 in
set_option maxHeartbeats 2000000 in
theorem counts_is (nw nx bd : Int) (nr : Nat) (F : Nat → Int) (n : Nat) (S : Nat → Sto) (V : Nat → Nat → Value) (vr vs : Value) (nt : Nat) (T : Nat → Tx) (X : Nat → Value) (vt : Value) (nq : Nat) (R : Nat → Int) (vq : Value) (B : Nat) (pl : Int) (L : Prs) (w : World) (h : Grs w B nr F n S V vr vs) (hx : Txs w B nt T X vt) (hq : Row w B 10 nq R vq) (hr : nr ≤ 9223372036854775807) (hn : n ≤ 9223372036854775807) (ht : nt ≤ 9223372036854775807) (hnq : nq ≤ 9223372036854775807) (hm : ∀ i, i < nt → (T i).m ≤ 9223372036854775807) (hA : HsAns nw nx bd nr F n S nt T nq R 0 L) (hl : L.length ≤ 192) :
    Calls Tryz.prog 19 #[.agg #[.int .i64 nw, .int .i64 nx, .int .i64 bd, vr, vs, vt, vq], .int .i64 pl] w fun e w' => e = .returned (.bool (hasD (rowL L) pl L.length)) ∧ Below w.heap.size w w' := by
  obtain ⟨a0, c0, a1, c1, rfl, rfl⟩ := h.form
  obtain ⟨a2, c2, rfl⟩ := hx.form
  obtain ⟨a3, c3, rfl⟩ := hq.form
  have HI : Hid (∀ w1, Below w.heap.size w w1 → Calls Tryz.prog 36 #[.agg #[.int .i64 nw, .int .i64 nx, .int .i64 bd, .slice a0 nr c0, .slice a1 n c1, .slice a2 nt c2, .slice a3 nq c3]] w1 (ResRow 2 w1 0 L.length (rowL L))) := fun w1 hb => implHistoryOf_is nw nx bd nr F n S V _ _ nt T X _ nq R _ B 0 L w1 (h.later hb) (hx.later hb) (hq.later hb) hr hn ht hnq hm hA
  have k := Blk7F.new w (.int .i64 nw) (.int .i64 nx) (.int .i64 bd) (.slice a0 nr c0) (.slice a1 n c1) (.slice a2 nt c2) (.slice a3 nq c3) 48
  have kk := k.later (below_alloc _ (.cells #[.int .i64 pl] 2))
  obtain ⟨FL, hFL⟩ : ∃ FL, rowL L = FL := ⟨_, rfl⟩
  obtain ⟨LN, hLN⟩ : ∃ LN, L.length = LN := ⟨_, rfl⟩
  rw [hFL, hLN] at HI
  rw [hLN] at hl
  rw [hFL, hLN]
  obtain ⟨r, hr⟩ : ∃ r, Hid (hasD FL pl LN = r) := ⟨_, rfl⟩
  rw [hr.out]
  clear h hx hq hm hA hFL hLN k
  obtain ⟨⟨k0, k1, k2, k3, k4, k5, k6⟩, _⟩ := kk
  go_enter Tryz.func19, Tryz.ntmps19
  go_wp2_with fail
  refine (HI.out _ ((below_alloc _ _).alloc (by simp) _)).mono ?_
  rintro e w1 ⟨ao, cp, rfl, r1, _, q1⟩
  have HC : Hid (w1.cell? ⟨w.heap.size + 1, 0, none⟩ = some (.int .i64 pl)) := by
    have := World.cell?_alloc_mark (w.alloc (.cells #[.int .i64 nw, .int .i64 nx, .int .i64 bd, .slice a0 nr c0, .slice a1 n c1, .slice a2 nt c2, .slice a3 nq c3] 48)) #[.int .i64 pl] 2 (0, 0) 0
    rw [World.size_alloc] at this
    unfold Hid
    rw [q1.cell (by simp)]
    exact this
  have HB : Hid (Below w.heap.size w w1 ∧ Row w1 0 2 LN FL (.slice ao LN cp)) := ⟨((below_alloc _ _).alloc (by simp) _).trans (q1.mono (by simp; omega)), r1.mono (Nat.zero_le _)⟩
  clear q1 r1 HI k0 k1 k2 k3 k4 k5 k6
  have hfd := fun w => fld_done (.int .i64 0) (.slice ao LN cp) w
  go_wp2_with fail
  refine (containsDone_is (w.heap.size + 1) pl 0 LN FL _ r hr.out _ HB.out.2 (by omega) HC.out).mono ?_
  rintro e w2 ⟨rfl, q2⟩
  have HB2 : Hid (Below w.heap.size w w2) := HB.out.1.trans (q2.mono HB.out.1.size)
  clear q2
  go_wp2
  go_ret
  exact ⟨rfl, HB2.out⟩
set_option maxRecDepth 100000 in
set_option maxHeartbeats 4000000 in
theorem implRunText_is (nw nx bd : Int) (nr : Nat) (F : Nat → Int) (n : Nat) (S : Nat → Sto) (V : Nat → Nat → Value) (vr vs : Value) (nt : Nat) (T : Nat → Tx) (X : Nat → Value) (vt : Value) (nq : Nat) (R : Nat → Int) (vq : Value) (B : Nat) (pl c : Int) (tx : ByteArray) (w : World) (h : Grs w B nr F n S V vr vs) (hx : Txs w B nt T X vt) (hq : Row w B 10 nq R vq) (hr : nr ≤ 9223372036854775807) (hn : n ≤ 9223372036854775807) (ht : nt ≤ 9223372036854775807) (hnq : nq ≤ 9223372036854775807) (hm : ∀ i, i < nt → (T i).m ≤ 9223372036854775807) (hA : RtAns nw nx bd nr F n S nt T nq R pl c tx) (hT : Pow10 w) :
    Calls Tryz.prog 7 #[.agg #[.int .i64 nw, .int .i64 nx, .int .i64 bd, vr, vs, vt, vq], .int .i64 pl] w fun e w' => e = .returned (.agg #[.int .i64 c, .string tx]) ∧ Below w.heap.size w w' := by
  obtain ⟨a0, c0, a1, c1, rfl, rfl⟩ := h.form
  obtain ⟨a2, c2, rfl⟩ := hx.form
  obtain ⟨a3, c3, rfl⟩ := hq.form
  have HT0 : Hid (Pow10 w) := hT
  clear hT
  have H0 : Hid (LiesF ((w.alloc (.cells #[.int .i64 nw, .int .i64 nx, .int .i64 bd, .slice a0 nr c0, .slice a1 n c1, .slice a2 nt c2, .slice a3 nq c3] 48)).alloc (.cells #[.int .i64 0, .string ⟨#[]⟩] 36)) w.heap.size nw nx bd nr F n S V (.slice a0 nr c0) (.slice a1 n c1) nt T X (.slice a2 nt c2) nq R (.slice a3 nq c3) ∧ Blk2 ((w.alloc (.cells #[.int .i64 nw, .int .i64 nx, .int .i64 bd, .slice a0 nr c0, .slice a1 n c1, .slice a2 nt c2, .slice a3 nq c3] 48)).alloc (.cells #[.int .i64 0, .string ⟨#[]⟩] 36)) (w.heap.size + 1) (.int .i64 0) (.string ⟨#[]⟩) ∧ Below w.heap.size w ((w.alloc (.cells #[.int .i64 nw, .int .i64 nx, .int .i64 bd, .slice a0 nr c0, .slice a1 n c1, .slice a2 nt c2, .slice a3 nq c3] 48)).alloc (.cells #[.int .i64 0, .string ⟨#[]⟩] 36))) := by
    have k := Blk2.new (w.alloc (.cells #[.int .i64 nw, .int .i64 nx, .int .i64 bd, .slice a0 nr c0, .slice a1 n c1, .slice a2 nt c2, .slice a3 nq c3] 48)) (.int .i64 0) (.string ⟨#[]⟩) 36
    rw [World.size_alloc] at k
    exact ⟨LiesF.later ⟨Blk7F.new w _ _ _ _ _ _ _ _, (h.mono (Nat.zero_le _)).alloc _, (hx.mono (Nat.zero_le _)).alloc _, (hq.mono (Nat.zero_le _)).later (below_alloc _ _)⟩ (below_alloc _ _), k, (below_alloc _ _).alloc (by simp) _⟩
  have HM : Hid (∀ i, i < nt → (T i).m ≤ 9223372036854775807) := hm
  clear h hx hm hq
  obtain ⟨f, E⟩ : ∃ f, Hid (fsW nw nx bd nr F n S nt T nq R = f) := ⟨_, rfl⟩
  have HLF : Hid (∀ w1, LiesF w1 w.heap.size nw nx bd nr F n S V (.slice a0 nr c0) (.slice a1 n c1) nt T X (.slice a2 nt c2) nq R (.slice a3 nq c3) → Calls Tryz.prog 18 #[.agg #[.int .i64 nw, .int .i64 nx, .int .i64 bd, .slice a0 nr c0, .slice a1 n c1, .slice a2 nt c2, .slice a3 nq c3]] w1 fun e w' => e = .returned (.int .i64 f) ∧ Below w1.heap.size w1 w') := by
    intro w1 hl
    have := implFsWorldFault_any nw nx bd nr F n S V _ _ nt T X _ nq R _ 0 w1 hl.2.1 hl.2.2.1 hl.2.2.2 hr hn ht hnq
    rw [E.out] at this
    exact this
  obtain ⟨⟨k0, k1, k2, k3, k4, k5, k6⟩, _⟩ := H0.out.1.1
  rcases hA with ⟨h1, rfl, rfl⟩ | ⟨h1, hp, rfl, rfl⟩ | ⟨h1, rfl, k, r, v, rfl, hk, hkr, hr10, hkv, hv4, D, L, hD, hL, hl192, rfl⟩
  · rw [E.out] at h1
    have d : (f != 0) = true := bne_iff_ne.2 h1
    rw [E.out]
    clear h1
    go_enter Tryz.func7, Tryz.ntmps7
    go_wp2_with fail
    refine (HLF.out _ H0.out.1).mono ?_
    rintro e w1 ⟨rfl, q1⟩
    have hb := H0.out.2.1.later q1
    have HB : Hid (Below w.heap.size w w1) := H0.out.2.2.trans (q1.mono (by simp; omega))
    obtain ⟨⟨b0, b1⟩, y0, y1⟩ := hb
    clear q1 H0 k0 k1 k2 k3 k4 k5 k6
    go_wp2
    refine bodyPost_ret (v := .agg #[.int .i64 f, .string ⟨#[]⟩]) (by simp [results, Tryz.results7, go_sem, b0, b1]) rfl ?_
    exact ⟨rfl, (HB.out.setCell (by simp) _).setCell (by simp) _⟩
  · have hq30 := (fsW_zero h1).2.1
    obtain rfl : f = 0 := E.out.symm.trans h1
    by_cases hneg : pl < 0
    rotate_left
    focus
      have hge : (nq : Int) ≤ pl := by omega
    rotate_left
    all_goals
      clear h1 hp
      go_enter Tryz.func7, Tryz.ntmps7
      go_wp2_with fail
      refine (HLF.out _ H0.out.1).mono ?_
      rintro e w1 ⟨rfl, q1⟩
      have hb := H0.out.2.1.later q1
      have HB : Hid (Below w.heap.size w w1) := H0.out.2.2.trans (q1.mono (by simp; omega))
      obtain ⟨⟨b0, b1⟩, y0, y1⟩ := hb
      clear k0 k1 k2 k3 k4 k5 k6
      obtain ⟨⟨k0, k1, k2, k3, k4, k5, k6⟩, _⟩ := (H0.out.1.later q1).1
      clear q1 H0
      go_wp2
      refine bodyPost_ret (v := .agg #[.int .i64 3, .string ⟨#[]⟩]) (by simp [results, Tryz.results7, go_sem, b0, b1]) rfl ?_
      exact ⟨rfl, (HB.out.setCell (by simp) _).setCell (by simp) _⟩
  · have hq30 := (fsW_zero h1).2.1
    obtain rfl : f = 0 := E.out.symm.trans h1
    have HA : Hid (HsAns nw nx bd nr F n S nt T nq R 0 L) := Or.inr ⟨h1, rfl, D, hD, hL⟩
    have HH : Hid (∀ w1, LiesF w1 w.heap.size nw nx bd nr F n S V (.slice a0 nr c0) (.slice a1 n c1) nt T X (.slice a2 nt c2) nq R (.slice a3 nq c3) → Calls Tryz.prog 19 #[.agg #[.int .i64 nw, .int .i64 nx, .int .i64 bd, .slice a0 nr c0, .slice a1 n c1, .slice a2 nt c2, .slice a3 nq c3], .int .i64 k] w1 fun e w' => e = .returned (.bool (hasD (rowL L) k L.length)) ∧ Below w1.heap.size w1 w') := by
      intro w1 hl
      exact counts_is nw nx bd nr F n S V _ _ nt T X _ nq R _ 0 k L w1 hl.2.1 hl.2.2.1 hl.2.2.2 hr hn ht hnq HM.out HA.out hl192
    have hge : ¬ (nq : Int) ≤ (k : Int) := by omega
    clear hD hL h1 HA
    obtain ⟨TX, HTX⟩ : ∃ TX, Hid (toldT (hasD (rowL L) k L.length) r v = TX) := ⟨_, rfl⟩
    rw [HTX.out]
    obtain ⟨ct, hct⟩ : ∃ ct, hasD (rowL L) k L.length = ct := ⟨_, rfl⟩
    rw [hct] at HH HTX
    clear hct hl192
    have HD : Hid (∀ n w, n ≤ 9999 → Pow10 w → Calls Tryz.prog 20 #[.int .i64 (n : Nat)] w fun e w' => e = .returned (.string (decT n)) ∧ Below w.heap.size w w') := fun n w hn hT => decimal_is n w hT (by omega)
    have HS : Hid (∀ n, n ≤ 9999 → (decT n).size ≤ 4) := fun n hn => decT_size 3 n (by omega)
    cases ct
    · have HX : Hid (TX = waitsB) := by unfold Hid; rw [← HTX.out, toldT_waits]
      go_enter Tryz.func7, Tryz.ntmps7
      go_wp2_with fail
      refine (HLF.out _ H0.out.1).mono ?_
      rintro e w1 ⟨rfl, q1⟩
      clear k0 k1 k2 k3 k4 k5 k6
      have H1 : Hid (LiesF w1 w.heap.size nw nx bd nr F n S V (.slice a0 nr c0) (.slice a1 n c1) nt T X (.slice a2 nt c2) nq R (.slice a3 nq c3) ∧ Blk2 w1 (w.heap.size + 1) (.int .i64 0) (.string ⟨#[]⟩) ∧ Below w.heap.size w w1) := ⟨H0.out.1.later q1, H0.out.2.1.later q1, H0.out.2.2.trans (q1.mono (by simp; omega))⟩
      clear q1 H0
      obtain ⟨⟨k0, k1, k2, k3, k4, k5, k6⟩, _⟩ := H1.out.1.1
      go_wp2_with fail
      refine (HH.out _ H1.out.1).mono ?_
      rintro e w2 ⟨rfl, q2⟩
      have hb := H1.out.2.1.later q2
      have HB : Hid (Below w.heap.size w w2) := H1.out.2.2.trans (q2.mono H1.out.2.2.size)
      obtain ⟨⟨b0, b1⟩, y0, y1⟩ := hb
      clear q2 H1 k0 k1 k2 k3 k4 k5 k6
      go_wp2
      refine bodyPost_ret (v := .agg #[.int .i64 0, .string ⟨#[119, 97, 105, 116, 115]⟩]) (by simp [results, Tryz.results7, go_sem, b0, b1]) rfl ?_
      exact ⟨by rw [HX.out]; rfl, (HB.out.setCell (by simp) _).setCell (by simp) _⟩
    · by_cases hr0 : r = 0
      · subst hr0
        have HX : Hid (TX = okB ++ decT v) := by unfold Hid; rw [← HTX.out, toldT_ok]
        clear HTX
        have hs := HS.out v (by omega)
        have ka := fun w => run_string_add_sum (P := Tryz.prog) w ⟨#[111, 107, 32]⟩ (decT v) (by show 3 + _ ≤ _; omega)
        have hd := HD.out v
        have HDV : Hid (∀ w, Pow10 w → Calls Tryz.prog 20 #[.int .i64 (v : Nat)] w fun e w' => e = .returned (.string (decT v)) ∧ Below w.heap.size w w') := fun w => hd w (by omega)
        generalize decT v = dv at *
        clear hd HD HS
        go_enter Tryz.func7, Tryz.ntmps7
        go_wp2_with fail
        refine (HLF.out _ H0.out.1).mono ?_
        rintro e w1 ⟨rfl, q1⟩
        clear k0 k1 k2 k3 k4 k5 k6
        have H1 : Hid (LiesF w1 w.heap.size nw nx bd nr F n S V (.slice a0 nr c0) (.slice a1 n c1) nt T X (.slice a2 nt c2) nq R (.slice a3 nq c3) ∧ Blk2 w1 (w.heap.size + 1) (.int .i64 0) (.string ⟨#[]⟩) ∧ Below w.heap.size w w1) := ⟨H0.out.1.later q1, H0.out.2.1.later q1, H0.out.2.2.trans (q1.mono (by simp; omega))⟩
        clear q1 H0
        obtain ⟨⟨k0, k1, k2, k3, k4, k5, k6⟩, _⟩ := H1.out.1.1
        go_wp2_with fail
        refine (HH.out _ H1.out.1).mono ?_
        rintro e w2 ⟨rfl, q2⟩
        have H2 : Hid (LiesF w2 w.heap.size nw nx bd nr F n S V (.slice a0 nr c0) (.slice a1 n c1) nt T X (.slice a2 nt c2) nq R (.slice a3 nq c3) ∧ Blk2 w2 (w.heap.size + 1) (.int .i64 0) (.string ⟨#[]⟩) ∧ Below w.heap.size w w2) := ⟨H1.out.1.later q2, H1.out.2.1.later q2, H1.out.2.2.trans (q2.mono H1.out.2.2.size)⟩
        clear q2 H1 HH HLF k0 k1 k2 k3 k4 k5 k6
        obtain ⟨⟨k0, k1, k2, k3, k4, k5, k6⟩, _⟩ := H2.out.1.1
        obtain ⟨g3, o3, rfl, _, hg3, z0, z1, z2, z3, z4, z5, z6, z7, z8, z9⟩ := H2.out.1.2.2.2.at10 hk
        rw [hkr] at z8
        rw [hkv] at z9
        have HB2 : Hid (Below w.heap.size w (w2.alloc (.cells #[.int .i64 (R (k * 10)), .int .i64 (R (k * 10 + 1)), .int .i64 (R (k * 10 + 2)), .int .i64 (R (k * 10 + 3)), .int .i64 (R (k * 10 + 4)), .int .i64 (R (k * 10 + 5)), .int .i64 (R (k * 10 + 6)), .int .i64 (R (k * 10 + 7)), .int .i64 (0 : Nat), .int .i64 (v : Nat)] 65))) := H2.out.2.2.alloc H2.out.2.2.size _
        go_wp2_with fail
        refine (HDV.out _ (HT0.out.later HB2.out)).mono ?_
        rintro e w3 ⟨rfl, q3⟩
        have hb := (H2.out.2.1.alloc (.cells #[.int .i64 (R (k * 10)), .int .i64 (R (k * 10 + 1)), .int .i64 (R (k * 10 + 2)), .int .i64 (R (k * 10 + 3)), .int .i64 (R (k * 10 + 4)), .int .i64 (R (k * 10 + 5)), .int .i64 (R (k * 10 + 6)), .int .i64 (R (k * 10 + 7)), .int .i64 (0 : Nat), .int .i64 (v : Nat)] 65)).later q3
        have HB : Hid (Below w.heap.size w w3) := HB2.out.trans (q3.mono HB2.out.size)
        obtain ⟨⟨b0, b1⟩, y0, y1⟩ := hb
        clear q3 H2 HB2
        go_wp2
        refine bodyPost_ret (v := .agg #[.int .i64 0, .string (⟨#[111, 107, 32]⟩ ++ dv)]) (by simp [results, Tryz.results7, go_sem, b0, b1]) rfl ?_
        exact ⟨by rw [HX.out]; rfl, (HB.out.setCell (by simp) _).setCell (by simp) _⟩
      · have HX : Hid (TX = noB ++ decT r) := by unfold Hid; rw [← HTX.out, toldT_no hr0]
        have hrB : ((r : Int) != 0) = true := bne_iff_ne.2 (by omega)
        clear HTX
        have hs := HS.out r (by omega)
        have ka := fun w => run_string_add_sum (P := Tryz.prog) w ⟨#[110, 111, 32]⟩ (decT r) (by show 3 + _ ≤ _; omega)
        have hd := HD.out r
        have HDV : Hid (∀ w, Pow10 w → Calls Tryz.prog 20 #[.int .i64 (r : Nat)] w fun e w' => e = .returned (.string (decT r)) ∧ Below w.heap.size w w') := fun w => hd w (by omega)
        generalize decT r = dv at *
        clear hd HD HS
        go_enter Tryz.func7, Tryz.ntmps7
        go_wp2_with fail
        refine (HLF.out _ H0.out.1).mono ?_
        rintro e w1 ⟨rfl, q1⟩
        clear k0 k1 k2 k3 k4 k5 k6
        have H1 : Hid (LiesF w1 w.heap.size nw nx bd nr F n S V (.slice a0 nr c0) (.slice a1 n c1) nt T X (.slice a2 nt c2) nq R (.slice a3 nq c3) ∧ Blk2 w1 (w.heap.size + 1) (.int .i64 0) (.string ⟨#[]⟩) ∧ Below w.heap.size w w1) := ⟨H0.out.1.later q1, H0.out.2.1.later q1, H0.out.2.2.trans (q1.mono (by simp; omega))⟩
        clear q1 H0
        obtain ⟨⟨k0, k1, k2, k3, k4, k5, k6⟩, _⟩ := H1.out.1.1
        go_wp2_with fail
        refine (HH.out _ H1.out.1).mono ?_
        rintro e w2 ⟨rfl, q2⟩
        have H2 : Hid (LiesF w2 w.heap.size nw nx bd nr F n S V (.slice a0 nr c0) (.slice a1 n c1) nt T X (.slice a2 nt c2) nq R (.slice a3 nq c3) ∧ Blk2 w2 (w.heap.size + 1) (.int .i64 0) (.string ⟨#[]⟩) ∧ Below w.heap.size w w2) := ⟨H1.out.1.later q2, H1.out.2.1.later q2, H1.out.2.2.trans (q2.mono H1.out.2.2.size)⟩
        clear q2 H1 HH HLF k0 k1 k2 k3 k4 k5 k6
        obtain ⟨⟨k0, k1, k2, k3, k4, k5, k6⟩, _⟩ := H2.out.1.1
        obtain ⟨g3, o3, rfl, _, hg3, z0, z1, z2, z3, z4, z5, z6, z7, z8, z9⟩ := H2.out.1.2.2.2.at10 hk
        rw [hkr] at z8
        rw [hkv] at z9
        have HB2 : Hid (Below w.heap.size w (w2.alloc (.cells #[.int .i64 (R (k * 10)), .int .i64 (R (k * 10 + 1)), .int .i64 (R (k * 10 + 2)), .int .i64 (R (k * 10 + 3)), .int .i64 (R (k * 10 + 4)), .int .i64 (R (k * 10 + 5)), .int .i64 (R (k * 10 + 6)), .int .i64 (R (k * 10 + 7)), .int .i64 (r : Nat), .int .i64 (v : Nat)] 65))) := H2.out.2.2.alloc H2.out.2.2.size _
        go_wp2_with fail
        refine (HDV.out _ (HT0.out.later HB2.out)).mono ?_
        rintro e w3 ⟨rfl, q3⟩
        have hb := (H2.out.2.1.alloc (.cells #[.int .i64 (R (k * 10)), .int .i64 (R (k * 10 + 1)), .int .i64 (R (k * 10 + 2)), .int .i64 (R (k * 10 + 3)), .int .i64 (R (k * 10 + 4)), .int .i64 (R (k * 10 + 5)), .int .i64 (R (k * 10 + 6)), .int .i64 (R (k * 10 + 7)), .int .i64 (r : Nat), .int .i64 (v : Nat)] 65)).later q3
        have HB : Hid (Below w.heap.size w w3) := HB2.out.trans (q3.mono HB2.out.size)
        obtain ⟨⟨b0, b1⟩, y0, y1⟩ := hb
        clear q3 H2 HB2
        go_wp2
        refine bodyPost_ret (v := .agg #[.int .i64 0, .string (⟨#[110, 111, 32]⟩ ++ dv)]) (by simp [results, Tryz.results7, go_sem, b0, b1]) rfl ?_
        exact ⟨by rw [HX.out]; rfl, (HB.out.setCell (by simp) _).setCell (by simp) _⟩
end Go.Proofs.YtjkchhcnochjlaaGreatDoor

namespace Go.Proofs.YtjkchhcnochjlaaGreatDoor
open Go.RowKit

set_option maxHeartbeats 1000000 in
theorem eqText_same (c : Int) (tx : ByteArray) (w : World) :
    Calls Tryz.prog 8 #[.agg #[.int .i64 c, .string tx], .agg #[.int .i64 c, .string tx]] w fun e w' => e = .returned (.bool true) ∧ Below w.heap.size w w' := by
  go_enter Tryz.func8, Tryz.ntmps8
  go_wp2
  go_ret
  exact ⟨rfl, (below_alloc _ _).alloc (by simp) _⟩
/-- What the law's last region stands on: its argument, and the copy that the program was given. -/
def TwoF (w : World) (nw nx bd : Int) (vr vs vt vq : Value) (q : Nat) (ur us ut uq : Value) (x : World) : Prop := Below w.heap.size w x ∧ Blk7F x w.heap.size (.int .i64 nw) (.int .i64 nx) (.int .i64 bd) vr vs vt vq ∧ Blk7F x q (.int .i64 nw) (.int .i64 nx) (.int .i64 bd) ur us ut uq
theorem TwoF.later {w x x' : World} {nw nx bd : Int} {vr vs vt vq ur us ut uq : Value} {q : Nat} (h : TwoF w nw nx bd vr vs vt vq q ur us ut uq x) (hb : Below x.heap.size x x') : TwoF w nw nx bd vr vs vt vq q ur us ut uq x' := ⟨h.1.trans (hb.mono h.1.size), h.2.1.later hb, h.2.2.later hb⟩
set_option maxRecDepth 100000 in
set_option maxHeartbeats 4000000 in
theorem runText_walk (nw nx bd : Int) (nr : Nat) (F : Nat → Int) (n : Nat) (S : Nat → Sto) (V : Nat → Nat → Value) (vr vs : Value) (nt : Nat) (T : Nat → Tx) (X : Nat → Value) (vt : Value) (nq : Nat) (R : Nat → Int) (vq : Value) (pl : Int) (w : World) (h : Grs w 0 nr F n S V vr vs) (hx : Txs w 0 nt T X vt) (hq : Row w 0 10 nq R vq) (hr : nr ≤ 9223372036854775807) (hn : n ≤ 9223372036854775807) (hs : ∀ i, i < n → BigS (S i)) (hnt : nt ≤ 9223372036854775807) (hm : ∀ i, i < nt → (T i).m ≤ 9223372036854775807) (hnq : nq ≤ 9223372036854775807) (hT : Pow10 w) :
    Calls Tryz.prog 3 #[.agg #[.int .i64 nw, .int .i64 nx, .int .i64 bd, vr, vs, vt, vq], .int .i64 pl] w fun e w' => e = .returned (.bool true) ∧ Below w.heap.size w w' := by
  obtain ⟨a0, c0, a1, c1, rfl, rfl⟩ := h.form
  obtain ⟨a2, c2, rfl⟩ := hx.form
  obtain ⟨a3, c3, rfl⟩ := hq.form
  have HG : Hid (Grs w 0 nr F n S V (.slice a0 nr c0) (.slice a1 n c1) ∧ Txs w 0 nt T X (.slice a2 nt c2)) := ⟨h, hx⟩
  have HQ : Hid (Row w 0 10 nq R (.slice a3 nq c3)) := hq
  have HN : Hid ((∀ i, i < n → BigS (S i)) ∧ ∀ i, i < nt → (T i).m ≤ 9223372036854775807) := ⟨hs, hm⟩
  have H : Hid (Blk7F (w.alloc (.cells #[.int .i64 nw, .int .i64 nx, .int .i64 bd, .slice a0 nr c0, .slice a1 n c1, .slice a2 nt c2, .slice a3 nq c3] 33)) w.heap.size (.int .i64 nw) (.int .i64 nx) (.int .i64 bd) (.slice a0 nr c0) (.slice a1 n c1) (.slice a2 nt c2) (.slice a3 nq c3) ∧ Below w.heap.size w (w.alloc (.cells #[.int .i64 nw, .int .i64 nx, .int .i64 bd, .slice a0 nr c0, .slice a1 n c1, .slice a2 nt c2, .slice a3 nq c3] 33))) := ⟨Blk7F.new w _ _ _ _ _ _ _ _, below_alloc _ _⟩
  clear h hx hs hm hq
  obtain ⟨c, tx, HA⟩ : ∃ c tx, Hid (RtAns nw nx bd nr F n S nt T nq R pl c tx) := RtAns.get nw nx bd nr F n S nt T nq R pl
  have HT : Hid (Pow10 w) := hT
  clear hT
  go_enter Tryz.func3, Tryz.ntmps3
  go_wp2_with fail
  refine (szFsWorld_any nw nx bd nr F n S V _ _ nt T X _ nq R _ 0 _ (HG.out.1.alloc _) (HG.out.2.alloc _) (HQ.out.later (below_alloc _ _)) hr hn HN.out.1 hnt HN.out.2 hnq).mono ?_
  rintro e w1 ⟨r, rfl, hA, q1⟩
  have H1 : Hid (Blk7F w1 w.heap.size (.int .i64 nw) (.int .i64 nx) (.int .i64 bd) (.slice a0 nr c0) (.slice a1 n c1) (.slice a2 nt c2) (.slice a3 nq c3) ∧ Below w.heap.size w w1) := ⟨H.out.1.later q1, H.out.2.trans (q1.mono H.out.2.size)⟩
  clear q1 H
  rcases hA with rfl | ⟨h1, ⟨h2, h3, _, h4⟩, ⟨h5, _, h6⟩, h7⟩
  · go_wp2
    go_ret
    exact ⟨rfl, H1.out.2⟩
  have HB : Hid ((nr ≤ 1048576 ∧ n ≤ 1048576 ∧ ∀ i, i < n → SmallS (S i)) ∧ nt ≤ 1048576 ∧ ∀ i, i < nt → (T i).m ≤ 1048576) := ⟨⟨h2, h3, h4⟩, h5, h6⟩
  have dr : decide (r < 0) = false := decide_eq_false (by omega)
  clear h1 h2 h3 h4 h5 h6 hr hn HN hnt hnq
  obtain ⟨⟨p0, p1, p2, p3, p4, p5, p6⟩, _⟩ := H1.out.1
  go_wp2_with fail
  refine (toFsWorld_any nw nx bd nr F n S V _ _ nt T X _ nq R _ 0 _ (HG.out.1.later H1.out.2) (HG.out.2.later H1.out.2) (HQ.out.later H1.out.2) HB.out.1 HB.out.2 h7).mono ?_
  intro e w2 hN2
  obtain ⟨ra, rc, g, U, gt, Y, uq, rfl, g2, t2, r2, q2⟩ := hN2.rows
  have H2 : Hid (Blk7F w2 w.heap.size (.int .i64 nw) (.int .i64 nx) (.int .i64 bd) (.slice a0 nr c0) (.slice a1 n c1) (.slice a2 nt c2) (.slice a3 nq c3) ∧ Below w.heap.size w w2) := ⟨H1.out.1.later q2, H1.out.2.trans (q2.mono H1.out.2.size)⟩
  have G2 : Hid (Grs w2 0 nr F n S U (.slice ra nr rc) (.slice (some ⟨g, 0, none⟩) n n) ∧ Txs w2 0 nt T Y (.slice (some ⟨gt, 0, none⟩) nt nt) ∧ Row w2 0 10 nq R (.slice uq nq nq)) := ⟨g2, t2, r2⟩
  clear q2 hN2 g2 t2 r2 H1 p0 p1 p2 p3 p4 p5 p6
  go_wp2_with fail
  refine (specRunText_is nw nx bd nr F n S U _ _ nt T Y _ nq R _ 0 pl c tx _ G2.out.1 G2.out.2.1 G2.out.2.2 (by have := HB.out.1.1; omega) (by have := HB.out.1.2.1; omega) (by have := HB.out.2.1; omega) (by omega) (fun i hi => by have := HB.out.2.2 i hi; omega) HA.out).mono ?_
  rintro e w3 ⟨rfl, q3⟩
  have H3 : Hid (Blk7F (w3.alloc (.cells #[.int .i64 c, .string tx] 36)) w.heap.size (.int .i64 nw) (.int .i64 nx) (.int .i64 bd) (.slice a0 nr c0) (.slice a1 n c1) (.slice a2 nt c2) (.slice a3 nq c3) ∧ Below w.heap.size w (w3.alloc (.cells #[.int .i64 c, .string tx] 36)) ∧ Blk2 (w3.alloc (.cells #[.int .i64 c, .string tx] 36)) w3.heap.size (.int .i64 c) (.string tx)) := ⟨(H2.out.1.later q3).alloc _, (H2.out.2.trans (q3.mono H2.out.2.size)).alloc (Nat.le_trans H2.out.2.size q3.size) _, Blk2.new _ _ _ _⟩
  clear q3 H2 G2
  obtain ⟨⟨p0, p1, p2, p3, p4, p5, p6⟩, _⟩ := H3.out.1
  go_wp2_with fail
  refine (toFsWorld_any nw nx bd nr F n S V _ _ nt T X _ nq R _ 0 _ (HG.out.1.later H3.out.2.1) (HG.out.2.later H3.out.2.1) (HQ.out.later H3.out.2.1) HB.out.1 HB.out.2 h7).mono ?_
  intro e w4 hN4
  obtain ⟨ra', rc', g', U', gt', Y', uq', rfl, g4, t4, r4, q4⟩ := hN4.rows
  have G4 : Hid (Grs (w4.alloc (.cells #[.int .i64 nw, .int .i64 nx, .int .i64 bd, .slice ra' nr rc', .slice (some ⟨g', 0, none⟩) n n, .slice (some ⟨gt', 0, none⟩) nt nt, .slice uq' nq nq] 48)) 0 nr F n S U' (.slice ra' nr rc') (.slice (some ⟨g', 0, none⟩) n n) ∧ Txs (w4.alloc (.cells #[.int .i64 nw, .int .i64 nx, .int .i64 bd, .slice ra' nr rc', .slice (some ⟨g', 0, none⟩) n n, .slice (some ⟨gt', 0, none⟩) nt nt, .slice uq' nq nq] 48)) 0 nt T Y' (.slice (some ⟨gt', 0, none⟩) nt nt) ∧ Row (w4.alloc (.cells #[.int .i64 nw, .int .i64 nx, .int .i64 bd, .slice ra' nr rc', .slice (some ⟨g', 0, none⟩) n n, .slice (some ⟨gt', 0, none⟩) nt nt, .slice uq' nq nq] 48)) 0 10 nq R (.slice uq' nq nq)) := ⟨g4.alloc _, t4.alloc _, r4.later (below_alloc _ _)⟩
  have T4 : Hid (TwoF w nw nx bd (.slice a0 nr c0) (.slice a1 n c1) (.slice a2 nt c2) (.slice a3 nq c3) w4.heap.size (.slice ra' nr rc') (.slice (some ⟨g', 0, none⟩) n n) (.slice (some ⟨gt', 0, none⟩) nt nt) (.slice uq' nq nq) (w4.alloc (.cells #[.int .i64 nw, .int .i64 nx, .int .i64 bd, .slice ra' nr rc', .slice (some ⟨g', 0, none⟩) n n, .slice (some ⟨gt', 0, none⟩) nt nt, .slice uq' nq nq] 48))) := ⟨(H3.out.2.1.trans (q4.mono H3.out.2.1.size)).alloc (Nat.le_trans H3.out.2.1.size q4.size) _, (H3.out.1.later q4).alloc _, Blk7F.new _ _ _ _ _ _ _ _ _⟩
  have P4 : Hid (Blk2 (w4.alloc (.cells #[.int .i64 nw, .int .i64 nx, .int .i64 bd, .slice ra' nr rc', .slice (some ⟨g', 0, none⟩) n n, .slice (some ⟨gt', 0, none⟩) nt nt, .slice uq' nq nq] 48)) w3.heap.size (.int .i64 c) (.string tx)) := (H3.out.2.2.later q4).alloc _
  clear q4 hN4 g4 t4 r4 H3 p0 p1 p2 p3 p4 p5 p6
  go_wp2_with fail
  generalize w4.alloc (.cells #[.int .i64 nw, .int .i64 nx, .int .i64 bd, .slice ra' nr rc', .slice (some ⟨g', 0, none⟩) n n, .slice (some ⟨gt', 0, none⟩) nt nt, .slice uq' nq nq] 48) = w5 at G4 T4 P4 ⊢
  refine (implRunText_is nw nx bd nr F n S U' _ _ nt T Y' _ nq R _ 0 pl c tx _ G4.out.1 G4.out.2.1 G4.out.2.2 (by have := HB.out.1.1; omega) (by have := HB.out.1.2.1; omega) (by have := HB.out.2.1; omega) (by omega) (fun i hi => by have := HB.out.2.2 i hi; omega) HA.out (HT.out.later T4.out.1)).mono ?_
  rintro e w6 ⟨rfl, q6⟩
  have q8 : Below w5.heap.size w5 (w6.alloc (.cells #[.int .i64 c, .string tx] 36)) := q6.alloc q6.size _
  have P8 : Hid (Blk2 (w6.alloc (.cells #[.int .i64 c, .string tx] 36)) w3.heap.size (.int .i64 c) (.string tx) ∧ Blk2 (w6.alloc (.cells #[.int .i64 c, .string tx] 36)) w6.heap.size (.int .i64 c) (.string tx)) := ⟨P4.out.later q8, Blk2.new _ _ _ _⟩
  clear q6
  obtain ⟨⟨s0, s1⟩, _⟩ := P8.out.1
  obtain ⟨⟨u0, u1⟩, _⟩ := P8.out.2
  go_wp2_with fail
  refine (eqText_same c tx _).mono ?_
  rintro e w9 ⟨rfl, r9⟩
  have q9 : Below w5.heap.size w5 w9 := q8.trans (r9.mono q8.size)
  clear r9 q8 s0 s1 u0 u1 P8
  have G9 : Hid (Grs w9 0 nr F n S U' (.slice ra' nr rc') (.slice (some ⟨g', 0, none⟩) n n) ∧ Txs w9 0 nt T Y' (.slice (some ⟨gt', 0, none⟩) nt nt) ∧ Row w9 0 10 nq R (.slice uq' nq nq)) := ⟨G4.out.1.later q9, G4.out.2.1.later q9, G4.out.2.2.later q9⟩
  have T9 : Hid (TwoF w nw nx bd (.slice a0 nr c0) (.slice a1 n c1) (.slice a2 nt c2) (.slice a3 nq c3) w4.heap.size (.slice ra' nr rc') (.slice (some ⟨g', 0, none⟩) n n) (.slice (some ⟨gt', 0, none⟩) nt nt) (.slice uq' nq nq) w9) := T4.out.later q9
  clear q9 G4 T4 P4
  go_wp2_with fail
  refine wp_region_held_drew (S := TwoF w nw nx bd (.slice a0 nr c0) (.slice a1 n c1) (.slice a2 nt c2) (.slice a3 nq c3) w4.heap.size (.slice ra' nr rc') (.slice (some ⟨g', 0, none⟩) n n) (.slice (some ⟨gt', 0, none⟩) nt nt) (.slice uq' nq nq)) (by kernel_rfl) (T9.out.later (Below.drew (Below.refl _ _))) (fun hS => ?_)
  clear T9
  refine tkH 0 ?_ hS (fun wx hx => ?_) ?_; rotate_left
  · obtain ⟨_, ⟨⟨hx0, hx1, hx2, hx3, hx4, hx5, hx6⟩, _⟩, ⟨⟨hy0, hy1, hy2, hy3, hy4, hy5, hy6⟩, _⟩⟩ := hx; go_simp; try with_reducible rfl
  refine tkH 1 ?_ hS (fun wx hx => ?_) ?_; rotate_left
  · obtain ⟨_, ⟨⟨hx0, hx1, hx2, hx3, hx4, hx5, hx6⟩, _⟩, ⟨⟨hy0, hy1, hy2, hy3, hy4, hy5, hy6⟩, _⟩⟩ := hx; go_simp; try with_reducible rfl
  refine rdH 2 (fun K hK => ?_)
  go_simp
  go_wp2_with fail
  refine (toFsWorld_any nw nx bd nr F n S V _ _ nt T X _ nq R _ 0 _ (HG.out.1.later hS.1) (HG.out.2.later hS.1) (HQ.out.later hS.1) HB.out.1 HB.out.2 h7).mono ?_
  intro e w7 hN7
  obtain ⟨rb, rd, g2, U2, gt2, Y2, uq2, rfl, g7, t7, r7, q7⟩ := hN7.rows
  have q7' : Below w9.heap.size w9 w7 := ⟨q7.os, q7.tape, q7.output, q7.size, q7.block⟩
  have G7 : Hid ((Grs w7 0 nr F n S U' (.slice ra' nr rc') (.slice (some ⟨g', 0, none⟩) n n) ∧ Txs w7 0 nt T Y' (.slice (some ⟨gt', 0, none⟩) nt nt) ∧ Row w7 0 10 nq R (.slice uq' nq nq)) ∧ Grs w7 0 nr F n S U2 (.slice rb nr rd) (.slice (some ⟨g2, 0, none⟩) n n) ∧ Txs w7 0 nt T Y2 (.slice (some ⟨gt2, 0, none⟩) nt nt) ∧ Row w7 0 10 nq R (.slice uq2 nq nq)) := ⟨⟨G9.out.1.later q7', G9.out.2.1.later q7', G9.out.2.2.later q7'⟩, g7, t7, r7⟩
  have hS' := hS.later q7
  clear q7 q7' hN7 g7 t7 r7 G9
  go_wp2_with fail
  refine hK.out _ _ hS' (fun hS => ?_)
  clear hK K hS'
  refine rdH 3 (fun K hK => ?_)
  go_simp
  go_wp2_with fail
  refine (eqFsWorld_same nw nx bd nr F n S U' U2 _ _ _ _ _ _ _ _ nt T Y' Y2 _ _ _ _ nq R _ _ _ _ 0 0 _ G7.out.1.1 G7.out.2.1 G7.out.1.2.1 G7.out.2.2.1 G7.out.1.2.2 G7.out.2.2.2 HB.out.1 HB.out.2 h7).mono ?_
  rintro e w8 ⟨rfl, q8⟩
  have hS' := hS.later q8
  clear q8 G7
  go_wp2_with fail
  refine hK.out _ _ hS' (fun hS => ?_)
  clear hK K hS'
  refine tkH 4 ?_ hS (fun wx hx => ?_) ?_; rotate_left
  · obtain ⟨_, ⟨⟨hx0, hx1, hx2, hx3, hx4, hx5, hx6⟩, _⟩, ⟨⟨hy0, hy1, hy2, hy3, hy4, hy5, hy6⟩, _⟩⟩ := hx; go_simp; try with_reducible rfl
  refine wpAnyH_done (by kernel_rfl) ?_ _
  have BB : Hid (Below w.heap.size w w8) := hS.1
  clear hS
  go_simp
  go_wp2
  go_ret
  exact ⟨rfl, BB.out⟩
end Go.Proofs.YtjkchhcnochjlaaGreatDoor

