/-
  Own text, merged of TreC, TreD, TreE, TreF, TreG, TreH, TreI.
-/
import Derived.Test.YtbpppaolcgibnaaGreatDoorPk3
namespace Go.Proofs.YtbpppaolcgibnaaGreatDoor
open Go.RowKit

/-- The entries of one inode under way. -/
def LtE (w : World) (K : Prs) (lv : Value) (X : World) : Prop := OwnM X (w.heap.size + 1) 109 2 lv K.length (flatL K) ∧ Below w.heap.size w X ∧ w.heap.size < X.heap.size
theorem LtE.later {w X X' : World} {K : Prs} {lv : Value} (h : LtE w K lv X) (hb : Below X.heap.size X X') : LtE w K lv X' := ⟨h.1.later hb, h.2.1.trans (hb.mono h.2.1.size), Nat.lt_of_lt_of_le h.2.2 hb.size⟩
theorem LtE.app {w X w6 : World} {K : Prs} {ao ao1 : Option Addr} {cp cp1 : Nat} {a0 a1 : Int} (h : LtE w K (.slice ao K.length cp) X)
    (O6 : OwnM w6 (w.heap.size + 1) 109 2 (.slice ao1 (K.length + 1) cp1) (K.length + 1) (flatL K ++ nums (fun p => [a0, a1].getD p 0) (1 * 2))) (G6 : X.grownBy w6 (Value.slice ao K.length cp).ownBlock) : LtE w (K ++ [(a0, a1)]) (.slice ao1 (K.length + 1) cp1) w6 := by
  refine ⟨?_, h.2.1.trans ⟨G6.os, G6.tape, G6.output, G6.size, fun k hk => G6.block k (Nat.lt_trans hk h.2.2) (fun e => by have := (h.1.block _ e.symm).1; omega)⟩, Nat.lt_of_lt_of_le h.2.2 G6.size⟩
  have e : nums (fun p => [a0, a1].getD p 0) (1 * 2) = [a0, a1] := rfl
  rw [e] at O6
  rw [List.length_append, flatL_append]
  exact O6
theorem toL_step {K : Prs} {k : Nat} (hk : k < K.length) {n0 n1 : Int} (h0 : (K.getD k (0, 0)).1 = n0) (h1 : (K.getD k (0, 0)).2 = n1) (a : Int) : toL (K.take (k + 1)) a = toL (K.take k) a ++ (if n1 = a then [(n0, n1)] else []) := by
  unfold toL
  have e : K.getD k (0, 0) = (n0, n1) := by rw [← h0, ← h1]
  rw [take_snoc hk, List.filter_append, e]
  by_cases h : n1 = a
  · rw [if_pos h]; simp [h]
  · rw [if_neg h]; simp [h]
set_option maxRecDepth 100000 in
set_option maxHeartbeats 4000000 in
theorem linksTo_is (K : Prs) (pb : Addr) (v : Value) (B : Nat) (a : Int) (w : World) (h : Row w B 2 K.length (rowL K) v) (hn : K.length ≤ 1000) :
    Calls Tryz.prog 27 #[.agg #[.pointer (some pb), v], .int .i64 a] w fun e w' => ∃ lv, e = .returned lv ∧ OwnM w' w.heap.size 109 2 lv (toL K a).length (flatL (toL K a)) ∧ Below w.heap.size w w' := by
  obtain ⟨ao0, cp0, rfl⟩ := h.form
  have H : Hid (Row w B 2 K.length (rowL K) (.slice ao0 K.length cp0)) := h
  obtain ⟨i0, hi, iz0, iz1, iz2⟩ := info_parts infoz_link
  clear h
  go_enter Tryz.func27, Tryz.ntmps27
  go_wp2
  go_loopw [4, 10] (fun l i wr => ∃ (k : Nat) (ao : Option Addr) (cp : Nat) (M : Prs), k ≤ K.length ∧ i = .int .i64 k ∧ List.length M ≤ k ∧ l = .slice ao (List.length M) cp ∧ Hid (toL (K.take k) a = M ∧ LtE w M (.slice ao (List.length M) cp) wr)) (fun _ i _ => K.length - (intOf i).toNat)
  case atStart => exact ⟨0, none, 0, [], Nat.zero_le _, rfl, Nat.le_refl _, rfl, rfl, OwnM.nil _ _ _ _, below_alloc _ _, by simp⟩
  case round =>
    obtain ⟨k, ao, cp, M, hk, rfl, hM, rfl, HS⟩ := hrel
    by_cases hlt : k < K.length
    case neg =>
      obtain rfl : k = K.length := by omega
      go_wp2
      go_ret
      have e := HS.out.1
      rw [List.take_length] at e
      refine ⟨_, rfl, ?_, HS.out.2.2.1⟩
      rw [e]
      exact OwnM.monoP HS.out.2.1 (by omega)
    obtain ⟨g, o, hao, _, hg, y0, y1⟩ := (H.out.later HS.out.2.2.1).at2 hlt
    subst hao
    rw [rowL_key] at y0
    rw [rowL_val] at y1
    obtain ⟨n0, N0⟩ : ∃ x, (K.getD k (0, 0)).1 = x := ⟨_, rfl⟩
    rw [N0] at y0
    obtain ⟨n1, N1⟩ : ∃ x, (K.getD k (0, 0)).2 = x := ⟨_, rfl⟩
    rw [N1] at y1
    have hst := toL_step hlt N0 N1 a
    rw [HS.out.1] at hst
    have HST : Hid (toL (K.take (k + 1)) a = M ++ (if n1 = a then [(n0, n1)] else [])) := hst
    clear N0 N1 hst
    by_cases h2 : n1 = a
    · have d2 : (n1 == a) = true := beq_iff_eq.2 h2
      have HST2 : Hid (toL (K.take (k + 1)) a = M ++ [(n0, n1)]) := by
        have := HST.out
        rwa [if_pos h2] at this
      clear h2 HST
      have HEa : Hid (LtE w M (.slice ao M.length cp) ((wr.alloc (.cells #[.int .i64 n0, .int .i64 n1] 109)).alloc (.cells #[.int .i64 n0, .int .i64 n1] 109))) := HS.out.2.later ((below_alloc _ _).alloc (by simp) _)
      have HRW : Hid (Row ((wr.alloc (.cells #[.int .i64 n0, .int .i64 n1] 109)).alloc (.cells #[.int .i64 n0, .int .i64 n1] 109)) 0 2 1 (fun p => [n0, n1].getD p 0) (.slice (some ⟨(wr.alloc (.cells #[.int .i64 n0, .int .i64 n1] 109)).heap.size, 0, none⟩) 1 1)) := row_lit2 _ n0 n1 _
      have hz : w.heap.size < wr.heap.size := HS.out.2.2.2
      go_wp2_with (at_builtin; refine wpList_app 109 i0 (.agg #[.int .i64 0, .int .i64 0]) 2 16 rfl _ _ 51 rfl Tryz.underlying51 hi iz0 iz1 iz2 rfl (by omega) (by omega) _ (w.heap.size + 1) M.length (flatL M) (.slice ao M.length cp) rfl HEa.out.1 0 1 (fun p => [n0, n1].getD p 0) (.slice (some ⟨wr.heap.size + 1, 0, none⟩) 1 1) rfl (by simpa using HRW.out) (by omega) (by simp; omega) ?_; intro ao1 cp1 w6 O6 G6; have H6 : Hid (LtE w (M ++ [(n0, n1)]) (.slice ao1 (M.length + 1) cp1) w6) := HEa.out.app O6 G6; clear O6 G6 HRW HEa)
      go_roundw
      case rel => exact ⟨k + 1, ao1, cp1, M ++ [(n0, n1)], by omega, by go_num, by simp; omega, by simp, HST2.out, by simpa using H6.out⟩
      case measure => simp [intOf]; omega
    · have d2 : (n1 == a) = false := beq_eq_false_iff_ne.2 h2
      have HST2 : Hid (toL (K.take (k + 1)) a = M) := by
        have := HST.out
        rw [if_neg h2, List.append_nil] at this
        exact this
      have H6 : Hid (LtE w M (.slice ao M.length cp) (wr.alloc (.cells #[.int .i64 n0, .int .i64 n1] 109))) := HS.out.2.later (below_alloc _ _)
      clear h2 HST
      go_wp2
      go_roundw
      case rel => exact ⟨k + 1, ao, cp, M, by omega, by go_num, by omega, rfl, HST2.out, H6.out⟩
      case measure => simp [intOf]; omega
theorem countLinks_is (ao : Option Addr) (n cp : Nat) (hn : n ≤ 1000) (w : World) :
    Calls Tryz.prog 26 #[.slice ao n cp] w fun e w' => e = .returned (.int .u64 n) ∧ w' = w := by
  go_enter Tryz.func26, Tryz.ntmps26
  go_wp2
  go_ret
  exact ⟨rfl, rfl⟩
/-- A code and a value. -/
def ResIntT (w : World) (c v : Int) (e : Ending) (w' : World) : Prop := e = .returned (.agg #[.int .i64 c, .int .i64 v]) ∧ Below w.heap.size w w'
set_option maxRecDepth 100000 in
set_option maxHeartbeats 2000000 in
theorem implLinks_is (y : Value) (B n : Nat) (F : Nat → Int) (a c z : Int) (w : World) (h : Row w B 2 n F y) (hn : n ≤ 1048576) (ha : LnkAns n F a c z) :
    Calls Tryz.prog 10 #[y, .int .i64 a] w (ResIntT w c z) := by
  have H : Hid (Row w B 2 n F y) := h
  clear h
  have HZ : Hid (Below w.heap.size w (w.alloc (.cells #[.int .i64 0, .int .i64 0] 37))) := below_alloc _ _
  rcases ha with ⟨h1, rfl, rfl⟩ | ⟨h1, h2, rfl, rfl⟩ | ⟨h1, h2, rfl, rfl⟩
  · obtain ⟨f, hf⟩ : ∃ f, pairsF F n 0 = f := ⟨_, rfl⟩
    have HF : Hid (pairsF F n 0 = f ∧ True) := ⟨hf, trivial⟩
    have dd : (f != 0) = true := bne_iff_ne.2 (by rw [← hf]; exact h1)
    rw [hf]
    clear h1 hf
    go_enter Tryz.func10, Tryz.ntmps10
    go_wp2_with fail
    refine (implPairs_any _ B n F _ (H.out.alloc _) hn).mono ?_
    rintro e w1 ⟨rfl, q1⟩
    rw [HF.out.1]
    have hb := (Blk2.new w (.int .i64 0) (.int .i64 0) 37).later q1
    have HB : Hid (Below w.heap.size w w1) := HZ.out.trans (q1.mono (by simp))
    obtain ⟨⟨x0, x1⟩, y0, y1⟩ := hb
    clear q1
    go_wp2
    refine bodyPost_ret (v := .agg #[.int .i64 f, .int .i64 (0)]) (by simp [results, Tryz.results10, go_sem, x0, x1]) rfl ⟨rfl, ?_⟩
    exact (HB.out.setCell (by simp) _).setCell (by simp) _
  · have HF : Hid (pairsF F n 0 = 0 ∧ True) := ⟨h1, trivial⟩
    have D1 : Hid (decide (0 ≤ a ∧ a ≤ 9) = false) := decide_eq_false h2
    clear h2 h1
    go_enter Tryz.func10, Tryz.ntmps10
    go_wp2_with fail
    refine (implPairs_any _ B n F _ (H.out.alloc _) hn).mono ?_
    rintro e w1 ⟨rfl, q1⟩
    rw [HF.out.1]
    have hb := (Blk2.new w (.int .i64 0) (.int .i64 0) 37).later q1
    have HB : Hid (Below w.heap.size w w1) := HZ.out.trans (q1.mono (by simp))
    obtain ⟨⟨x0, x1⟩, y0, y1⟩ := hb
    clear q1
    go_wp2_with fail
    refine (isInodeT_is _ _ D1.out _).mono ?_
    rintro e w9 ⟨rfl, hw9⟩
    obtain rfl := hw9.symm
    go_wp2
    refine bodyPost_ret (v := .agg #[.int .i64 3, .int .i64 (0)]) (by simp [results, Tryz.results10, go_sem, x0, x1]) rfl ⟨rfl, ?_⟩
    exact (HB.out.setCell (by simp) _).setCell (by simp) _
  · have HF : Hid (pairsF F n 0 = 0 ∧ True) := ⟨h1, trivial⟩
    have D1 : Hid (decide (0 ≤ a ∧ a ≤ 9) = true) := decide_eq_true h2
    have hn2 := (pairs_rise h1).2
    clear h1 h2
    go_enter Tryz.func10, Tryz.ntmps10
    go_wp2_with fail
    refine (implPairs_any _ B n F _ (H.out.alloc _) hn).mono ?_
    rintro e w1 ⟨rfl, q1⟩
    rw [HF.out.1]
    have hb := (Blk2.new w (.int .i64 0) (.int .i64 0) 37).later q1
    have HB : Hid (Below w.heap.size w w1) := HZ.out.trans (q1.mono (by simp))
    obtain ⟨⟨x0, x1⟩, y0, y1⟩ := hb
    clear q1
    have hBK : Hid (Blk2 w1 w.heap.size (.int .i64 0) (.int .i64 0)) := ⟨⟨x0, x1⟩, y0, y1⟩
    clear x0 x1 y0 y1
    go_wp2_with fail
    refine (isInodeT_is _ _ D1.out _).mono ?_
    rintro e w9 ⟨rfl, hw9⟩
    obtain rfl := hw9.symm
    go_wp2_with fail
    refine (hangingIn_is (listOf F n) _ B _ (row_list (H.out.later HB.out)) (pairs_rise HF.out.1).1 (by rw [listOf_length]; omega) (pairs_keys HF.out.1)).mono ?_
    rintro e w2 ⟨b, rb, mb, lv, rfl, hl, ho, _, q2⟩
    obtain ⟨lo, lc, rfl⟩ := ho.form
    have hK1 : (lnkL (listOf F n)).length ≤ 200 := by have := lnkL_len (listOf F n); rw [listOf_length] at this; omega
    have HB2 : Hid (Below w.heap.size w w2 ∧ Blk2 w2 w.heap.size (.int .i64 0) (.int .i64 0) ∧ Own w2 (b + 1) 109 2 (lnkL (listOf F n)).length (rowL (lnkL (listOf F n))) (.slice lo (lnkL (listOf F n)).length lc)) := ⟨HB.out.trans (q2.mono HB.out.size), hBK.out.later q2, own_eqP (ho.own (flatL_length _)) fun p _ => flatL_get _ p⟩
    clear hl ho q2 HB hBK
    go_wp2_with fail
    refine (linksTo_is (lnkL (listOf F n)) ⟨b, 0, none⟩ _ (b + 1) a _ HB2.out.2.2.row.1 (by omega)).mono ?_
    rintro e w3 ⟨mv, rfl, hm, q3⟩
    obtain ⟨mo, mc, rfl⟩ := hm.form
    have hK2 : (toL (lnkL (listOf F n)) a).length ≤ 200 := by have := toL_len (lnkL (listOf F n)) a; omega
    have HB3 : Hid (Below w.heap.size w w3 ∧ Blk2 w3 w.heap.size (.int .i64 0) (.int .i64 0)) := ⟨HB2.out.1.trans (q3.mono HB2.out.1.size), HB2.out.2.1.later q3⟩
    clear hm q3 HB2
    go_wp2_with fail
    refine (countLinks_is mo _ mc (by omega) _).mono ?_
    rintro e w9 ⟨rfl, hw9⟩
    obtain rfl := hw9.symm
    obtain ⟨⟨x0, x1⟩, y0, y1⟩ := HB3.out.2
    obtain ⟨q, hq⟩ : ∃ q, (toL (lnkL (listOf F n)) a).length = q := ⟨_, rfl⟩
    have HQ : Hid (linkN (listOf F n) a = q) := hq
    rw [hq] at hK2 ⊢
    clear hq
    go_wp2
    refine bodyPost_ret (v := .agg #[.int .i64 0, .int .i64 q]) (by simp [results, Tryz.results10, go_sem, x0, x1]) rfl ⟨by rw [HQ.out], ?_⟩
    exact (HB3.out.1.setCell (by simp) _).setCell (by simp) _
end Go.Proofs.YtbpppaolcgibnaaGreatDoor

namespace Go.Proofs.YtbpppaolcgibnaaGreatDoor
open Go.RowKit

/-- An entry of an inode that does not hang as it must. -/
def badE (L : Prs) (has dir : Bool) (a : Int) (e : Int × Int) : Bool := (partK e.1 == 2) && ((e.2 == a) && (!has || (!(dirB L (partA e.1)) || (dir && decide (partA e.1 ≥ a)))))
def dirV (r : Bool) (z : Int) : Bool := r && (z == 1000)
def fileV (r : Bool) (z c : Int) : Bool := r && (decide (c > 0) && (z == 2000 + c))
/-- Does an inode hang together? r, z: whether it has a value, and which; c: its entries; s: whether it has bytes. -/
def inodeV (L : Prs) (r : Bool) (z c : Int) (s : Bool) (nx a : Int) : Bool :=
  !(r && (decide (a ≥ nx) || (!(dirV r z) && !(fileV r z c)))) && (!(dirV r z && ((a != 0 && c != 1) || (a == 0 && c != 0))) && (!(s && !(fileV r z c)) && L.all (fun e => !(badE L r (dirV r z) a e))))
def inodeB (L : Prs) (nx a : Int) : Bool := inodeV L (lookF L (kI a)).1 (lookF L (kI a)).2 (linkN L a) (lookF L (kB a)).1 nx a
theorem all_ok {L : Prs} {p : Int × Int → Bool} (h : ∀ j, j < L.length → p (L.getD j (0, 0)) = false) : (L.all fun e => !(p e)) = true := by
  rw [List.all_eq_true]
  intro e he
  obtain ⟨i, hi, rfl⟩ := List.getElem_of_mem he
  have := h i hi
  rw [List.getD_eq_getElem?_getD, List.getElem?_eq_getElem hi] at this
  simpa using this
theorem all_no {L : Prs} {p : Int × Int → Bool} {j : Nat} (hj : j < L.length) (h : p (L.getD j (0, 0)) = true) : (L.all fun e => !(p e)) = false := by
  rw [List.all_eq_false]
  refine ⟨L[j], List.getElem_mem hj, ?_⟩
  rw [List.getD_eq_getElem?_getD, List.getElem?_eq_getElem hj] at h
  simpa using h
theorem partA_in {key : Int} (h : partK key = 2) : 0 ≤ partA key ∧ partA key ≤ 9 := by
  rcases parts_ways key with ⟨_, e1, _, _⟩ | ⟨_, _, e1, _, _⟩ | ⟨_, _, _, e1, _, _⟩ | ⟨h1, h2, _, _, e1, e2, _⟩ | ⟨_, _, _, e1, _, _⟩
  · omega
  · omega
  · omega
  · rw [e2]; omega
  · omega

set_option maxRecDepth 100000 in
set_option maxHeartbeats 4000000 in
theorem l14Inode_is (L : Prs) (v : Value) (B : Nat) (a nx : Int) (w : World) (h : Row w B 2 L.length (rowL L) v) (hn1 : L.length ≤ 1000) (hf : KeysOk L) (ha : 0 ≤ a ∧ a ≤ 9) :
    Calls Tryz.prog 38 #[v, .int .i64 a, .int .i64 nx] w fun e w' => e = .returned (.bool (inodeB L nx a)) ∧ w' = w := by
  obtain ⟨ao, cp, rfl⟩ := h.form
  have hn : L.length ≤ 1048576 := by omega
  have H : Hid (Row w B 2 L.length (rowL L) (.slice ao L.length cp) ∧ KeysOk L ∧ (0 ≤ a ∧ a ≤ 9)) := ⟨h, hf, ha⟩
  obtain ⟨t, ht⟩ : ∃ t, lookF L (kI a) = t := ⟨_, rfl⟩
  obtain ⟨r, z⟩ := t
  obtain ⟨t, hu⟩ : ∃ t, lookF L (kB a) = t := ⟨_, rfl⟩
  obtain ⟨s, sz⟩ := t
  obtain ⟨c, hc⟩ : ∃ c : Int, ((linkN L a : Nat) : Int) = c := ⟨_, rfl⟩
  have hc0 : 0 ≤ c ∧ c ≤ 1000 := by
    have := toL_len (lnkL L) a
    have := lnkL_len L
    unfold linkN at hc
    omega
  have HV : Hid (lookF L (kI a) = (r, z) ∧ ((linkN L a : Nat) : Int) = c ∧ lookF L (kB a) = (s, sz)) := ⟨ht, hc, hu⟩
  obtain ⟨res, hres⟩ : ∃ res, inodeB L nx a = res := ⟨_, rfl⟩
  have hR : inodeV L r z c s nx a = res := by rw [← hres]; unfold inodeB; rw [ht, hc, hu]
  rw [hres]
  clear h hf ha ht hu hc hres
  cases r with
  | false =>
    cases s with
    | true =>
      have HQ : Hid (res = false) := by unfold Hid; rw [← hR]; simp [inodeV, dirV, fileV]
      clear hR
      go_enter Tryz.func38, Tryz.ntmps38
      go_wp2_with fail
      refine (ofI_is a H.out.2.2 _).mono ?_
      rintro e w9 ⟨rfl, hw9⟩
      obtain rfl := hw9.symm
      go_wp2_with fail
      refine (l11Value_any L _ B (kI a) _ H.out.1 hn).mono ?_
      rintro e w9 ⟨rfl, hw9⟩
      obtain rfl := hw9.symm
      rw [HV.out.1]
      go_wp2_with fail
      refine (l14Links_is L _ B a _ H.out.1 hn1 H.out.2.1).mono ?_
      rintro e w9 ⟨rfl, hw9⟩
      obtain rfl := hw9.symm
      rw [HV.out.2.1]
      go_wp2_with fail
      refine (ofB_is a H.out.2.2 _).mono ?_
      rintro e w9 ⟨rfl, hw9⟩
      obtain rfl := hw9.symm
      go_wp2_with fail
      refine (l11Value_any L _ B (kB a) _ H.out.1 hn).mono ?_
      rintro e w9 ⟨rfl, hw9⟩
      obtain rfl := hw9.symm
      rw [HV.out.2.2]
      go_wp2
      go_ret
      rw [(HQ.out : res = false)]
      exact ⟨rfl, rfl⟩
    | false =>
      have HR : Hid (res = L.all (fun e => !(badE L false false a e))) := by unfold Hid; rw [← hR]; simp [inodeV, dirV, fileV]
      clear hR
      go_enter Tryz.func38, Tryz.ntmps38
      go_wp2_with fail
      refine (ofI_is a H.out.2.2 _).mono ?_
      rintro e w9 ⟨rfl, hw9⟩
      obtain rfl := hw9.symm
      go_wp2_with fail
      refine (l11Value_any L _ B (kI a) _ H.out.1 hn).mono ?_
      rintro e w9 ⟨rfl, hw9⟩
      obtain rfl := hw9.symm
      rw [HV.out.1]
      go_wp2_with fail
      refine (l14Links_is L _ B a _ H.out.1 hn1 H.out.2.1).mono ?_
      rintro e w9 ⟨rfl, hw9⟩
      obtain rfl := hw9.symm
      rw [HV.out.2.1]
      go_wp2_with fail
      refine (ofB_is a H.out.2.2 _).mono ?_
      rintro e w9 ⟨rfl, hw9⟩
      obtain rfl := hw9.symm
      go_wp2_with fail
      refine (l11Value_any L _ B (kB a) _ H.out.1 hn).mono ?_
      rintro e w9 ⟨rfl, hw9⟩
      obtain rfl := hw9.symm
      rw [HV.out.2.2]
      go_wp2
      go_loopw [14] (fun i wr => ∃ k : Nat, k ≤ L.length ∧ i = .int .i64 k ∧ Hid (∀ j, j < k → badE L false false a (L.getD j (0, 0)) = false) ∧ wr = w) (fun i _ => L.length - (intOf i).toNat)
      case atStart => exact ⟨0, Nat.zero_le _, rfl, fun j hj => absurd hj (Nat.not_lt_zero j), rfl⟩
      case round =>
        obtain ⟨k, hk, rfl, HS, rfl⟩ := hrel
        by_cases hlt : k < L.length
        case neg =>
          have HE : Hid (res = true) := HR.out.trans (all_ok fun j hj => HS.out j (by omega))
          clear HS HR
          go_wp2
          go_ret
          rw [HE.out]
          exact ⟨rfl, rfl⟩
        obtain ⟨g, o, hao, _, hg, y0, y1⟩ := H.out.1.at2 hlt
        subst hao
        rw [rowL_key] at y0
        rw [rowL_val] at y1
        obtain ⟨n0, N0⟩ : ∃ x, (L.getD k (0, 0)).1 = x := ⟨_, rfl⟩
        rw [N0] at y0
        obtain ⟨n1, N1⟩ : ∃ x, (L.getD k (0, 0)).2 = x := ⟨_, rfl⟩
        rw [N1] at y1
        have HF : Hid (faultOf n0 = 0) := by have := H.out.2.1 k hlt; rwa [N0] at this
        obtain ⟨kk, hkk⟩ : ∃ x, partK n0 = x := ⟨_, rfl⟩
        obtain ⟨ka, hka⟩ : ∃ x, partA n0 = x := ⟨_, rfl⟩
        obtain ⟨kb, hkb⟩ : ∃ x, partB n0 = x := ⟨_, rfl⟩
        have HK : Hid (partK n0 = kk ∧ partA n0 = ka ∧ partB n0 = kb) := ⟨hkk, hka, hkb⟩
        obtain ⟨q, hq⟩ : ∃ q, badE L false false a (L.getD k (0, 0)) = q := ⟨_, rfl⟩
        have HQ : Hid (badE L false false a (L.getD k (0, 0)) = q) := hq
        have hq2 : ((kk == 2) && ((n1 == a) && (!false || (!(dirB L ka) || (false && decide (ka ≥ a)))))) = q := by rw [← hq, ← hkk, ← hka, ← N0, ← N1]; rfl
        have hkr : kk = 2 → 0 ≤ ka ∧ ka ≤ 9 := fun e => by rw [← hka]; exact partA_in (hkk.trans e)
        clear hq N0 N1 hkk hka hkb
        have HON : Hid (q = false → ∀ j, j < k + 1 → badE L false false a (L.getD j (0, 0)) = false) := fun e j hj => by
          rcases Nat.eq_or_lt_of_le (Nat.lt_succ_iff.1 hj) with rfl | qq
          · exact HQ.out.trans e
          · exact HS.out j qq
        have HNO : Hid (q = true → res = false) := fun e => HR.out.trans (all_no hlt (HQ.out.trans e))
        clear HS HR HQ
        by_cases h2 : kk = 2
        · subst h2
          have hkr2 := hkr rfl
          clear hkr
          by_cases h3 : n1 = a
          · have dn : (n1 != a) = false := by simp [h3]
            have HX := HNO.out (by rw [← hq2]; simp [h3])
            have HX2 : Hid (res = false) := HX
            clear HX hq2 h3 HON HNO
            go_wp2_with fail
            refine (l1Parts_is n0 HF.out _).mono ?_
            rintro e w9 ⟨rfl, hw9⟩
            obtain rfl := hw9.symm
            rw [HK.out.1, HK.out.2.1, HK.out.2.2]
            go_wp2
            go_ret
            rw [HX2.out]
            exact ⟨rfl, rfl⟩
          · have dn : (n1 != a) = true := bne_iff_ne.2 h3
            have HX := HON.out (by rw [← hq2, beq_eq_false_iff_ne.2 h3]; simp)
            have HX2 : Hid (∀ j, j < k + 1 → badE L false false a (L.getD j (0, 0)) = false) := HX
            clear HX hq2 h3 HON HNO
            go_wp2_with fail
            refine (l1Parts_is n0 HF.out _).mono ?_
            rintro e w9 ⟨rfl, hw9⟩
            obtain rfl := hw9.symm
            rw [HK.out.1, HK.out.2.1, HK.out.2.2]
            go_wp2
            go_roundw
            case rel => exact ⟨k + 1, by omega, by go_num, HX2, trivial⟩
            case measure => simp [intOf]; omega
        · have dk : (kk != 2) = true := bne_iff_ne.2 h2
          have HX := HON.out (by rw [← hq2, beq_eq_false_iff_ne.2 h2]; simp)
          have HX2 : Hid (∀ j, j < k + 1 → badE L false false a (L.getD j (0, 0)) = false) := HX
          clear HX hq2 h2 HON HNO hkr
          go_wp2_with fail
          refine (l1Parts_is n0 HF.out _).mono ?_
          rintro e w9 ⟨rfl, hw9⟩
          obtain rfl := hw9.symm
          rw [HK.out.1, HK.out.2.1, HK.out.2.2]
          go_wp2
          go_roundw
          case rel => exact ⟨k + 1, by omega, by go_num, HX2, trivial⟩
          case measure => simp [intOf]; omega
  | true =>
    by_cases hnx : a ≥ nx
    · have HQ : Hid (res = false) := by unfold Hid; rw [← hR]; simp [inodeV, hnx]
      have d1 : decide (a ≥ nx) = true := decide_eq_true hnx
      clear hR hnx
      by_cases hz : z = 1000
      · have dz : (z == 1000) = true := beq_iff_eq.2 hz
        subst hz
        by_cases hcp : c > 0
        · have dc : decide (c > 0) = true := decide_eq_true hcp
          have df : ((1000 : Int) == 2000 + c) = false := beq_eq_false_iff_ne.2 (by omega)
          go_enter Tryz.func38, Tryz.ntmps38
          go_wp2_with fail
          refine (ofI_is a H.out.2.2 _).mono ?_
          rintro e w9 ⟨rfl, hw9⟩
          obtain rfl := hw9.symm
          go_wp2_with fail
          refine (l11Value_any L _ B (kI a) _ H.out.1 hn).mono ?_
          rintro e w9 ⟨rfl, hw9⟩
          obtain rfl := hw9.symm
          rw [HV.out.1]
          go_wp2_with fail
          refine (l14Links_is L _ B a _ H.out.1 hn1 H.out.2.1).mono ?_
          rintro e w9 ⟨rfl, hw9⟩
          obtain rfl := hw9.symm
          rw [HV.out.2.1]
          go_wp2
          go_ret
          rw [(HQ.out : res = false)]
          exact ⟨rfl, rfl⟩
        · have dc : decide (c > 0) = false := decide_eq_false hcp
          go_enter Tryz.func38, Tryz.ntmps38
          go_wp2_with fail
          refine (ofI_is a H.out.2.2 _).mono ?_
          rintro e w9 ⟨rfl, hw9⟩
          obtain rfl := hw9.symm
          go_wp2_with fail
          refine (l11Value_any L _ B (kI a) _ H.out.1 hn).mono ?_
          rintro e w9 ⟨rfl, hw9⟩
          obtain rfl := hw9.symm
          rw [HV.out.1]
          go_wp2_with fail
          refine (l14Links_is L _ B a _ H.out.1 hn1 H.out.2.1).mono ?_
          rintro e w9 ⟨rfl, hw9⟩
          obtain rfl := hw9.symm
          rw [HV.out.2.1]
          go_wp2
          go_ret
          rw [(HQ.out : res = false)]
          exact ⟨rfl, rfl⟩
      · have dz : (z == 1000) = false := beq_eq_false_iff_ne.2 hz
        by_cases hcp : c > 0
        · have dc : decide (c > 0) = true := decide_eq_true hcp
          by_cases hzc : z = 2000 + c
          · have df : (z == 2000 + c) = true := beq_iff_eq.2 hzc
            clear hz hzc
            go_enter Tryz.func38, Tryz.ntmps38
            go_wp2_with fail
            refine (ofI_is a H.out.2.2 _).mono ?_
            rintro e w9 ⟨rfl, hw9⟩
            obtain rfl := hw9.symm
            go_wp2_with fail
            refine (l11Value_any L _ B (kI a) _ H.out.1 hn).mono ?_
            rintro e w9 ⟨rfl, hw9⟩
            obtain rfl := hw9.symm
            rw [HV.out.1]
            go_wp2_with fail
            refine (l14Links_is L _ B a _ H.out.1 hn1 H.out.2.1).mono ?_
            rintro e w9 ⟨rfl, hw9⟩
            obtain rfl := hw9.symm
            rw [HV.out.2.1]
            go_wp2
            go_ret
            rw [(HQ.out : res = false)]
            exact ⟨rfl, rfl⟩
          · have df : (z == 2000 + c) = false := beq_eq_false_iff_ne.2 hzc
            clear hz hzc
            go_enter Tryz.func38, Tryz.ntmps38
            go_wp2_with fail
            refine (ofI_is a H.out.2.2 _).mono ?_
            rintro e w9 ⟨rfl, hw9⟩
            obtain rfl := hw9.symm
            go_wp2_with fail
            refine (l11Value_any L _ B (kI a) _ H.out.1 hn).mono ?_
            rintro e w9 ⟨rfl, hw9⟩
            obtain rfl := hw9.symm
            rw [HV.out.1]
            go_wp2_with fail
            refine (l14Links_is L _ B a _ H.out.1 hn1 H.out.2.1).mono ?_
            rintro e w9 ⟨rfl, hw9⟩
            obtain rfl := hw9.symm
            rw [HV.out.2.1]
            go_wp2
            go_ret
            rw [(HQ.out : res = false)]
            exact ⟨rfl, rfl⟩
        · have dc : decide (c > 0) = false := decide_eq_false hcp
          clear hz
          go_enter Tryz.func38, Tryz.ntmps38
          go_wp2_with fail
          refine (ofI_is a H.out.2.2 _).mono ?_
          rintro e w9 ⟨rfl, hw9⟩
          obtain rfl := hw9.symm
          go_wp2_with fail
          refine (l11Value_any L _ B (kI a) _ H.out.1 hn).mono ?_
          rintro e w9 ⟨rfl, hw9⟩
          obtain rfl := hw9.symm
          rw [HV.out.1]
          go_wp2_with fail
          refine (l14Links_is L _ B a _ H.out.1 hn1 H.out.2.1).mono ?_
          rintro e w9 ⟨rfl, hw9⟩
          obtain rfl := hw9.symm
          rw [HV.out.2.1]
          go_wp2
          go_ret
          rw [(HQ.out : res = false)]
          exact ⟨rfl, rfl⟩
    · have d1 : decide (a ≥ nx) = false := decide_eq_false hnx
      have hnx2 : decide (a ≥ nx) = false := d1
      by_cases hz : z = 1000
      · subst hz
        have hfv : fileV true 1000 c = false := by
          unfold fileV
          by_cases hcp : c > 0
          · rw [beq_eq_false_iff_ne.2 (show (1000 : Int) ≠ 2000 + c by omega)]; simp
          · simp [hcp]
        unfold inodeV at hR
        rw [hfv, hnx2] at hR
        simp only [dirV, Bool.true_and, Bool.not_false, Bool.and_true, Bool.false_or, beq_self_eq_true, Bool.not_true] at hR
        by_cases ha0 : a = 0
        · have da : (a != 0) = false := by simp [ha0]
          have db : (a == 0) = true := by simp [ha0]
          by_cases hc0' : c = 0
          · have dc : decide (c > 0) = false := decide_eq_false (by omega)
            have dd : (c != 0) = false := by simp [hc0']
            cases s with
            | true =>
              have HQ : Hid (res = false) := by unfold Hid; rw [← hR]; simp
              clear hR hfv ha0 hc0'
              go_enter Tryz.func38, Tryz.ntmps38
              go_wp2_with fail
              refine (ofI_is a H.out.2.2 _).mono ?_
              rintro e w9 ⟨rfl, hw9⟩
              obtain rfl := hw9.symm
              go_wp2_with fail
              refine (l11Value_any L _ B (kI a) _ H.out.1 hn).mono ?_
              rintro e w9 ⟨rfl, hw9⟩
              obtain rfl := hw9.symm
              rw [HV.out.1]
              go_wp2_with fail
              refine (l14Links_is L _ B a _ H.out.1 hn1 H.out.2.1).mono ?_
              rintro e w9 ⟨rfl, hw9⟩
              obtain rfl := hw9.symm
              rw [HV.out.2.1]
              go_wp2_with fail
              refine (ofB_is a H.out.2.2 _).mono ?_
              rintro e w9 ⟨rfl, hw9⟩
              obtain rfl := hw9.symm
              go_wp2_with fail
              refine (l11Value_any L _ B (kB a) _ H.out.1 hn).mono ?_
              rintro e w9 ⟨rfl, hw9⟩
              obtain rfl := hw9.symm
              rw [HV.out.2.2]
              go_wp2
              go_ret
              rw [(HQ.out : res = false)]
              exact ⟨rfl, rfl⟩
            | false =>
              have HR : Hid (res = L.all (fun e => !(badE L true true a e))) := by unfold Hid; rw [← hR]; simp [ha0, hc0']
              clear hR hfv ha0 hc0'
              go_enter Tryz.func38, Tryz.ntmps38
              go_wp2_with fail
              refine (ofI_is a H.out.2.2 _).mono ?_
              rintro e w9 ⟨rfl, hw9⟩
              obtain rfl := hw9.symm
              go_wp2_with fail
              refine (l11Value_any L _ B (kI a) _ H.out.1 hn).mono ?_
              rintro e w9 ⟨rfl, hw9⟩
              obtain rfl := hw9.symm
              rw [HV.out.1]
              go_wp2_with fail
              refine (l14Links_is L _ B a _ H.out.1 hn1 H.out.2.1).mono ?_
              rintro e w9 ⟨rfl, hw9⟩
              obtain rfl := hw9.symm
              rw [HV.out.2.1]
              go_wp2_with fail
              refine (ofB_is a H.out.2.2 _).mono ?_
              rintro e w9 ⟨rfl, hw9⟩
              obtain rfl := hw9.symm
              go_wp2_with fail
              refine (l11Value_any L _ B (kB a) _ H.out.1 hn).mono ?_
              rintro e w9 ⟨rfl, hw9⟩
              obtain rfl := hw9.symm
              rw [HV.out.2.2]
              go_wp2
              go_loopw [14] (fun i wr => ∃ k : Nat, k ≤ L.length ∧ i = .int .i64 k ∧ Hid (∀ j, j < k → badE L true true a (L.getD j (0, 0)) = false) ∧ wr = w) (fun i _ => L.length - (intOf i).toNat)
              case atStart => exact ⟨0, Nat.zero_le _, rfl, fun j hj => absurd hj (Nat.not_lt_zero j), rfl⟩
              case round =>
                obtain ⟨k, hk, rfl, HS, rfl⟩ := hrel
                by_cases hlt : k < L.length
                case neg =>
                  have HE : Hid (res = true) := HR.out.trans (all_ok fun j hj => HS.out j (by omega))
                  clear HS HR
                  go_wp2
                  go_ret
                  rw [HE.out]
                  exact ⟨rfl, rfl⟩
                obtain ⟨g, o, hao, _, hg, y0, y1⟩ := H.out.1.at2 hlt
                subst hao
                rw [rowL_key] at y0
                rw [rowL_val] at y1
                obtain ⟨n0, N0⟩ : ∃ x, (L.getD k (0, 0)).1 = x := ⟨_, rfl⟩
                rw [N0] at y0
                obtain ⟨n1, N1⟩ : ∃ x, (L.getD k (0, 0)).2 = x := ⟨_, rfl⟩
                rw [N1] at y1
                have HF : Hid (faultOf n0 = 0) := by have := H.out.2.1 k hlt; rwa [N0] at this
                obtain ⟨kk, hkk⟩ : ∃ x, partK n0 = x := ⟨_, rfl⟩
                obtain ⟨ka, hka⟩ : ∃ x, partA n0 = x := ⟨_, rfl⟩
                obtain ⟨kb, hkb⟩ : ∃ x, partB n0 = x := ⟨_, rfl⟩
                have HK : Hid (partK n0 = kk ∧ partA n0 = ka ∧ partB n0 = kb) := ⟨hkk, hka, hkb⟩
                obtain ⟨q, hq⟩ : ∃ q, badE L true true a (L.getD k (0, 0)) = q := ⟨_, rfl⟩
                have HQ : Hid (badE L true true a (L.getD k (0, 0)) = q) := hq
                have hq2 : ((kk == 2) && ((n1 == a) && (!true || (!(dirB L ka) || (true && decide (ka ≥ a)))))) = q := by rw [← hq, ← hkk, ← hka, ← N0, ← N1]; rfl
                have hkr : kk = 2 → 0 ≤ ka ∧ ka ≤ 9 := fun e => by rw [← hka]; exact partA_in (hkk.trans e)
                clear hq N0 N1 hkk hka hkb
                have HON : Hid (q = false → ∀ j, j < k + 1 → badE L true true a (L.getD j (0, 0)) = false) := fun e j hj => by
                  rcases Nat.eq_or_lt_of_le (Nat.lt_succ_iff.1 hj) with rfl | qq
                  · exact HQ.out.trans e
                  · exact HS.out j qq
                have HNO : Hid (q = true → res = false) := fun e => HR.out.trans (all_no hlt (HQ.out.trans e))
                clear HS HR HQ
                by_cases h2 : kk = 2
                · subst h2
                  have hkr2 := hkr rfl
                  clear hkr
                  by_cases h3 : n1 = a
                  · have dn : (n1 != a) = false := by simp [h3]
                    obtain ⟨db, hdb⟩ : ∃ db, dirB L ka = db := ⟨_, rfl⟩
                    have HD : Hid (dirB L ka = db) := hdb
                    rw [hdb] at hq2
                    clear hdb
                    cases db with
                    | false =>
                      have HX := HNO.out (by rw [← hq2]; simp [h3])
                      have HX2 : Hid (res = false) := HX
                      clear HX hq2 h3 HON HNO
                      go_wp2_with fail
                      refine (l1Parts_is n0 HF.out _).mono ?_
                      rintro e w9 ⟨rfl, hw9⟩
                      obtain rfl := hw9.symm
                      rw [HK.out.1, HK.out.2.1, HK.out.2.2]
                      go_wp2_with fail
                      refine (l13Dir_is L _ B ka _ H.out.1 hn hkr2).mono ?_
                      rintro e w9 ⟨rfl, hw9⟩
                      obtain rfl := hw9.symm
                      rw [HD.out]
                      go_wp2
                      go_ret
                      rw [HX2.out]
                      exact ⟨rfl, rfl⟩
                    | true =>
                      by_cases hge : ka ≥ a
                      · have HX := HNO.out (by rw [← hq2]; simp [h3, hge])
                        have HX2 : Hid (res = false) := HX
                        have dg : decide (ka ≥ a) = true := decide_eq_true hge
                        clear HX hq2 h3 HON HNO hge
                        go_wp2_with fail
                        refine (l1Parts_is n0 HF.out _).mono ?_
                        rintro e w9 ⟨rfl, hw9⟩
                        obtain rfl := hw9.symm
                        rw [HK.out.1, HK.out.2.1, HK.out.2.2]
                        go_wp2_with fail
                        refine (l13Dir_is L _ B ka _ H.out.1 hn hkr2).mono ?_
                        rintro e w9 ⟨rfl, hw9⟩
                        obtain rfl := hw9.symm
                        rw [HD.out]
                        go_wp2
                        go_ret
                        rw [HX2.out]
                        exact ⟨rfl, rfl⟩
                      · have HX := HON.out (by rw [← hq2]; simp; intro _; omega)
                        have HX2 : Hid (∀ j, j < k + 1 → badE L true true a (L.getD j (0, 0)) = false) := HX
                        have dg : decide (ka ≥ a) = false := decide_eq_false hge
                        clear HX hq2 h3 HON HNO hge
                        go_wp2_with fail
                        refine (l1Parts_is n0 HF.out _).mono ?_
                        rintro e w9 ⟨rfl, hw9⟩
                        obtain rfl := hw9.symm
                        rw [HK.out.1, HK.out.2.1, HK.out.2.2]
                        go_wp2_with fail
                        refine (l13Dir_is L _ B ka _ H.out.1 hn hkr2).mono ?_
                        rintro e w9 ⟨rfl, hw9⟩
                        obtain rfl := hw9.symm
                        rw [HD.out]
                        go_wp2
                        go_roundw
                        case rel => exact ⟨k + 1, by omega, by go_num, HX2, trivial⟩
                        case measure => simp [intOf]; omega
                  · have dn : (n1 != a) = true := bne_iff_ne.2 h3
                    have HX := HON.out (by rw [← hq2, beq_eq_false_iff_ne.2 h3]; simp)
                    have HX2 : Hid (∀ j, j < k + 1 → badE L true true a (L.getD j (0, 0)) = false) := HX
                    clear HX hq2 h3 HON HNO
                    go_wp2_with fail
                    refine (l1Parts_is n0 HF.out _).mono ?_
                    rintro e w9 ⟨rfl, hw9⟩
                    obtain rfl := hw9.symm
                    rw [HK.out.1, HK.out.2.1, HK.out.2.2]
                    go_wp2
                    go_roundw
                    case rel => exact ⟨k + 1, by omega, by go_num, HX2, trivial⟩
                    case measure => simp [intOf]; omega
                · have dk : (kk != 2) = true := bne_iff_ne.2 h2
                  have HX := HON.out (by rw [← hq2, beq_eq_false_iff_ne.2 h2]; simp)
                  have HX2 : Hid (∀ j, j < k + 1 → badE L true true a (L.getD j (0, 0)) = false) := HX
                  clear HX hq2 h2 HON HNO hkr
                  go_wp2_with fail
                  refine (l1Parts_is n0 HF.out _).mono ?_
                  rintro e w9 ⟨rfl, hw9⟩
                  obtain rfl := hw9.symm
                  rw [HK.out.1, HK.out.2.1, HK.out.2.2]
                  go_wp2
                  go_roundw
                  case rel => exact ⟨k + 1, by omega, by go_num, HX2, trivial⟩
                  case measure => simp [intOf]; omega
          · have dd : (c != 0) = true := bne_iff_ne.2 hc0'
            have dc : decide (c > 0) = true := decide_eq_true (by omega)
            have df : ((1000 : Int) == 2000 + c) = false := beq_eq_false_iff_ne.2 (by omega)
            have HQ : Hid (res = false) := by unfold Hid; rw [← hR]; simp [ha0, hc0']
            clear hR hfv ha0 hc0'
            go_enter Tryz.func38, Tryz.ntmps38
            go_wp2_with fail
            refine (ofI_is a H.out.2.2 _).mono ?_
            rintro e w9 ⟨rfl, hw9⟩
            obtain rfl := hw9.symm
            go_wp2_with fail
            refine (l11Value_any L _ B (kI a) _ H.out.1 hn).mono ?_
            rintro e w9 ⟨rfl, hw9⟩
            obtain rfl := hw9.symm
            rw [HV.out.1]
            go_wp2_with fail
            refine (l14Links_is L _ B a _ H.out.1 hn1 H.out.2.1).mono ?_
            rintro e w9 ⟨rfl, hw9⟩
            obtain rfl := hw9.symm
            rw [HV.out.2.1]
            go_wp2
            go_ret
            rw [(HQ.out : res = false)]
            exact ⟨rfl, rfl⟩
        · have da : (a != 0) = true := bne_iff_ne.2 ha0
          have db : (a == 0) = false := beq_eq_false_iff_ne.2 ha0
          by_cases hc1 : c = 1
          · subst hc1
            have df : ((1000 : Int) == 2000 + 1) = false := by decide
            cases s with
            | true =>
              have HQ : Hid (res = false) := by unfold Hid; rw [← hR]; simp
              clear hR hfv ha0
              go_enter Tryz.func38, Tryz.ntmps38
              go_wp2_with fail
              refine (ofI_is a H.out.2.2 _).mono ?_
              rintro e w9 ⟨rfl, hw9⟩
              obtain rfl := hw9.symm
              go_wp2_with fail
              refine (l11Value_any L _ B (kI a) _ H.out.1 hn).mono ?_
              rintro e w9 ⟨rfl, hw9⟩
              obtain rfl := hw9.symm
              rw [HV.out.1]
              go_wp2_with fail
              refine (l14Links_is L _ B a _ H.out.1 hn1 H.out.2.1).mono ?_
              rintro e w9 ⟨rfl, hw9⟩
              obtain rfl := hw9.symm
              rw [HV.out.2.1]
              go_wp2_with fail
              refine (ofB_is a H.out.2.2 _).mono ?_
              rintro e w9 ⟨rfl, hw9⟩
              obtain rfl := hw9.symm
              go_wp2_with fail
              refine (l11Value_any L _ B (kB a) _ H.out.1 hn).mono ?_
              rintro e w9 ⟨rfl, hw9⟩
              obtain rfl := hw9.symm
              rw [HV.out.2.2]
              go_wp2
              go_ret
              rw [(HQ.out : res = false)]
              exact ⟨rfl, rfl⟩
            | false =>
              have HR : Hid (res = L.all (fun e => !(badE L true true a e))) := by unfold Hid; rw [← hR]; simp [ha0]
              clear hR hfv ha0
              go_enter Tryz.func38, Tryz.ntmps38
              go_wp2_with fail
              refine (ofI_is a H.out.2.2 _).mono ?_
              rintro e w9 ⟨rfl, hw9⟩
              obtain rfl := hw9.symm
              go_wp2_with fail
              refine (l11Value_any L _ B (kI a) _ H.out.1 hn).mono ?_
              rintro e w9 ⟨rfl, hw9⟩
              obtain rfl := hw9.symm
              rw [HV.out.1]
              go_wp2_with fail
              refine (l14Links_is L _ B a _ H.out.1 hn1 H.out.2.1).mono ?_
              rintro e w9 ⟨rfl, hw9⟩
              obtain rfl := hw9.symm
              rw [HV.out.2.1]
              go_wp2_with fail
              refine (ofB_is a H.out.2.2 _).mono ?_
              rintro e w9 ⟨rfl, hw9⟩
              obtain rfl := hw9.symm
              go_wp2_with fail
              refine (l11Value_any L _ B (kB a) _ H.out.1 hn).mono ?_
              rintro e w9 ⟨rfl, hw9⟩
              obtain rfl := hw9.symm
              rw [HV.out.2.2]
              go_wp2
              go_loopw [14] (fun i wr => ∃ k : Nat, k ≤ L.length ∧ i = .int .i64 k ∧ Hid (∀ j, j < k → badE L true true a (L.getD j (0, 0)) = false) ∧ wr = w) (fun i _ => L.length - (intOf i).toNat)
              case atStart => exact ⟨0, Nat.zero_le _, rfl, fun j hj => absurd hj (Nat.not_lt_zero j), rfl⟩
              case round =>
                obtain ⟨k, hk, rfl, HS, rfl⟩ := hrel
                by_cases hlt : k < L.length
                case neg =>
                  have HE : Hid (res = true) := HR.out.trans (all_ok fun j hj => HS.out j (by omega))
                  clear HS HR
                  go_wp2
                  go_ret
                  rw [HE.out]
                  exact ⟨rfl, rfl⟩
                obtain ⟨g, o, hao, _, hg, y0, y1⟩ := H.out.1.at2 hlt
                subst hao
                rw [rowL_key] at y0
                rw [rowL_val] at y1
                obtain ⟨n0, N0⟩ : ∃ x, (L.getD k (0, 0)).1 = x := ⟨_, rfl⟩
                rw [N0] at y0
                obtain ⟨n1, N1⟩ : ∃ x, (L.getD k (0, 0)).2 = x := ⟨_, rfl⟩
                rw [N1] at y1
                have HF : Hid (faultOf n0 = 0) := by have := H.out.2.1 k hlt; rwa [N0] at this
                obtain ⟨kk, hkk⟩ : ∃ x, partK n0 = x := ⟨_, rfl⟩
                obtain ⟨ka, hka⟩ : ∃ x, partA n0 = x := ⟨_, rfl⟩
                obtain ⟨kb, hkb⟩ : ∃ x, partB n0 = x := ⟨_, rfl⟩
                have HK : Hid (partK n0 = kk ∧ partA n0 = ka ∧ partB n0 = kb) := ⟨hkk, hka, hkb⟩
                obtain ⟨q, hq⟩ : ∃ q, badE L true true a (L.getD k (0, 0)) = q := ⟨_, rfl⟩
                have HQ : Hid (badE L true true a (L.getD k (0, 0)) = q) := hq
                have hq2 : ((kk == 2) && ((n1 == a) && (!true || (!(dirB L ka) || (true && decide (ka ≥ a)))))) = q := by rw [← hq, ← hkk, ← hka, ← N0, ← N1]; rfl
                have hkr : kk = 2 → 0 ≤ ka ∧ ka ≤ 9 := fun e => by rw [← hka]; exact partA_in (hkk.trans e)
                clear hq N0 N1 hkk hka hkb
                have HON : Hid (q = false → ∀ j, j < k + 1 → badE L true true a (L.getD j (0, 0)) = false) := fun e j hj => by
                  rcases Nat.eq_or_lt_of_le (Nat.lt_succ_iff.1 hj) with rfl | qq
                  · exact HQ.out.trans e
                  · exact HS.out j qq
                have HNO : Hid (q = true → res = false) := fun e => HR.out.trans (all_no hlt (HQ.out.trans e))
                clear HS HR HQ
                by_cases h2 : kk = 2
                · subst h2
                  have hkr2 := hkr rfl
                  clear hkr
                  by_cases h3 : n1 = a
                  · have dn : (n1 != a) = false := by simp [h3]
                    obtain ⟨db, hdb⟩ : ∃ db, dirB L ka = db := ⟨_, rfl⟩
                    have HD : Hid (dirB L ka = db) := hdb
                    rw [hdb] at hq2
                    clear hdb
                    cases db with
                    | false =>
                      have HX := HNO.out (by rw [← hq2]; simp [h3])
                      have HX2 : Hid (res = false) := HX
                      clear HX hq2 h3 HON HNO
                      go_wp2_with fail
                      refine (l1Parts_is n0 HF.out _).mono ?_
                      rintro e w9 ⟨rfl, hw9⟩
                      obtain rfl := hw9.symm
                      rw [HK.out.1, HK.out.2.1, HK.out.2.2]
                      go_wp2_with fail
                      refine (l13Dir_is L _ B ka _ H.out.1 hn hkr2).mono ?_
                      rintro e w9 ⟨rfl, hw9⟩
                      obtain rfl := hw9.symm
                      rw [HD.out]
                      go_wp2
                      go_ret
                      rw [HX2.out]
                      exact ⟨rfl, rfl⟩
                    | true =>
                      by_cases hge : ka ≥ a
                      · have HX := HNO.out (by rw [← hq2]; simp [h3, hge])
                        have HX2 : Hid (res = false) := HX
                        have dg : decide (ka ≥ a) = true := decide_eq_true hge
                        clear HX hq2 h3 HON HNO hge
                        go_wp2_with fail
                        refine (l1Parts_is n0 HF.out _).mono ?_
                        rintro e w9 ⟨rfl, hw9⟩
                        obtain rfl := hw9.symm
                        rw [HK.out.1, HK.out.2.1, HK.out.2.2]
                        go_wp2_with fail
                        refine (l13Dir_is L _ B ka _ H.out.1 hn hkr2).mono ?_
                        rintro e w9 ⟨rfl, hw9⟩
                        obtain rfl := hw9.symm
                        rw [HD.out]
                        go_wp2
                        go_ret
                        rw [HX2.out]
                        exact ⟨rfl, rfl⟩
                      · have HX := HON.out (by rw [← hq2]; simp; intro _; omega)
                        have HX2 : Hid (∀ j, j < k + 1 → badE L true true a (L.getD j (0, 0)) = false) := HX
                        have dg : decide (ka ≥ a) = false := decide_eq_false hge
                        clear HX hq2 h3 HON HNO hge
                        go_wp2_with fail
                        refine (l1Parts_is n0 HF.out _).mono ?_
                        rintro e w9 ⟨rfl, hw9⟩
                        obtain rfl := hw9.symm
                        rw [HK.out.1, HK.out.2.1, HK.out.2.2]
                        go_wp2_with fail
                        refine (l13Dir_is L _ B ka _ H.out.1 hn hkr2).mono ?_
                        rintro e w9 ⟨rfl, hw9⟩
                        obtain rfl := hw9.symm
                        rw [HD.out]
                        go_wp2
                        go_roundw
                        case rel => exact ⟨k + 1, by omega, by go_num, HX2, trivial⟩
                        case measure => simp [intOf]; omega
                  · have dn : (n1 != a) = true := bne_iff_ne.2 h3
                    have HX := HON.out (by rw [← hq2, beq_eq_false_iff_ne.2 h3]; simp)
                    have HX2 : Hid (∀ j, j < k + 1 → badE L true true a (L.getD j (0, 0)) = false) := HX
                    clear HX hq2 h3 HON HNO
                    go_wp2_with fail
                    refine (l1Parts_is n0 HF.out _).mono ?_
                    rintro e w9 ⟨rfl, hw9⟩
                    obtain rfl := hw9.symm
                    rw [HK.out.1, HK.out.2.1, HK.out.2.2]
                    go_wp2
                    go_roundw
                    case rel => exact ⟨k + 1, by omega, by go_num, HX2, trivial⟩
                    case measure => simp [intOf]; omega
                · have dk : (kk != 2) = true := bne_iff_ne.2 h2
                  have HX := HON.out (by rw [← hq2, beq_eq_false_iff_ne.2 h2]; simp)
                  have HX2 : Hid (∀ j, j < k + 1 → badE L true true a (L.getD j (0, 0)) = false) := HX
                  clear HX hq2 h2 HON HNO hkr
                  go_wp2_with fail
                  refine (l1Parts_is n0 HF.out _).mono ?_
                  rintro e w9 ⟨rfl, hw9⟩
                  obtain rfl := hw9.symm
                  rw [HK.out.1, HK.out.2.1, HK.out.2.2]
                  go_wp2
                  go_roundw
                  case rel => exact ⟨k + 1, by omega, by go_num, HX2, trivial⟩
                  case measure => simp [intOf]; omega
          · have dd : (c != 1) = true := bne_iff_ne.2 hc1
            have df : ((1000 : Int) == 2000 + c) = false := beq_eq_false_iff_ne.2 (by omega)
            have HQ : Hid (res = false) := by unfold Hid; rw [← hR]; simp [ha0, hc1]
            clear hR hfv ha0 hc1
            by_cases hcp : c > 0
            · have dc : decide (c > 0) = true := decide_eq_true hcp
              go_enter Tryz.func38, Tryz.ntmps38
              go_wp2_with fail
              refine (ofI_is a H.out.2.2 _).mono ?_
              rintro e w9 ⟨rfl, hw9⟩
              obtain rfl := hw9.symm
              go_wp2_with fail
              refine (l11Value_any L _ B (kI a) _ H.out.1 hn).mono ?_
              rintro e w9 ⟨rfl, hw9⟩
              obtain rfl := hw9.symm
              rw [HV.out.1]
              go_wp2_with fail
              refine (l14Links_is L _ B a _ H.out.1 hn1 H.out.2.1).mono ?_
              rintro e w9 ⟨rfl, hw9⟩
              obtain rfl := hw9.symm
              rw [HV.out.2.1]
              go_wp2
              go_ret
              rw [(HQ.out : res = false)]
              exact ⟨rfl, rfl⟩
            · have dc : decide (c > 0) = false := decide_eq_false hcp
              go_enter Tryz.func38, Tryz.ntmps38
              go_wp2_with fail
              refine (ofI_is a H.out.2.2 _).mono ?_
              rintro e w9 ⟨rfl, hw9⟩
              obtain rfl := hw9.symm
              go_wp2_with fail
              refine (l11Value_any L _ B (kI a) _ H.out.1 hn).mono ?_
              rintro e w9 ⟨rfl, hw9⟩
              obtain rfl := hw9.symm
              rw [HV.out.1]
              go_wp2_with fail
              refine (l14Links_is L _ B a _ H.out.1 hn1 H.out.2.1).mono ?_
              rintro e w9 ⟨rfl, hw9⟩
              obtain rfl := hw9.symm
              rw [HV.out.2.1]
              go_wp2
              go_ret
              rw [(HQ.out : res = false)]
              exact ⟨rfl, rfl⟩
      · have dz : (z == 1000) = false := beq_eq_false_iff_ne.2 hz
        by_cases hcp : c > 0
        · have dc : decide (c > 0) = true := decide_eq_true hcp
          by_cases hzc : z = 2000 + c
          · have df : (z == 2000 + c) = true := beq_iff_eq.2 hzc
            have HR : Hid (res = L.all (fun e => !(badE L true false a e))) := by unfold Hid; rw [← hR]; unfold inodeV dirV fileV; rw [hnx2, dz, dc, df]; simp
            clear hR hz hzc
            cases s with
            | true =>
              go_enter Tryz.func38, Tryz.ntmps38
              go_wp2_with fail
              refine (ofI_is a H.out.2.2 _).mono ?_
              rintro e w9 ⟨rfl, hw9⟩
              obtain rfl := hw9.symm
              go_wp2_with fail
              refine (l11Value_any L _ B (kI a) _ H.out.1 hn).mono ?_
              rintro e w9 ⟨rfl, hw9⟩
              obtain rfl := hw9.symm
              rw [HV.out.1]
              go_wp2_with fail
              refine (l14Links_is L _ B a _ H.out.1 hn1 H.out.2.1).mono ?_
              rintro e w9 ⟨rfl, hw9⟩
              obtain rfl := hw9.symm
              rw [HV.out.2.1]
              go_wp2_with fail
              refine (ofB_is a H.out.2.2 _).mono ?_
              rintro e w9 ⟨rfl, hw9⟩
              obtain rfl := hw9.symm
              go_wp2_with fail
              refine (l11Value_any L _ B (kB a) _ H.out.1 hn).mono ?_
              rintro e w9 ⟨rfl, hw9⟩
              obtain rfl := hw9.symm
              rw [HV.out.2.2]
              go_wp2
              go_loopw [14] (fun i wr => ∃ k : Nat, k ≤ L.length ∧ i = .int .i64 k ∧ Hid (∀ j, j < k → badE L true false a (L.getD j (0, 0)) = false) ∧ wr = w) (fun i _ => L.length - (intOf i).toNat)
              case atStart => exact ⟨0, Nat.zero_le _, rfl, fun j hj => absurd hj (Nat.not_lt_zero j), rfl⟩
              case round =>
                obtain ⟨k, hk, rfl, HS, rfl⟩ := hrel
                by_cases hlt : k < L.length
                case neg =>
                  have HE : Hid (res = true) := HR.out.trans (all_ok fun j hj => HS.out j (by omega))
                  clear HS HR
                  go_wp2
                  go_ret
                  rw [HE.out]
                  exact ⟨rfl, rfl⟩
                obtain ⟨g, o, hao, _, hg, y0, y1⟩ := H.out.1.at2 hlt
                subst hao
                rw [rowL_key] at y0
                rw [rowL_val] at y1
                obtain ⟨n0, N0⟩ : ∃ x, (L.getD k (0, 0)).1 = x := ⟨_, rfl⟩
                rw [N0] at y0
                obtain ⟨n1, N1⟩ : ∃ x, (L.getD k (0, 0)).2 = x := ⟨_, rfl⟩
                rw [N1] at y1
                have HF : Hid (faultOf n0 = 0) := by have := H.out.2.1 k hlt; rwa [N0] at this
                obtain ⟨kk, hkk⟩ : ∃ x, partK n0 = x := ⟨_, rfl⟩
                obtain ⟨ka, hka⟩ : ∃ x, partA n0 = x := ⟨_, rfl⟩
                obtain ⟨kb, hkb⟩ : ∃ x, partB n0 = x := ⟨_, rfl⟩
                have HK : Hid (partK n0 = kk ∧ partA n0 = ka ∧ partB n0 = kb) := ⟨hkk, hka, hkb⟩
                obtain ⟨q, hq⟩ : ∃ q, badE L true false a (L.getD k (0, 0)) = q := ⟨_, rfl⟩
                have HQ : Hid (badE L true false a (L.getD k (0, 0)) = q) := hq
                have hq2 : ((kk == 2) && ((n1 == a) && (!true || (!(dirB L ka) || (false && decide (ka ≥ a)))))) = q := by rw [← hq, ← hkk, ← hka, ← N0, ← N1]; rfl
                have hkr : kk = 2 → 0 ≤ ka ∧ ka ≤ 9 := fun e => by rw [← hka]; exact partA_in (hkk.trans e)
                clear hq N0 N1 hkk hka hkb
                have HON : Hid (q = false → ∀ j, j < k + 1 → badE L true false a (L.getD j (0, 0)) = false) := fun e j hj => by
                  rcases Nat.eq_or_lt_of_le (Nat.lt_succ_iff.1 hj) with rfl | qq
                  · exact HQ.out.trans e
                  · exact HS.out j qq
                have HNO : Hid (q = true → res = false) := fun e => HR.out.trans (all_no hlt (HQ.out.trans e))
                clear HS HR HQ
                by_cases h2 : kk = 2
                · subst h2
                  have hkr2 := hkr rfl
                  clear hkr
                  by_cases h3 : n1 = a
                  · have dn : (n1 != a) = false := by simp [h3]
                    obtain ⟨db, hdb⟩ : ∃ db, dirB L ka = db := ⟨_, rfl⟩
                    have HD : Hid (dirB L ka = db) := hdb
                    rw [hdb] at hq2
                    clear hdb
                    cases db with
                    | false =>
                      have HX := HNO.out (by rw [← hq2]; simp [h3])
                      have HX2 : Hid (res = false) := HX
                      clear HX hq2 h3 HON HNO
                      go_wp2_with fail
                      refine (l1Parts_is n0 HF.out _).mono ?_
                      rintro e w9 ⟨rfl, hw9⟩
                      obtain rfl := hw9.symm
                      rw [HK.out.1, HK.out.2.1, HK.out.2.2]
                      go_wp2_with fail
                      refine (l13Dir_is L _ B ka _ H.out.1 hn hkr2).mono ?_
                      rintro e w9 ⟨rfl, hw9⟩
                      obtain rfl := hw9.symm
                      rw [HD.out]
                      go_wp2
                      go_ret
                      rw [HX2.out]
                      exact ⟨rfl, rfl⟩
                    | true =>
                      have HX := HON.out (by rw [← hq2]; simp)
                      have HX2 : Hid (∀ j, j < k + 1 → badE L true false a (L.getD j (0, 0)) = false) := HX
                      clear HX hq2 h3 HON HNO
                      go_wp2_with fail
                      refine (l1Parts_is n0 HF.out _).mono ?_
                      rintro e w9 ⟨rfl, hw9⟩
                      obtain rfl := hw9.symm
                      rw [HK.out.1, HK.out.2.1, HK.out.2.2]
                      go_wp2_with fail
                      refine (l13Dir_is L _ B ka _ H.out.1 hn hkr2).mono ?_
                      rintro e w9 ⟨rfl, hw9⟩
                      obtain rfl := hw9.symm
                      rw [HD.out]
                      go_wp2
                      go_roundw
                      case rel => exact ⟨k + 1, by omega, by go_num, HX2, trivial⟩
                      case measure => simp [intOf]; omega
                  · have dn : (n1 != a) = true := bne_iff_ne.2 h3
                    have HX := HON.out (by rw [← hq2, beq_eq_false_iff_ne.2 h3]; simp)
                    have HX2 : Hid (∀ j, j < k + 1 → badE L true false a (L.getD j (0, 0)) = false) := HX
                    clear HX hq2 h3 HON HNO
                    go_wp2_with fail
                    refine (l1Parts_is n0 HF.out _).mono ?_
                    rintro e w9 ⟨rfl, hw9⟩
                    obtain rfl := hw9.symm
                    rw [HK.out.1, HK.out.2.1, HK.out.2.2]
                    go_wp2
                    go_roundw
                    case rel => exact ⟨k + 1, by omega, by go_num, HX2, trivial⟩
                    case measure => simp [intOf]; omega
                · have dk : (kk != 2) = true := bne_iff_ne.2 h2
                  have HX := HON.out (by rw [← hq2, beq_eq_false_iff_ne.2 h2]; simp)
                  have HX2 : Hid (∀ j, j < k + 1 → badE L true false a (L.getD j (0, 0)) = false) := HX
                  clear HX hq2 h2 HON HNO hkr
                  go_wp2_with fail
                  refine (l1Parts_is n0 HF.out _).mono ?_
                  rintro e w9 ⟨rfl, hw9⟩
                  obtain rfl := hw9.symm
                  rw [HK.out.1, HK.out.2.1, HK.out.2.2]
                  go_wp2
                  go_roundw
                  case rel => exact ⟨k + 1, by omega, by go_num, HX2, trivial⟩
                  case measure => simp [intOf]; omega
            | false =>
              go_enter Tryz.func38, Tryz.ntmps38
              go_wp2_with fail
              refine (ofI_is a H.out.2.2 _).mono ?_
              rintro e w9 ⟨rfl, hw9⟩
              obtain rfl := hw9.symm
              go_wp2_with fail
              refine (l11Value_any L _ B (kI a) _ H.out.1 hn).mono ?_
              rintro e w9 ⟨rfl, hw9⟩
              obtain rfl := hw9.symm
              rw [HV.out.1]
              go_wp2_with fail
              refine (l14Links_is L _ B a _ H.out.1 hn1 H.out.2.1).mono ?_
              rintro e w9 ⟨rfl, hw9⟩
              obtain rfl := hw9.symm
              rw [HV.out.2.1]
              go_wp2_with fail
              refine (ofB_is a H.out.2.2 _).mono ?_
              rintro e w9 ⟨rfl, hw9⟩
              obtain rfl := hw9.symm
              go_wp2_with fail
              refine (l11Value_any L _ B (kB a) _ H.out.1 hn).mono ?_
              rintro e w9 ⟨rfl, hw9⟩
              obtain rfl := hw9.symm
              rw [HV.out.2.2]
              go_wp2
              go_loopw [14] (fun i wr => ∃ k : Nat, k ≤ L.length ∧ i = .int .i64 k ∧ Hid (∀ j, j < k → badE L true false a (L.getD j (0, 0)) = false) ∧ wr = w) (fun i _ => L.length - (intOf i).toNat)
              case atStart => exact ⟨0, Nat.zero_le _, rfl, fun j hj => absurd hj (Nat.not_lt_zero j), rfl⟩
              case round =>
                obtain ⟨k, hk, rfl, HS, rfl⟩ := hrel
                by_cases hlt : k < L.length
                case neg =>
                  have HE : Hid (res = true) := HR.out.trans (all_ok fun j hj => HS.out j (by omega))
                  clear HS HR
                  go_wp2
                  go_ret
                  rw [HE.out]
                  exact ⟨rfl, rfl⟩
                obtain ⟨g, o, hao, _, hg, y0, y1⟩ := H.out.1.at2 hlt
                subst hao
                rw [rowL_key] at y0
                rw [rowL_val] at y1
                obtain ⟨n0, N0⟩ : ∃ x, (L.getD k (0, 0)).1 = x := ⟨_, rfl⟩
                rw [N0] at y0
                obtain ⟨n1, N1⟩ : ∃ x, (L.getD k (0, 0)).2 = x := ⟨_, rfl⟩
                rw [N1] at y1
                have HF : Hid (faultOf n0 = 0) := by have := H.out.2.1 k hlt; rwa [N0] at this
                obtain ⟨kk, hkk⟩ : ∃ x, partK n0 = x := ⟨_, rfl⟩
                obtain ⟨ka, hka⟩ : ∃ x, partA n0 = x := ⟨_, rfl⟩
                obtain ⟨kb, hkb⟩ : ∃ x, partB n0 = x := ⟨_, rfl⟩
                have HK : Hid (partK n0 = kk ∧ partA n0 = ka ∧ partB n0 = kb) := ⟨hkk, hka, hkb⟩
                obtain ⟨q, hq⟩ : ∃ q, badE L true false a (L.getD k (0, 0)) = q := ⟨_, rfl⟩
                have HQ : Hid (badE L true false a (L.getD k (0, 0)) = q) := hq
                have hq2 : ((kk == 2) && ((n1 == a) && (!true || (!(dirB L ka) || (false && decide (ka ≥ a)))))) = q := by rw [← hq, ← hkk, ← hka, ← N0, ← N1]; rfl
                have hkr : kk = 2 → 0 ≤ ka ∧ ka ≤ 9 := fun e => by rw [← hka]; exact partA_in (hkk.trans e)
                clear hq N0 N1 hkk hka hkb
                have HON : Hid (q = false → ∀ j, j < k + 1 → badE L true false a (L.getD j (0, 0)) = false) := fun e j hj => by
                  rcases Nat.eq_or_lt_of_le (Nat.lt_succ_iff.1 hj) with rfl | qq
                  · exact HQ.out.trans e
                  · exact HS.out j qq
                have HNO : Hid (q = true → res = false) := fun e => HR.out.trans (all_no hlt (HQ.out.trans e))
                clear HS HR HQ
                by_cases h2 : kk = 2
                · subst h2
                  have hkr2 := hkr rfl
                  clear hkr
                  by_cases h3 : n1 = a
                  · have dn : (n1 != a) = false := by simp [h3]
                    obtain ⟨db, hdb⟩ : ∃ db, dirB L ka = db := ⟨_, rfl⟩
                    have HD : Hid (dirB L ka = db) := hdb
                    rw [hdb] at hq2
                    clear hdb
                    cases db with
                    | false =>
                      have HX := HNO.out (by rw [← hq2]; simp [h3])
                      have HX2 : Hid (res = false) := HX
                      clear HX hq2 h3 HON HNO
                      go_wp2_with fail
                      refine (l1Parts_is n0 HF.out _).mono ?_
                      rintro e w9 ⟨rfl, hw9⟩
                      obtain rfl := hw9.symm
                      rw [HK.out.1, HK.out.2.1, HK.out.2.2]
                      go_wp2_with fail
                      refine (l13Dir_is L _ B ka _ H.out.1 hn hkr2).mono ?_
                      rintro e w9 ⟨rfl, hw9⟩
                      obtain rfl := hw9.symm
                      rw [HD.out]
                      go_wp2
                      go_ret
                      rw [HX2.out]
                      exact ⟨rfl, rfl⟩
                    | true =>
                      have HX := HON.out (by rw [← hq2]; simp)
                      have HX2 : Hid (∀ j, j < k + 1 → badE L true false a (L.getD j (0, 0)) = false) := HX
                      clear HX hq2 h3 HON HNO
                      go_wp2_with fail
                      refine (l1Parts_is n0 HF.out _).mono ?_
                      rintro e w9 ⟨rfl, hw9⟩
                      obtain rfl := hw9.symm
                      rw [HK.out.1, HK.out.2.1, HK.out.2.2]
                      go_wp2_with fail
                      refine (l13Dir_is L _ B ka _ H.out.1 hn hkr2).mono ?_
                      rintro e w9 ⟨rfl, hw9⟩
                      obtain rfl := hw9.symm
                      rw [HD.out]
                      go_wp2
                      go_roundw
                      case rel => exact ⟨k + 1, by omega, by go_num, HX2, trivial⟩
                      case measure => simp [intOf]; omega
                  · have dn : (n1 != a) = true := bne_iff_ne.2 h3
                    have HX := HON.out (by rw [← hq2, beq_eq_false_iff_ne.2 h3]; simp)
                    have HX2 : Hid (∀ j, j < k + 1 → badE L true false a (L.getD j (0, 0)) = false) := HX
                    clear HX hq2 h3 HON HNO
                    go_wp2_with fail
                    refine (l1Parts_is n0 HF.out _).mono ?_
                    rintro e w9 ⟨rfl, hw9⟩
                    obtain rfl := hw9.symm
                    rw [HK.out.1, HK.out.2.1, HK.out.2.2]
                    go_wp2
                    go_roundw
                    case rel => exact ⟨k + 1, by omega, by go_num, HX2, trivial⟩
                    case measure => simp [intOf]; omega
                · have dk : (kk != 2) = true := bne_iff_ne.2 h2
                  have HX := HON.out (by rw [← hq2, beq_eq_false_iff_ne.2 h2]; simp)
                  have HX2 : Hid (∀ j, j < k + 1 → badE L true false a (L.getD j (0, 0)) = false) := HX
                  clear HX hq2 h2 HON HNO hkr
                  go_wp2_with fail
                  refine (l1Parts_is n0 HF.out _).mono ?_
                  rintro e w9 ⟨rfl, hw9⟩
                  obtain rfl := hw9.symm
                  rw [HK.out.1, HK.out.2.1, HK.out.2.2]
                  go_wp2
                  go_roundw
                  case rel => exact ⟨k + 1, by omega, by go_num, HX2, trivial⟩
                  case measure => simp [intOf]; omega
          · have df : (z == 2000 + c) = false := beq_eq_false_iff_ne.2 hzc
            have HQ : Hid (res = false) := by unfold Hid; rw [← hR]; unfold inodeV dirV fileV; rw [hnx2, dz, dc, df]; simp
            clear hR hz hzc
            go_enter Tryz.func38, Tryz.ntmps38
            go_wp2_with fail
            refine (ofI_is a H.out.2.2 _).mono ?_
            rintro e w9 ⟨rfl, hw9⟩
            obtain rfl := hw9.symm
            go_wp2_with fail
            refine (l11Value_any L _ B (kI a) _ H.out.1 hn).mono ?_
            rintro e w9 ⟨rfl, hw9⟩
            obtain rfl := hw9.symm
            rw [HV.out.1]
            go_wp2_with fail
            refine (l14Links_is L _ B a _ H.out.1 hn1 H.out.2.1).mono ?_
            rintro e w9 ⟨rfl, hw9⟩
            obtain rfl := hw9.symm
            rw [HV.out.2.1]
            go_wp2
            go_ret
            rw [(HQ.out : res = false)]
            exact ⟨rfl, rfl⟩
        · have dc : decide (c > 0) = false := decide_eq_false hcp
          have HQ : Hid (res = false) := by unfold Hid; rw [← hR]; unfold inodeV dirV fileV; rw [hnx2, dz, dc]; simp
          clear hR hz
          go_enter Tryz.func38, Tryz.ntmps38
          go_wp2_with fail
          refine (ofI_is a H.out.2.2 _).mono ?_
          rintro e w9 ⟨rfl, hw9⟩
          obtain rfl := hw9.symm
          go_wp2_with fail
          refine (l11Value_any L _ B (kI a) _ H.out.1 hn).mono ?_
          rintro e w9 ⟨rfl, hw9⟩
          obtain rfl := hw9.symm
          rw [HV.out.1]
          go_wp2_with fail
          refine (l14Links_is L _ B a _ H.out.1 hn1 H.out.2.1).mono ?_
          rintro e w9 ⟨rfl, hw9⟩
          obtain rfl := hw9.symm
          rw [HV.out.2.1]
          go_wp2
          go_ret
          rw [(HQ.out : res = false)]
          exact ⟨rfl, rfl⟩
end Go.Proofs.YtbpppaolcgibnaaGreatDoor

namespace Go.Proofs.YtbpppaolcgibnaaGreatDoor
open Go.RowKit

/-- An entry of no inode. -/
def noInode (e : Int × Int) : Bool := (partK e.1 == 2) && !(decide (0 ≤ e.2 ∧ e.2 ≤ 9))
/-- Does all of it hang together? -/
def wholeB (L : Prs) : Bool := (lookF L 0).1 && (decide (1 ≤ (lookF L 0).2 ∧ (lookF L 0).2 ≤ 10) && (dirB L 0 && ((List.range 10).all (fun a => inodeB L (lookF L 0).2 (a : Nat)) && L.all (fun e => !(noInode e)))))
def fsF (n : Nat) (F : Nat → Int) : Int := if pairsF F n 0 ≠ 0 then pairsF F n 0 else if wholeB (listOf F n) = true then 0 else 1
theorem fsF_bad {n : Nat} {F : Nat → Int} (h : pairsF F n 0 ≠ 0) : fsF n F = pairsF F n 0 := by unfold fsF; rw [if_pos h]
theorem fsF_no {n : Nat} {F : Nat → Int} (h : pairsF F n 0 = 0) (h2 : wholeB (listOf F n) = false) : fsF n F = 1 := by unfold fsF; rw [if_neg (fun q => q h), if_neg (by rw [h2]; simp)]
theorem fsF_ok {n : Nat} {F : Nat → Int} (h : pairsF F n 0 = 0) (h2 : wholeB (listOf F n) = true) : fsF n F = 0 := by unfold fsF; rw [if_neg (fun q => q h), if_pos h2]
theorem fsF_zero {n : Nat} {F : Nat → Int} (h : fsF n F = 0) : pairsF F n 0 = 0 ∧ wholeB (listOf F n) = true := by
  unfold fsF at h
  by_cases h1 : pairsF F n 0 = 0
  · rw [if_neg (fun q => q h1)] at h
    by_cases h2 : wholeB (listOf F n) = true
    · exact ⟨h1, h2⟩
    · rw [if_neg h2] at h; cases h
  · rw [if_pos h1] at h; exact absurd h h1
theorem range_no {p : Nat → Bool} {k : Nat} (hk : k < 10) (h : p k = false) : (List.range 10).all p = false := by
  rw [List.all_eq_false]
  exact ⟨k, List.mem_range.2 hk, by rw [h]; simp⟩
theorem range_ok {p : Nat → Bool} (h : ∀ j, j < 10 → p j = true) : (List.range 10).all p = true := by
  rw [List.all_eq_true]
  exact fun j hj => h j (List.mem_range.1 hj)
set_option maxRecDepth 100000 in
set_option maxHeartbeats 4000000 in
theorem specFs_is (y : Value) (B n : Nat) (F : Nat → Int) (w : World) (h : Row w B 2 n F y) (hn : n ≤ 1048576) :
    Calls Tryz.prog 13 #[y] w fun e w' => e = .returned (.int .i64 (fsF n F)) ∧ Below w.heap.size w w' := by
  obtain ⟨ao, cp, rfl⟩ := h.form
  have H : Hid (Row w B 2 n F (.slice ao n cp)) := h
  clear h
  obtain ⟨res, hres⟩ : ∃ res, fsF n F = res := ⟨_, rfl⟩
  have HR : Hid (fsF n F = res) := hres
  rw [hres]
  clear hres
  by_cases h1 : pairsF F n 0 = 0
  case neg =>
    obtain ⟨f, hf⟩ : ∃ f, pairsF F n 0 = f := ⟨_, rfl⟩
    have HF : Hid (pairsF F n 0 = f ∧ True) := ⟨hf, trivial⟩
    have dd : (f != 0) = true := bne_iff_ne.2 (by rw [← hf]; exact h1)
    have HQ : Hid (res = f) := HR.out.symm.trans ((fsF_bad h1).trans hf)
    clear h1 hf HR
    go_enter Tryz.func13, Tryz.ntmps13
    go_wp2_with fail
    refine (specPairs_any _ B n F _ H.out hn).mono ?_
    rintro e w1 ⟨rfl, q1⟩
    rw [HF.out.1]
    have HB : Hid (Below w.heap.size w w1) := q1
    clear q1
    go_wp2
    go_ret
    rw [HQ.out]
    exact ⟨rfl, HB.out⟩
  have HF : Hid (pairsF F n 0 = 0 ∧ True) := ⟨h1, trivial⟩
  obtain ⟨t, ht⟩ : ∃ t, lookF (listOf F n) 0 = t := ⟨_, rfl⟩
  obtain ⟨h0, nx⟩ := t
  have HL : Hid (lookF (listOf F n) 0 = (h0, nx)) := ht
  obtain ⟨wb, hwb⟩ : ∃ wb, wholeB (listOf F n) = wb := ⟨_, rfl⟩
  have hW : (h0 && (decide (1 ≤ nx ∧ nx ≤ 10) && (dirB (listOf F n) 0 && ((List.range 10).all (fun a => inodeB (listOf F n) nx (a : Nat)) && (listOf F n).all (fun e => !(noInode e)))))) = wb := by rw [← hwb]; unfold wholeB; rw [ht]
  have hNO : wb = false → res = 1 := fun e => HR.out.symm.trans (fsF_no h1 (hwb.trans e))
  have hOK : wb = true → res = 0 := fun e => HR.out.symm.trans (fsF_ok h1 (hwb.trans e))
  have hn2 : n ≤ 200 := (pairs_rise h1).2
  have HKO : Hid (KeysOk (listOf F n)) := pairs_keys h1
  clear h1 ht hwb HR
  cases h0 with
  | false =>
    have HQ : Hid (res = 1) := hNO (by rw [← hW]; rfl)
    clear hW hNO hOK
    go_enter Tryz.func13, Tryz.ntmps13
    go_wp2_with fail
    refine (specPairs_any _ B n F _ H.out hn).mono ?_
    rintro e w1 ⟨rfl, q1⟩
    rw [HF.out.1]
    have HB : Hid (Below w.heap.size w w1) := q1
    clear q1
    go_wp2_with fail
    refine (l11Value_any (listOf F n) _ B 0 _ (row_list (H.out.later HB.out)) (by rw [listOf_length]; exact hn)).mono ?_
    rintro e w9 ⟨rfl, hw9⟩
    obtain rfl := hw9.symm
    rw [HL.out]
    go_wp2
    go_ret
    rw [HQ.out]
    exact ⟨rfl, HB.out⟩
  | true =>
  by_cases hnx : 1 ≤ nx ∧ nx ≤ 10
  case neg =>
    have D1 : Hid (decide (1 ≤ nx ∧ nx ≤ 10) = false) := decide_eq_false hnx
    have HQ : Hid (res = 1) := hNO (by rw [← hW, decide_eq_false hnx]; rfl)
    clear hW hNO hOK hnx
    go_enter Tryz.func13, Tryz.ntmps13
    go_wp2_with fail
    refine (specPairs_any _ B n F _ H.out hn).mono ?_
    rintro e w1 ⟨rfl, q1⟩
    rw [HF.out.1]
    have HB : Hid (Below w.heap.size w w1) := q1
    clear q1
    go_wp2_with fail
    refine (l11Value_any (listOf F n) _ B 0 _ (row_list (H.out.later HB.out)) (by rw [listOf_length]; exact hn)).mono ?_
    rintro e w9 ⟨rfl, hw9⟩
    obtain rfl := hw9.symm
    rw [HL.out]
    go_wp2_with fail
    refine (l1In_is nx 1 10 _ D1.out _).mono ?_
    rintro e w9 ⟨rfl, hw9⟩
    obtain rfl := hw9.symm
    go_wp2
    go_ret
    rw [HQ.out]
    exact ⟨rfl, HB.out⟩
  have D1 : Hid (decide (1 ≤ nx ∧ nx ≤ 10) = true) := decide_eq_true hnx
  rw [decide_eq_true hnx] at hW
  clear hnx
  obtain ⟨d0, hd0⟩ : ∃ d0, dirB (listOf F n) 0 = d0 := ⟨_, rfl⟩
  have HD : Hid (dirB (listOf F n) 0 = d0) := hd0
  rw [hd0] at hW
  clear hd0
  cases d0 with
  | false =>
    have HQ : Hid (res = 1) := hNO (by rw [← hW]; rfl)
    clear hW hNO hOK
    go_enter Tryz.func13, Tryz.ntmps13
    go_wp2_with fail
    refine (specPairs_any _ B n F _ H.out hn).mono ?_
    rintro e w1 ⟨rfl, q1⟩
    rw [HF.out.1]
    have HB : Hid (Below w.heap.size w w1) := q1
    clear q1
    go_wp2_with fail
    refine (l11Value_any (listOf F n) _ B 0 _ (row_list (H.out.later HB.out)) (by rw [listOf_length]; exact hn)).mono ?_
    rintro e w9 ⟨rfl, hw9⟩
    obtain rfl := hw9.symm
    rw [HL.out]
    go_wp2_with fail
    refine (l1In_is nx 1 10 _ D1.out _).mono ?_
    rintro e w9 ⟨rfl, hw9⟩
    obtain rfl := hw9.symm
    go_wp2_with fail
    refine (l13Dir_is (listOf F n) _ B 0 _ (row_list (H.out.later HB.out)) (by rw [listOf_length]; exact hn) (by omega)).mono ?_
    rintro e w9 ⟨rfl, hw9⟩
    obtain rfl := hw9.symm
    rw [HD.out]
    go_wp2
    go_ret
    rw [HQ.out]
    exact ⟨rfl, HB.out⟩
  | true =>
    have HN1 : Hid (∀ k : Nat, k < 10 → inodeB (listOf F n) nx k = false → res = 1) := fun k hk e => hNO (by rw [← hW, range_no hk e]; rfl)
    have HN2 : Hid (∀ j, j < n → noInode ((listOf F n).getD j (0, 0)) = true → res = 1) := fun j hj e => hNO (by rw [← hW, all_no (by rw [listOf_length]; exact hj) e]; simp)
    have HOK : Hid ((∀ k : Nat, k < 10 → inodeB (listOf F n) nx k = true) → (∀ j, j < n → noInode ((listOf F n).getD j (0, 0)) = false) → res = 0) := fun e e2 => hOK (by rw [← hW, range_ok e, all_ok (fun j hj => e2 j (by rwa [listOf_length] at hj))]; rfl)
    clear hW hNO hOK
    go_enter Tryz.func13, Tryz.ntmps13
    go_wp2_with fail
    refine (specPairs_any _ B n F _ H.out hn).mono ?_
    rintro e w1 ⟨rfl, q1⟩
    rw [HF.out.1]
    have HB : Hid (Below w.heap.size w w1) := q1
    clear q1
    go_wp2_with fail
    refine (l11Value_any (listOf F n) _ B 0 _ (row_list (H.out.later HB.out)) (by rw [listOf_length]; exact hn)).mono ?_
    rintro e w9 ⟨rfl, hw9⟩
    obtain rfl := hw9.symm
    rw [HL.out]
    go_wp2_with fail
    refine (l1In_is nx 1 10 _ D1.out _).mono ?_
    rintro e w9 ⟨rfl, hw9⟩
    obtain rfl := hw9.symm
    go_wp2_with fail
    refine (l13Dir_is (listOf F n) _ B 0 _ (row_list (H.out.later HB.out)) (by rw [listOf_length]; exact hn) (by omega)).mono ?_
    rintro e w9 ⟨rfl, hw9⟩
    obtain rfl := hw9.symm
    rw [HD.out]
    have HRW : Hid (Row w1 B 2 n F (.slice ao n cp)) := H.out.later HB.out
    go_wp2
    go_loopw [6] (fun i wr => ∃ k : Nat, k ≤ 10 ∧ i = .int .i64 k ∧ Hid (∀ j : Nat, j < k → inodeB (listOf F n) nx j = true) ∧ wr = w1) (fun i _ => 10 - (intOf i).toNat)
    case atStart => exact ⟨0, Nat.zero_le _, rfl, fun j hj => absurd hj (Nat.not_lt_zero j), rfl⟩
    case round =>
      obtain ⟨k, hk, rfl, HS, rfl⟩ := hrel
      by_cases hlt : k < 10
      · have dk : decide ((k : Int) ≤ 9) = true := decide_eq_true (by omega)
        obtain ⟨q, hq⟩ : ∃ q, inodeB (listOf F n) nx k = q := ⟨_, rfl⟩
        have HI : Hid (inodeB (listOf F n) nx k = q) := hq
        clear hq
        go_wp2_with fail
        refine (l14Inode_is (listOf F n) _ B k nx _ (row_list HRW.out) (by rw [listOf_length]; omega) HKO.out (by omega)).mono ?_
        rintro e w9 ⟨rfl, hw9⟩
        obtain rfl := hw9.symm
        rw [HI.out]
        cases q with
        | false =>
          have HQ : Hid (res = 1) := HN1.out k hlt HI.out
          go_wp2
          go_ret
          rw [HQ.out]
          exact ⟨rfl, HB.out⟩
        | true =>
          have HS2 : Hid (∀ j : Nat, j < k + 1 → inodeB (listOf F n) nx j = true) := fun j hj => by
            rcases Nat.eq_or_lt_of_le (Nat.lt_succ_iff.1 hj) with rfl | qq
            · exact HI.out
            · exact HS.out j qq
          go_wp2
          go_roundw
          case rel => exact ⟨k + 1, by omega, by go_num, HS2, trivial⟩
          case measure => simp [intOf]; omega
      · have dk : decide ((k : Int) ≤ 9) = false := decide_eq_false (by omega)
        have HALL : Hid (∀ j : Nat, j < 10 → inodeB (listOf F n) nx j = true) := fun j hj => HS.out j (by omega)
        clear HS HN1 HD HL D1 HKO
        go_wp2
        go_loopw [7] (fun i wx => ∃ k : Nat, k ≤ n ∧ i = .int .i64 k ∧ Hid (∀ j, j < k → noInode ((listOf F n).getD j (0, 0)) = false) ∧ wx = wr) (fun i _ => n - (intOf i).toNat)
        case atStart => exact ⟨0, Nat.zero_le _, rfl, fun j hj => absurd hj (Nat.not_lt_zero j), rfl⟩
        case round =>
          obtain ⟨k2, hk2, rfl, HS, rfl⟩ := hrel
          by_cases hlt2 : k2 < n
          case neg =>
            have HQ : Hid (res = 0) := HOK.out HALL.out fun j hj => HS.out j (by omega)
            clear HS HOK HALL HN2
            go_wp2
            go_ret
            rw [HQ.out]
            exact ⟨rfl, HB.out⟩
          obtain ⟨g, o, hao, _, hg, y0, y1⟩ := HRW.out.at2 hlt2
          subst hao
          have hgl := listOf_get (F := F) hlt2
          obtain ⟨n0, N0⟩ : ∃ x, F (k2 * 2) = x := ⟨_, rfl⟩
          rw [N0] at y0 hgl
          obtain ⟨n1, N1⟩ : ∃ x, F (k2 * 2 + 1) = x := ⟨_, rfl⟩
          rw [N1] at y1 hgl
          have HFk : Hid (faultOf n0 = 0) := by
            have := pairsF_all HF.out.1 k2 hlt2
            rw [Nat.zero_add] at this
            rw [← N0]
            exact (pairF_zero this).1
          obtain ⟨kk, hkk⟩ : ∃ x, partK n0 = x := ⟨_, rfl⟩
          have HK : Hid (partK n0 = kk) := hkk
          have HON : Hid (noInode (n0, n1) = false → ∀ j, j < k2 + 1 → noInode ((listOf F n).getD j (0, 0)) = false) := fun e j hj => by
            rcases Nat.eq_or_lt_of_le (Nat.lt_succ_iff.1 hj) with rfl | qq
            · rw [hgl]; exact e
            · exact HS.out j qq
          have HNO : Hid (noInode (n0, n1) = true → res = 1) := fun e => HN2.out k2 hlt2 (by rw [hgl]; exact e)
          clear N0 N1 hkk hgl HS
          by_cases h2 : kk = 2
          · subst h2
            by_cases h3 : 0 ≤ n1 ∧ n1 ≤ 9
            · have D2 : Hid (decide (0 ≤ n1 ∧ n1 ≤ 9) = true) := decide_eq_true h3
              have HX : Hid (∀ j, j < k2 + 1 → noInode ((listOf F n).getD j (0, 0)) = false) := HON.out (by unfold noInode; rw [decide_eq_true h3]; simp)
              clear h3 HON HNO
              go_wp2_with fail
              refine (l1Parts_is n0 HFk.out _).mono ?_
              rintro e w9 ⟨rfl, hw9⟩
              obtain rfl := hw9.symm
              rw [HK.out]
              go_wp2_with fail
              refine (inodeS_is _ _ D2.out _).mono ?_
              rintro e w9 ⟨rfl, hw9⟩
              obtain rfl := hw9.symm
              go_wp2
              go_roundw
              case rel => exact ⟨k2 + 1, by omega, by go_num, HX, trivial⟩
              case measure => simp [intOf]; omega
            · have D2 : Hid (decide (0 ≤ n1 ∧ n1 ≤ 9) = false) := decide_eq_false h3
              have HQ : Hid (res = 1) := HNO.out (by unfold noInode; rw [decide_eq_false h3, HK.out]; rfl)
              clear h3 HON HNO
              go_wp2_with fail
              refine (l1Parts_is n0 HFk.out _).mono ?_
              rintro e w9 ⟨rfl, hw9⟩
              obtain rfl := hw9.symm
              rw [HK.out]
              go_wp2_with fail
              refine (inodeS_is _ _ D2.out _).mono ?_
              rintro e w9 ⟨rfl, hw9⟩
              obtain rfl := hw9.symm
              go_wp2
              go_ret
              rw [HQ.out]
              exact ⟨rfl, HB.out⟩
          · have dk2 : (kk == 2) = false := beq_eq_false_iff_ne.2 h2
            have HX : Hid (∀ j, j < k2 + 1 → noInode ((listOf F n).getD j (0, 0)) = false) := HON.out (by unfold noInode; rw [HK.out, beq_eq_false_iff_ne.2 h2]; rfl)
            clear h2 HON HNO
            go_wp2_with fail
            refine (l1Parts_is n0 HFk.out _).mono ?_
            rintro e w9 ⟨rfl, hw9⟩
            obtain rfl := hw9.symm
            rw [HK.out]
            go_wp2
            go_roundw
            case rel => exact ⟨k2 + 1, by omega, by go_num, HX, trivial⟩
            case measure => simp [intOf]; omega
end Go.Proofs.YtbpppaolcgibnaaGreatDoor

namespace Go.Proofs.YtbpppaolcgibnaaGreatDoor
open Go.RowKit

theorem any_no {L : Prs} {p : Int × Int → Bool} (h : ∀ j, j < L.length → p (L.getD j (0, 0)) = false) : L.any p = false := by
  rw [List.any_eq_false]
  intro e he
  obtain ⟨i, hi, rfl⟩ := List.getElem_of_mem he
  have := h i hi
  rw [List.getD_eq_getElem?_getD, List.getElem?_eq_getElem hi] at this
  simpa using this
theorem any_yes {L : Prs} {p : Int × Int → Bool} {j : Nat} (hj : j < L.length) (h : p (L.getD j (0, 0)) = true) : L.any p = true := by
  rw [List.any_eq_true]
  refine ⟨L[j], List.getElem_mem hj, ?_⟩
  rw [List.getD_eq_getElem?_getD, List.getElem?_eq_getElem hj] at h
  simpa using h
theorem nodup_len : ∀ (N : Nat) (xs : List Int), xs.Nodup → (∀ k ∈ xs, 0 ≤ k ∧ k < (N : Int)) → xs.length ≤ N
  | 0, xs, _, h => by
    cases xs with
    | nil => exact Nat.le_refl _
    | cons a t => have := h a (by simp); omega
  | N + 1, xs, hd, h => by
    have h1 : (xs.erase (N : Int)).length ≤ N := nodup_len N _ (hd.erase _) fun k hk => by
      have hne : k ≠ (N : Int) := fun e => by
        rw [e] at hk
        exact (List.Nodup.not_mem_erase hd) hk
      have := h k (List.mem_of_mem_erase hk)
      omega
    have h2 : xs.length ≤ (xs.erase (N : Int)).length + 1 := by rw [List.length_erase]; split <;> omega
    omega
/-- What was read: each key once, and keys alone. -/
def ReadsOk (xs : List Int) : Prop := xs.Nodup ∧ ∀ k ∈ xs, 0 ≤ k ∧ k < ((200 : Nat) : Int)
theorem ReadsOk.nil : ReadsOk [] := ⟨List.nodup_nil, fun k hk => by cases hk⟩
theorem ReadsOk.len {xs : List Int} (h : ReadsOk xs) : xs.length ≤ 200 := nodup_len 200 xs h.1 h.2
theorem ReadsOk.add {xs : List Int} (h : ReadsOk xs) {k : Int} (hk : 0 ≤ k ∧ k ≤ 199) : ReadsOk (addR xs k) := by
  unfold addR
  split
  · exact h
  · rename_i hn
    refine ⟨?_, fun x hx => ?_⟩
    · rw [List.nodup_append]
      refine ⟨h.1, by simp, fun a ha b hb e => ?_⟩
      rw [List.mem_singleton] at hb
      exact hn (by rw [← hb, ← e]; exact ha)
    · rcases List.mem_append.1 hx with q | q
      · exact h.2 x q
      · rw [List.mem_singleton] at q; rw [q]; omega
theorem Off.later {w w' : World} {b mb : Nat} {vr : Value} {k : Nat} (h : Off w b mb vr k) (hs : w.heap.size ≤ w'.heap.size) : Off w' b mb vr k := ⟨Nat.lt_of_lt_of_le h.1 hs, h.2⟩
/-- A list of entries that a looking does not write into. -/
def Lst (w : World) (b mb : Nat) (vz : Value) (K : Prs) (lv : Value) : Prop := Own w 0 109 2 K.length (rowL K) lv ∧ ∀ k, lv.ownBlock = some k → Off w b mb vz k
theorem Lst.later {w w' : World} {b mb : Nat} {vz : Value} {K : Prs} {lv : Value} (h : Lst w b mb vz K lv) (hb : Below w.heap.size w w') : Lst w' b mb vz K lv := ⟨h.1.later hb, fun k hk => (h.2 k hk).later hb.size⟩
theorem Lst.keeps {w w' : World} {b mb : Nat} {vz vy : Value} {K : Prs} {lv : Value} (h : Lst w b mb vz K lv) (hk : Keeps w w' b mb vz vy) : Lst w' b mb vy K lv :=
  ⟨Own.keptT h.1 (fun k hq => (hk.off (h.2 k hq)).2), fun k hq => (hk.off (h.2 k hq)).1⟩
theorem Lst.row {w : World} {b mb : Nat} {vz : Value} {K : Prs} {lv : Value} (h : Lst w b mb vz K lv) : Row w 0 2 K.length (rowL K) lv := (Own.row h.1).1
/-- A view under way: how it is looked at, and its entries. -/
def Hung (w : World) (b rb mb : Nat) (L : Prs) (zs : List Int) (vz lv : Value) : Prop := (Looks w b rb mb L zs vz ∧ ReadsOk zs) ∧ Lst w b mb vz (lnkL L) lv
theorem Hung.later {w w' : World} {b rb mb : Nat} {L : Prs} {zs : List Int} {vz lv : Value} (h : Hung w b rb mb L zs vz lv) (hb : Below w.heap.size w w') : Hung w' b rb mb L zs vz lv := ⟨⟨h.1.1.later hb, h.1.2⟩, h.2.later hb⟩
theorem Hung.new {w : World} {b rb mb : Nat} {L : Prs} {lv : Value} (hl : Looks w b rb mb L [] (.slice none 0 0)) (ho : OwnM w (b + 1) 109 2 lv (lnkL L).length (flatL (lnkL L))) : Hung w b rb mb L [] (.slice none 0 0) lv := by
  have h1 := hl.2.2.2.2
  refine ⟨⟨hl, ReadsOk.nil⟩, (own_eqP (ho.own (flatL_length _)) fun p _ => flatL_get _ p).mono (Nat.zero_le _), fun k hk => ?_⟩
  have := OwnM.block ho k hk
  exact ⟨this.2, by omega, by omega, fun e => by cases e⟩
/-- A list that a call made is none that the looking writes into. -/
theorem Hung.lst {w w' : World} {b rb mb : Nat} {L K : Prs} {zs : List Int} {vz lv mv : Value} (h : Hung w b rb mb L zs vz lv) (ho : OwnM w' w.heap.size 109 2 mv K.length (flatL K)) : Lst w' b mb vz K mv := by
  have h1 := h.1.1.1.lt
  have h2 := h.1.1.2.2.2.2.2
  refine ⟨(own_eqP (ho.own (flatL_length _)) fun p _ => flatL_get _ p).mono (Nat.zero_le _), fun k hk => ?_⟩
  have := OwnM.block ho k hk
  exact ⟨this.2, by omega, by omega, fun e => by have := (h.1.1.2.2.2.1.lt k e).2; omega⟩
/-- The box of a view: it is kept. -/
def Box (w : World) (b mb : Nat) (vz : Value) (hb : Nat) (lv : Value) : Prop := Blk2 w hb (.pointer (some ⟨b, 0, none⟩)) lv ∧ Off w b mb vz hb
theorem Box.later {w w' : World} {b mb hb : Nat} {vz lv : Value} (h : Box w b mb vz hb lv) (hq : Below w.heap.size w w') : Box w' b mb vz hb lv := ⟨h.1.later hq, h.2.later hq.size⟩
theorem Box.keeps {w w' : World} {b mb hb : Nat} {vz vy lv : Value} (h : Box w b mb vz hb lv) (hk : Keeps w w' b mb vz vy) : Box w' b mb vy hb lv := ⟨h.1.kept (hk.off h.2).2, (hk.off h.2).1⟩
theorem Hung.box {w : World} {b rb mb : Nat} {L : Prs} {zs : List Int} {vz lv : Value} (h : Hung w b rb mb L zs vz lv) : Box (w.alloc (.cells #[.pointer (some ⟨b, 0, none⟩), lv] 53)) b mb vz w.heap.size lv := ⟨Blk2.new _ _ _ _, h.1.1.off _⟩
/-- All that stands while a view is asked. -/
def HgS (X0 X : World) (b rb mb hb : Nat) (L : Prs) (vz0 : Value) (zs : List Int) (vz lv : Value) : Prop := Hung X b rb mb L zs vz lv ∧ Box X b mb vz hb lv ∧ Keeps X0 X b mb vz0 vz
theorem HgS.later {X0 X X' : World} {b rb mb hb : Nat} {L : Prs} {vz0 vz lv : Value} {zs : List Int} (h : HgS X0 X b rb mb hb L vz0 zs vz lv) (hq : Below X.heap.size X X') : HgS X0 X' b rb mb hb L vz0 zs vz lv := ⟨h.1.later hq, h.2.1.later hq, h.2.2.trans (Keeps.below _ _ _ hq)⟩
theorem HgS.keeps {X0 X X' : World} {b rb mb hb : Nat} {L : Prs} {vz0 vz vy lv : Value} {zs ys : List Int} (h : HgS X0 X b rb mb hb L vz0 zs vz lv) (hg : Hung X' b rb mb L ys vy lv) (hk : Keeps X X' b mb vz vy) : HgS X0 X' b rb mb hb L vz0 ys vy lv := ⟨hg, h.2.1.keeps hk, h.2.2.trans hk⟩
def LookRes (w : World) (b rb mb : Nat) (L : Prs) (vz lv v : Value) (e : Ending) (w' : World) : Prop := e = .returned v ∧ ∃ ys vy, Hung w' b rb mb L ys vy lv ∧ Keeps w w' b mb vz vy
theorem look_h (L : Prs) (b rb mb : Nat) (zs : List Int) (vz lv : Value) (key : Int) (w : World) (h : Hung w b rb mb L zs vz lv) (hrs : Rises L) (hn : L.length ≤ 800) (hk : 0 ≤ key ∧ key ≤ 199) :
    Calls Tryz.prog 51 #[.pointer (some ⟨b, 0, none⟩), .int .i64 key] w (LookRes w b rb mb L vz lv (.agg #[.bool (lookF L key).1, .int .i64 (lookF L key).2])) := by
  refine (look_is L b rb mb zs vz key w h.1.1 hrs (by omega) hk (by have := h.1.2.len; omega)).mono ?_
  rintro e w' ⟨rfl, vy, hl, hkp⟩
  exact ⟨rfl, _, vy, ⟨⟨hl, h.1.2.add hk⟩, h.2.keeps hkp⟩, hkp⟩
theorem isDir_h (L : Prs) (b rb mb : Nat) (zs : List Int) (vz lv : Value) (a : Int) (w : World) (h : Hung w b rb mb L zs vz lv) (hrs : Rises L) (hn : L.length ≤ 800) (ha : 0 ≤ a ∧ a ≤ 9) :
    Calls Tryz.prog 58 #[.pointer (some ⟨b, 0, none⟩), .int .i64 a] w (LookRes w b rb mb L vz lv (.bool (dirB L a))) := by
  refine (isDir_is L b rb mb zs vz a w h.1.1 hrs (by omega) ha (by have := h.1.2.len; omega)).mono ?_
  rintro e w' ⟨rfl, vy, hl, hkp⟩
  exact ⟨rfl, _, vy, ⟨⟨hl, h.1.2.add (by unfold kI; omega)⟩, h.2.keeps hkp⟩, hkp⟩
/-- Of an entry: is it of no inode? -/
theorem whole1_is (d i : Int) (w : World) :
    Calls Tryz.prog 61 #[.agg #[.int .i64 d, .int .i64 i]] w fun e w' => e = .returned (.bool (!(decide (0 ≤ i ∧ i ≤ 9)))) ∧ Below w.heap.size w w' := by
  have HB : Hid (Below w.heap.size w (w.alloc (.cells #[.int .i64 d, .int .i64 i] 109))) := below_alloc _ _
  obtain ⟨r, hr⟩ : ∃ r, decide (0 ≤ i ∧ i ≤ 9) = r := ⟨_, rfl⟩
  have HR : Hid (decide (0 ≤ i ∧ i ≤ 9) = r) := hr
  rw [hr]
  clear hr
  go_enter Tryz.func61, Tryz.ntmps61
  go_wp2_with fail
  refine (isInodeT_is i r HR.out _).mono ?_
  rintro e w9 ⟨rfl, hw9⟩
  obtain rfl := hw9.symm
  go_wp2
  go_ret
  exact ⟨rfl, HB.out⟩
set_option maxRecDepth 100000 in
set_option maxHeartbeats 1000000 in
theorem indexW_is (K : Prs) (v : Value) (B : Nat) (r : Bool) (hr : (K.any fun l => !(decide (0 ≤ l.2 ∧ l.2 ≤ 9))) = r) (w : World) (h : Row w B 2 K.length (rowL K) v) (hn : K.length ≤ 1000) :
    Calls Tryz.prog 83 #[v, .func (.func 61) #[] #[]] w fun e w' => ∃ z : Int, e = .returned (.int .i64 z) ∧ decide (z ≥ 0) = r ∧ Below w.heap.size w w' := by
  obtain ⟨ao, cp, rfl⟩ := h.form
  have H : Hid (Row w B 2 K.length (rowL K) (.slice ao K.length cp)) := h
  have HR : Hid ((K.any fun l => !(decide (0 ≤ l.2 ∧ l.2 ≤ 9))) = r) := hr
  clear h hr
  go_enter Tryz.func83, Tryz.ntmps83
  go_wp2
  go_loopw [8] (fun i wr => ∃ k : Nat, k ≤ K.length ∧ i = .int .i64 k ∧ Hid (∀ j, j < k → (!(decide (0 ≤ (K.getD j (0, 0)).2 ∧ (K.getD j (0, 0)).2 ≤ 9))) = false) ∧ Hid (Below w.heap.size w wr)) (fun i _ => K.length - (intOf i).toNat)
  case atStart => exact ⟨0, Nat.zero_le _, rfl, fun j hj => absurd hj (Nat.not_lt_zero j), Below.refl _ _⟩
  case round =>
    obtain ⟨k, hk, rfl, HS, HB⟩ := hrel
    by_cases hlt : k < K.length
    case neg =>
      have E : Hid (r = false) := HR.out.symm.trans (any_no fun j hj => HS.out j (by omega))
      clear HS HR
      go_wp2
      go_ret
      exact ⟨-1, rfl, by rw [E.out]; rfl, HB.out⟩
    obtain ⟨g, o, rfl, _, hg, y0, y1⟩ := (H.out.later HB.out).at2 hlt
    rw [rowL_key] at y0
    rw [rowL_val] at y1
    obtain ⟨n0, N0⟩ : ∃ x, (K.getD k (0, 0)).1 = x := ⟨_, rfl⟩
    rw [N0] at y0
    obtain ⟨n1, N1⟩ : ∃ x, (K.getD k (0, 0)).2 = x := ⟨_, rfl⟩
    rw [N1] at y1
    obtain ⟨q, hq⟩ : ∃ q, (!(decide (0 ≤ n1 ∧ n1 ≤ 9))) = q := ⟨_, rfl⟩
    have HQ : Hid ((!(decide (0 ≤ n1 ∧ n1 ≤ 9))) = q) := hq
    have HN : Hid ((K.getD k (0, 0)).2 = n1) := N1
    clear N0 N1 hq
    go_wp2_with fail
    refine (whole1_is n0 n1 _).mono ?_
    rintro e w1 ⟨rfl, q1⟩
    have HB1 : Hid (Below w.heap.size w w1) := HB.out.trans (q1.mono HB.out.size)
    clear q1 y0 y1
    rw [HQ.out]
    cases q with
    | true =>
      have E : Hid (r = true) := HR.out.symm.trans (any_yes hlt (by rw [HN.out]; exact HQ.out))
      clear HR HS
      go_wp2
      go_ret
      exact ⟨k, rfl, by rw [E.out]; exact decide_eq_true (by omega), HB1.out⟩
    | false =>
      have HS2 : Hid (∀ j, j < k + 1 → (!(decide (0 ≤ (K.getD j (0, 0)).2 ∧ (K.getD j (0, 0)).2 ≤ 9))) = false) := fun j hj => by
        rcases Nat.eq_or_lt_of_le (Nat.lt_succ_iff.1 hj) with rfl | qq
        · rw [HN.out]; exact HQ.out
        · exact HS.out j qq
      clear HS
      go_wp2
      go_roundw
      case rel => exact ⟨k + 1, by omega, by go_num, HS2, HB1⟩
      case measure => simp [intOf]; omega
set_option maxHeartbeats 1000000 in
theorem containsW_is (K : Prs) (v : Value) (B : Nat) (r : Bool) (hr : (K.any fun l => !(decide (0 ≤ l.2 ∧ l.2 ≤ 9))) = r) (w : World) (h : Row w B 2 K.length (rowL K) v) (hn : K.length ≤ 1000) :
    Calls Tryz.prog 60 #[v, .func (.func 61) #[] #[]] w fun e w' => e = .returned (.bool r) ∧ Below w.heap.size w w' := by
  obtain ⟨ao, cp, rfl⟩ := h.form
  have H : Hid (Row w B 2 K.length (rowL K) (.slice ao K.length cp)) := h
  have HR : Hid ((K.any fun l => !(decide (0 ≤ l.2 ∧ l.2 ≤ 9))) = r) := hr
  clear h hr
  go_enter Tryz.func60, Tryz.ntmps60
  go_wp2_with fail
  refine (indexW_is K _ B r HR.out _ H.out hn).mono ?_
  rintro e w1 ⟨z, rfl, hz, q1⟩
  have HZ : Hid (decide (z ≥ 0) = r) := hz
  have Q : Hid (Below w.heap.size w w1) := q1
  clear q1 hz
  go_wp2
  go_ret
  exact ⟨by rw [← HZ.out]; first | rfl | (congr 3), Q.out⟩
set_option maxHeartbeats 1000000 in
theorem fileH1_is (L : Prs) (b rb mb hb : Nat) (vz0 : Value) (zs : List Int) (vz lv : Value) (d i : Int) (X0 w : World) (h : HgS X0 w b rb mb hb L vz0 zs vz lv) (hrs : Rises L) (hn : L.length ≤ 800) (hd : 0 ≤ d ∧ d ≤ 9) :
    Calls Tryz.prog 97 #[.agg #[.int .i64 d, .int .i64 i], .pointer (some ⟨hb, 0, none⟩)] w fun e w' => e = .returned (.bool (!(dirB L d))) ∧ ∃ ys vy, HgS X0 w' b rb mb hb L vz0 ys vy lv ∧ Keeps w w' b mb vz vy := by
  have HA : Hid (HgS X0 (w.alloc (.cells #[.int .i64 d, .int .i64 i] 109)) b rb mb hb L vz0 zs vz lv) := h.later (below_alloc _ _)
  have hlt : hb < w.heap.size := h.2.1.2.1
  obtain ⟨⟨x0, x1⟩, z0, z1⟩ := h.2.1.1
  clear h
  go_enter Tryz.func97, Tryz.ntmps97
  go_wp2_with fail
  refine (isDir_h L b rb mb zs vz lv d _ HA.out.1 hrs hn hd).mono ?_
  rintro e w1 ⟨rfl, ys, vy, hg, hk⟩
  have H1 : Hid (HgS X0 w1 b rb mb hb L vz0 ys vy lv ∧ Keeps w w1 b mb vz vy) := ⟨HA.out.keeps hg hk, (Keeps.below b mb vz (below_alloc w _)).trans hk⟩
  clear hg hk HA x0 x1 z0 z1
  go_wp2
  go_ret
  exact ⟨rfl, ys, vy, H1.out⟩
end Go.Proofs.YtbpppaolcgibnaaGreatDoor

namespace Go.Proofs.YtbpppaolcgibnaaGreatDoor
open Go.RowKit

/-- Of a list of entries: those that lie in what is no directory. -/
def anyH (L M : Prs) : Bool := M.any fun l => !(dirB L l.1)
set_option maxRecDepth 100000 in
set_option maxHeartbeats 1000000 in
theorem indexH_is (L M : Prs) (b rb mb hb : Nat) (vz0 : Value) (zs : List Int) (vz lv mv : Value) (r : Bool) (hr : anyH L M = r) (X0 w : World) (h : HgS X0 w b rb mb hb L vz0 zs vz lv) (hm : Lst w b mb vz M mv) (hrs : Rises L) (hn : L.length ≤ 800) (hM : M.length ≤ 1000 ∧ ∀ j, j < M.length → 0 ≤ (M.getD j (0, 0)).1 ∧ (M.getD j (0, 0)).1 ≤ 9) :
    Calls Tryz.prog 83 #[mv, .func (.func 97) #[] #[.pointer (some ⟨hb, 0, none⟩)]] w fun e w' => ∃ z : Int, e = .returned (.int .i64 z) ∧ decide (z ≥ 0) = r ∧ ∃ ys vy, HgS X0 w' b rb mb hb L vz0 ys vy lv ∧ Lst w' b mb vy M mv := by
  obtain ⟨ao, cp, rfl⟩ := hm.row.form
  have HR : Hid (anyH L M = r ∧ Rises L ∧ ∀ j, j < M.length → 0 ≤ (M.getD j (0, 0)).1 ∧ (M.getD j (0, 0)).1 ≤ 9) := ⟨hr, hrs, hM.2⟩
  have hn2 := hM.1
  have H0 : Hid (HgS X0 w b rb mb hb L vz0 zs vz lv ∧ Lst w b mb vz M (.slice ao M.length cp)) := ⟨h, hm⟩
  clear h hr hm hrs hM
  go_enter Tryz.func83, Tryz.ntmps83
  go_wp2
  go_loopw [8] (fun i wr => ∃ k : Nat, k ≤ M.length ∧ i = .int .i64 k ∧ Hid (∀ j, j < k → (!(dirB L (M.getD j (0, 0)).1)) = false) ∧ ∃ ys vy, Hid (HgS X0 wr b rb mb hb L vz0 ys vy lv ∧ Lst wr b mb vy M (.slice ao M.length cp))) (fun i _ => M.length - (intOf i).toNat)
  case atStart => exact ⟨0, Nat.zero_le _, rfl, fun j hj => absurd hj (Nat.not_lt_zero j), zs, vz, H0.out⟩
  case round =>
    obtain ⟨k, hk, rfl, HS, ys, vy, HB⟩ := hrel
    by_cases hlt : k < M.length
    case neg =>
      have E : Hid (r = false) := HR.out.1.symm.trans (any_no fun j hj => HS.out j (by omega))
      clear HS HR
      go_wp2
      go_ret
      exact ⟨-1, rfl, by rw [E.out]; rfl, ys, vy, HB.out⟩
    obtain ⟨g, o, rfl, _, hg, y0, y1⟩ := (HB.out.2.row).at2 hlt
    rw [rowL_key] at y0
    rw [rowL_val] at y1
    obtain ⟨n0, N0⟩ : ∃ x, (M.getD k (0, 0)).1 = x := ⟨_, rfl⟩
    rw [N0] at y0
    obtain ⟨n1, N1⟩ : ∃ x, (M.getD k (0, 0)).2 = x := ⟨_, rfl⟩
    rw [N1] at y1
    have hk9 := HR.out.2.2 k hlt
    rw [N0] at hk9
    obtain ⟨q, hq⟩ : ∃ q, (!(dirB L n0)) = q := ⟨_, rfl⟩
    have HQ : Hid ((!(dirB L n0)) = q) := hq
    have HN : Hid ((M.getD k (0, 0)).1 = n0) := N0
    clear N0 N1 hq
    go_wp2_with fail
    refine (fileH1_is L b rb mb hb vz0 ys vy lv n0 n1 X0 _ HB.out.1 HR.out.2.1 hn hk9).mono ?_
    rintro e w1 ⟨rfl, ys1, vy1, hg1, hk1⟩
    have HB1 : Hid (HgS X0 w1 b rb mb hb L vz0 ys1 vy1 lv ∧ Lst w1 b mb vy1 M (.slice (some ⟨g, o, none⟩) M.length cp)) := ⟨hg1, HB.out.2.keeps hk1⟩
    clear hg1 hk1 y0 y1 HB
    rw [HQ.out]
    cases q with
    | true =>
      have E : Hid (r = true) := HR.out.1.symm.trans (any_yes hlt (by rw [HN.out]; exact HQ.out))
      clear HR HS
      go_wp2
      go_ret
      exact ⟨k, rfl, by rw [E.out]; exact decide_eq_true (by omega), ys1, vy1, HB1.out⟩
    | false =>
      have HS2 : Hid (∀ j, j < k + 1 → (!(dirB L (M.getD j (0, 0)).1)) = false) := fun j hj => by
        rcases Nat.eq_or_lt_of_le (Nat.lt_succ_iff.1 hj) with rfl | qq
        · rw [HN.out]; exact HQ.out
        · exact HS.out j qq
      clear HS
      go_wp2
      go_roundw
      case rel => exact ⟨k + 1, by omega, by go_num, HS2, ys1, vy1, HB1⟩
      case measure => simp [intOf]; omega
set_option maxHeartbeats 1000000 in
theorem containsH_is (L M : Prs) (b rb mb hb : Nat) (vz0 : Value) (zs : List Int) (vz lv mv : Value) (r : Bool) (hr : anyH L M = r) (X0 w : World) (h : HgS X0 w b rb mb hb L vz0 zs vz lv) (hm : Lst w b mb vz M mv) (hrs : Rises L) (hn : L.length ≤ 800) (hM : M.length ≤ 1000 ∧ ∀ j, j < M.length → 0 ≤ (M.getD j (0, 0)).1 ∧ (M.getD j (0, 0)).1 ≤ 9) :
    Calls Tryz.prog 60 #[mv, .func (.func 97) #[] #[.pointer (some ⟨hb, 0, none⟩)]] w fun e w' => e = .returned (.bool r) ∧ ∃ ys vy, HgS X0 w' b rb mb hb L vz0 ys vy lv ∧ Lst w' b mb vy M mv := by
  obtain ⟨ao, cp, rfl⟩ := hm.row.form
  have H0 : Hid (HgS X0 w b rb mb hb L vz0 zs vz lv ∧ Lst w b mb vz M (.slice ao M.length cp) ∧ anyH L M = r ∧ Rises L ∧ (M.length ≤ 1000 ∧ ∀ j, j < M.length → 0 ≤ (M.getD j (0, 0)).1 ∧ (M.getD j (0, 0)).1 ≤ 9)) := ⟨h, hm, hr, hrs, hM⟩
  clear h hr hm hrs hM
  go_enter Tryz.func60, Tryz.ntmps60
  go_wp2_with fail
  refine (indexH_is L M b rb mb hb vz0 zs vz lv _ r H0.out.2.2.1 X0 _ H0.out.1 H0.out.2.1 H0.out.2.2.2.1 hn H0.out.2.2.2.2).mono ?_
  rintro e w1 ⟨z, rfl, hz, ys, vy, q1⟩
  have HZ : Hid (decide (z ≥ 0) = r) := hz
  have Q : Hid (HgS X0 w1 b rb mb hb L vz0 ys vy lv ∧ Lst w1 b mb vy M (.slice ao M.length cp)) := q1
  clear q1 hz
  go_wp2
  go_ret
  exact ⟨by rw [← HZ.out]; first | rfl | (congr 3), ys, vy, Q.out⟩
/-- Does a file hang as it must? -/
def fileR (L M : Prs) (z : Int) : Bool := !(((M.length : Nat) : Int) == 0) && ((z == 2000 + ((M.length : Nat) : Int)) && !(anyH L M))
set_option maxRecDepth 100000 in
set_option maxHeartbeats 2000000 in
theorem fileHangs_is (L M : Prs) (b rb mb : Nat) (zs : List Int) (vz lv mv : Value) (z : Int) (w : World) (h : Hung w b rb mb L zs vz lv) (hm : Lst w b mb vz M mv) (hrs : Rises L) (hn : L.length ≤ 800) (hz : 0 ≤ z ∧ z ≤ 9999) (hM : M.length ≤ 1000 ∧ ∀ j, j < M.length → 0 ≤ (M.getD j (0, 0)).1 ∧ (M.getD j (0, 0)).1 ≤ 9) :
    Calls Tryz.prog 82 #[.agg #[.pointer (some ⟨b, 0, none⟩), lv], .int .i64 z, mv] w (LookRes w b rb mb L vz lv (.bool (fileR L M z))) := by
  obtain ⟨ao, cp, rfl⟩ := hm.row.form
  obtain ⟨lo, lc, rfl⟩ := h.2.row.form
  have HA : Hid (HgS (w.alloc (.cells #[.pointer (some ⟨b, 0, none⟩), .slice lo (lnkL L).length lc] 53)) (w.alloc (.cells #[.pointer (some ⟨b, 0, none⟩), .slice lo (lnkL L).length lc] 53)) b rb mb w.heap.size L vz zs vz (.slice lo (lnkL L).length lc) ∧ Lst (w.alloc (.cells #[.pointer (some ⟨b, 0, none⟩), .slice lo (lnkL L).length lc] 53)) b mb vz M (.slice ao M.length cp)) := ⟨⟨h.later (below_alloc _ _), h.box, Keeps.below _ _ _ (Below.refl _ _)⟩, hm.later (below_alloc _ _)⟩
  obtain ⟨c, hc⟩ : ∃ c : Nat, M.length = c := ⟨_, rfl⟩
  have hc2 : c ≤ 1000 := by rw [← hc]; exact hM.1
  have HM : Hid (Rises L ∧ (M.length ≤ 1000 ∧ ∀ j, j < M.length → 0 ≤ (M.getD j (0, 0)).1 ∧ (M.getD j (0, 0)).1 ≤ 9)) := ⟨hrs, hM⟩
  have HC : Hid (M.length = c) := hc
  obtain ⟨res, hres⟩ : ∃ res, fileR L M z = res := ⟨_, rfl⟩
  have hR : (!((c : Int) == 0) && ((z == 2000 + (c : Int)) && !(anyH L M))) = res := by rw [← hres, ← hc]; rfl
  have HQ0 : Hid (fileR L M z = res) := hres
  rw [hres]
  rw [hc] at HA ⊢
  clear h hm hrs hM hc hres
  by_cases h0 : c = 0
  · subst h0
    have HQ : Hid (res = false) := by unfold Hid; rw [← hR]; rfl
    clear hR
    go_enter Tryz.func82, Tryz.ntmps82
    go_wp2_with fail
    refine (countLinks_is ao _ cp (by omega) _).mono ?_
    rintro e w9 ⟨rfl, hw9⟩
    obtain rfl := hw9.symm
    go_wp2
    go_ret
    exact ⟨by rw [HQ.out]; rfl, _, _, HA.out.1.1, (Keeps.below b mb vz (below_alloc w _)).trans HA.out.1.2.2⟩
  have d0 : ((c : Int) == 0) = false := beq_eq_false_iff_ne.2 (by omega)
  by_cases h1 : z = 2000 + (c : Int)
  · have d1 : (z != 2000 + (c : Int)) = false := by simp [h1]
    obtain ⟨q, hq⟩ : ∃ q, anyH L M = q := ⟨_, rfl⟩
    have HQ : Hid (res = !q) := by unfold Hid; rw [← hR, d0, hq, beq_iff_eq.2 h1]; rfl
    have HQ1 : Hid (anyH L M = q) := hq
    clear hR hq h1 h0
    go_enter Tryz.func82, Tryz.ntmps82
    go_wp2_with fail
    refine (countLinks_is ao _ cp (by omega) _).mono ?_
    rintro e w9 ⟨rfl, hw9⟩
    obtain rfl := hw9.symm
    go_wp2_with fail
    have HA2 := HA.out.2
    rw [← HC.out] at HA2 ⊢
    refine (containsH_is L M b rb mb w.heap.size vz zs vz _ _ q HQ1.out _ _ HA.out.1 HA2 HM.out.1 hn HM.out.2).mono ?_
    rintro e w1 ⟨rfl, ys, vy, hg, _⟩
    have HB : Hid (HgS (w.alloc (.cells #[.pointer (some ⟨b, 0, none⟩), .slice lo (lnkL L).length lc] 53)) w1 b rb mb w.heap.size L vz ys vy (.slice lo (lnkL L).length lc)) := hg
    clear hg HA HA2
    go_wp2
    go_ret
    exact ⟨by rw [HQ.out]; rfl, ys, vy, HB.out.1, (Keeps.below b mb vz (below_alloc w _)).trans HB.out.2.2⟩
  · have d1 : (z != 2000 + (c : Int)) = true := bne_iff_ne.2 h1
    have HQ : Hid (res = false) := by unfold Hid; rw [← hR, d0, beq_eq_false_iff_ne.2 h1]; rfl
    clear hR h1 h0
    go_enter Tryz.func82, Tryz.ntmps82
    go_wp2_with fail
    refine (countLinks_is ao _ cp (by omega) _).mono ?_
    rintro e w9 ⟨rfl, hw9⟩
    obtain rfl := hw9.symm
    go_wp2
    go_ret
    exact ⟨by rw [HQ.out]; rfl, _, _, HA.out.1.1, (Keeps.below b mb vz (below_alloc w _)).trans HA.out.1.2.2⟩
end Go.Proofs.YtbpppaolcgibnaaGreatDoor

namespace Go.Proofs.YtbpppaolcgibnaaGreatDoor
open Go.RowKit

/-- Does a directory hang as it must? -/
def dirR (L M : Prs) (a : Int) : Bool := if a = 0 then M.length == 0 else (M.length == 1 && (decide ((M.getD 0 (0, 0)).1 < a) && dirB L (M.getD 0 (0, 0)).1))
theorem below_drewT (X : World) : Below X.heap.size X X.drew := ⟨rfl, rfl, rfl, Nat.le_refl _, fun _ _ => rfl⟩
set_option maxRecDepth 100000 in
set_option maxHeartbeats 2000000 in
theorem dirHangs_is (L M : Prs) (b rb mb : Nat) (zs : List Int) (vz lv mv : Value) (a : Int) (w : World) (h : Hung w b rb mb L zs vz lv) (hm : Lst w b mb vz M mv) (hrs : Rises L) (hn : L.length ≤ 800) (hM : M.length ≤ 1000 ∧ ∀ j, j < M.length → 0 ≤ (M.getD j (0, 0)).1 ∧ (M.getD j (0, 0)).1 ≤ 9) :
    Calls Tryz.prog 81 #[.agg #[.pointer (some ⟨b, 0, none⟩), lv], .int .i64 a, mv] w (LookRes w b rb mb L vz lv (.bool (dirR L M a))) := by
  obtain ⟨ao, cp, rfl⟩ := hm.row.form
  obtain ⟨lo, lc, rfl⟩ := h.2.row.form
  have HA : Hid (HgS (w.alloc (.cells #[.pointer (some ⟨b, 0, none⟩), .slice lo (lnkL L).length lc] 53)) (w.alloc (.cells #[.pointer (some ⟨b, 0, none⟩), .slice lo (lnkL L).length lc] 53)) b rb mb w.heap.size L vz zs vz (.slice lo (lnkL L).length lc) ∧ Lst (w.alloc (.cells #[.pointer (some ⟨b, 0, none⟩), .slice lo (lnkL L).length lc] 53)) b mb vz M (.slice ao M.length cp)) := ⟨⟨h.later (below_alloc _ _), h.box, Keeps.below _ _ _ (Below.refl _ _)⟩, hm.later (below_alloc _ _)⟩
  have HM : Hid (Rises L ∧ (M.length ≤ 1000 ∧ ∀ j, j < M.length → 0 ≤ (M.getD j (0, 0)).1 ∧ (M.getD j (0, 0)).1 ≤ 9)) := ⟨hrs, hM⟩
  obtain ⟨c, hc⟩ : ∃ c : Nat, M.length = c := ⟨_, rfl⟩
  have hc2 : c ≤ 1000 := by rw [← hc]; exact hM.1
  have HC : Hid (M.length = c) := hc
  obtain ⟨res, hres⟩ : ∃ res, dirR L M a = res := ⟨_, rfl⟩
  have hR : (if a = 0 then c == 0 else (c == 1 && (decide ((M.getD 0 (0, 0)).1 < a) && dirB L (M.getD 0 (0, 0)).1))) = res := by rw [← hres, ← hc]; rfl
  rw [hres]
  rw [hc] at HA ⊢
  clear h hm hrs hM hc hres
  by_cases ha : a = 0
  · subst ha
    obtain ⟨q, hq⟩ : ∃ q, ((c : Int) == 0) = q := ⟨_, rfl⟩
    have HQ : Hid (res = q) := by
      unfold Hid
      rw [← hR, if_pos rfl, ← hq]
      by_cases h : c = 0
      · subst h; rfl
      · rw [beq_eq_false_iff_ne.2 h, beq_eq_false_iff_ne.2 (show (c : Int) ≠ 0 by omega)]
    clear hR
    go_enter Tryz.func81, Tryz.ntmps81
    go_wp2_with fail
    refine (countLinks_is ao _ cp (by omega) _).mono ?_
    rintro e w9 ⟨rfl, hw9⟩
    obtain rfl := hw9.symm
    go_wp2
    go_ret
    exact ⟨by rw [HQ.out]; rfl, _, _, HA.out.1.1, (Keeps.below b mb vz (below_alloc w _)).trans HA.out.1.2.2⟩
  have da : (a == 0) = false := beq_eq_false_iff_ne.2 ha
  rw [if_neg ha] at hR
  by_cases h1 : c = 1
  case neg =>
    have d1 : ((c : Int) == 1) = false := beq_eq_false_iff_ne.2 (by omega)
    have HQ : Hid (res = false) := by unfold Hid; rw [← hR, beq_eq_false_iff_ne.2 h1]; rfl
    clear hR h1 ha
    go_enter Tryz.func81, Tryz.ntmps81
    go_wp2_with fail
    go_quiet (first | (go_at_call 26; refine Calls.quiet_of_same (countLinks_is ao _ cp (by omega) _)))
    have HA2 : Hid (HgS (w.alloc (.cells #[.pointer (some ⟨b, 0, none⟩), .slice lo (lnkL L).length lc] 53)) ((w.alloc (.cells #[.pointer (some ⟨b, 0, none⟩), .slice lo (lnkL L).length lc] 53)).drewN nq) b rb mb w.heap.size L vz zs vz (.slice lo (lnkL L).length lc)) := HA.out.1.later ⟨rfl, rfl, rfl, Nat.le_refl _, fun _ _ => rfl⟩
    clear HA
    go_wp2
    go_ret
    exact ⟨by rw [HQ.out]; rfl, _, _, HA2.out.1, (Keeps.below b mb vz (below_alloc w _)).trans HA2.out.2.2⟩
  subst h1
  have hrow := HA.out.2.row
  rw [HC.out] at hrow
  obtain ⟨g, o, rfl, _, hg, y0, y1⟩ := hrow.at2 Nat.zero_lt_one
  clear hrow
  rw [rowL_key] at y0
  clear y1
  obtain ⟨n0, N0⟩ : ∃ x, (M.getD 0 (0, 0)).1 = x := ⟨_, rfl⟩
  rw [N0] at y0 hR
  have hk9 := HM.out.2.2 0 (by rw [HC.out]; exact Nat.zero_lt_one)
  rw [N0] at hk9
  obtain ⟨⟨x0, x1⟩, z0, z1⟩ := HA.out.1.2.1.1
  have y0' : (w.alloc (.cells #[.pointer (some ⟨b, 0, none⟩), .slice lo (lnkL L).length lc] 53)).cell? ⟨g, o, none⟩ = some (.int .i64 n0) := by simpa using y0
  clear y0
  by_cases h2 : n0 < a
  case neg =>
    have d2 : decide (n0 < a) = false := decide_eq_false h2
    have HQ : Hid (res = false) := by unfold Hid; rw [← hR, decide_eq_false h2]; rfl
    clear hR h2 ha N0
    go_enter Tryz.func81, Tryz.ntmps81
    go_wp2_with fail
    go_quiet (first | (go_at_call 26; refine Calls.quiet_of_same (countLinks_is (some ⟨g, o, none⟩) 1 cp (by omega) _)))
    have HA2 : Hid (HgS (w.alloc (.cells #[.pointer (some ⟨b, 0, none⟩), .slice lo (lnkL L).length lc] 53)) ((w.alloc (.cells #[.pointer (some ⟨b, 0, none⟩), .slice lo (lnkL L).length lc] 53)).drewN nq) b rb mb w.heap.size L vz zs vz (.slice lo (lnkL L).length lc)) := HA.out.1.later ⟨rfl, rfl, rfl, Nat.le_refl _, fun _ _ => rfl⟩
    clear HA x0 x1 z0 z1 y0'
    go_wp2
    go_ret
    exact ⟨by rw [HQ.out]; rfl, _, _, HA2.out.1, (Keeps.below b mb vz (below_alloc w _)).trans HA2.out.2.2⟩
  have d2 : decide (n0 < a) = true := decide_eq_true h2
  obtain ⟨q, hq⟩ : ∃ q, dirB L n0 = q := ⟨_, rfl⟩
  have HD : Hid (dirB L n0 = q) := hq
  have HQ : Hid (res = q) := by unfold Hid; rw [← hR, decide_eq_true h2, hq]; rfl
  clear hR h2 ha N0 hq
  go_enter Tryz.func81, Tryz.ntmps81
  go_upto_region 3 with fail
  have HKw : Hid (Keeps w (w.alloc (.cells #[.pointer (some ⟨b, 0, none⟩), .slice lo (lnkL L).length lc] 53)) b mb vz vz) := Keeps.below b mb vz (below_alloc w _)
  generalize w.alloc (.cells #[.pointer (some ⟨b, 0, none⟩), .slice lo (lnkL L).length lc] 53) = X0 at HA HKw x0 x1 z0 z1 y0' hg ⊢
  refine wp_region_held_drew (S := fun X => X.cell? ⟨w.heap.size, 0, none⟩ = some (.pointer (some ⟨b, 0, none⟩)) ∧ X.cell? ⟨g, o, none⟩ = some (.int .i64 n0)) (by kernel_rfl) ⟨x0, y0'⟩ (fun hS => ?_)
  refine tkH 0 ?_ hS (fun wx hx => ?_) ?_; rotate_left
  · obtain ⟨hx0, hx1⟩ := hx; go_simp; try with_reducible rfl
  refine rdH 1 (fun K hK => ?_)
  go_simp
  go_wp2_with fail
  refine (countLinks_is (some ⟨g, o, none⟩) 1 cp (by omega) _).mono ?_
  rintro e w9 ⟨rfl, hw9⟩
  obtain rfl := hw9.symm
  go_wp2_with fail
  refine hK.out _ _ hS (fun hS => ?_)
  clear hK K
  refine tkH 2 ?_ hS (fun wx hx => ?_) ?_; rotate_left
  · obtain ⟨hx0, hx1⟩ := hx; go_simp; try with_reducible rfl
  refine tkH 3 ?_ hS (fun wx hx => ?_) ?_; rotate_left
  · obtain ⟨hx0, hx1⟩ := hx; go_simp; try with_reducible rfl
  refine tkH 4 ?_ hS (fun wx hx => ?_) ?_; rotate_left
  · obtain ⟨hx0, hx1⟩ := hx; go_simp; try with_reducible rfl
  refine tkH 5 ?_ hS (fun wx hx => ?_) ?_; rotate_left
  · obtain ⟨hx0, hx1⟩ := hx; go_simp; try with_reducible rfl
  refine tkH 6 ?_ hS (fun wx hx => ?_) ?_; rotate_left
  · obtain ⟨hx0, hx1⟩ := hx; go_simp; try with_reducible rfl
  refine tkH 7 ?_ hS (fun wx hx => ?_) ?_; rotate_left
  · obtain ⟨hx0, hx1⟩ := hx; go_simp; try with_reducible rfl
  refine tkH 8 ?_ hS (fun wx hx => ?_) ?_; rotate_left
  · obtain ⟨hx0, hx1⟩ := hx; go_simp; try with_reducible rfl
  refine tkH 9 ?_ hS (fun wx hx => ?_) ?_; rotate_left
  · obtain ⟨hx0, hx1⟩ := hx; go_simp; try with_reducible rfl
  refine tkH 10 ?_ hS (fun wx hx => ?_) ?_; rotate_left
  · obtain ⟨hx0, hx1⟩ := hx; go_simp; try with_reducible rfl
  refine tkH 11 ?_ hS (fun wx hx => ?_) ?_; rotate_left
  · obtain ⟨hx0, hx1⟩ := hx; go_simp; try with_reducible rfl
  refine tkH 12 ?_ hS (fun wx hx => ?_) ?_; rotate_left
  · obtain ⟨hx0, hx1⟩ := hx; go_simp; try with_reducible rfl
  refine tkH 13 ?_ hS (fun wx hx => ?_) ?_; rotate_left
  · obtain ⟨hx0, hx1⟩ := hx; go_simp; try with_reducible rfl
  refine tkH 14 ?_ hS (fun wx hx => ?_) ?_; rotate_left
  · obtain ⟨hx0, hx1⟩ := hx; go_simp; try with_reducible rfl
  refine tkH 15 ?_ hS (fun wx hx => ?_) ?_; rotate_left
  · obtain ⟨hx0, hx1⟩ := hx; go_simp; try with_reducible rfl
  refine tkH 16 ?_ hS (fun wx hx => ?_) ?_; rotate_left
  · obtain ⟨hx0, hx1⟩ := hx; go_simp; try with_reducible rfl
  refine tkH 17 ?_ hS (fun wx hx => ?_) ?_; rotate_left
  · obtain ⟨hx0, hx1⟩ := hx; go_simp; try with_reducible rfl
  try simp only [Act.put, List.getElem_toArray, List.getElem_cons_zero, List.getElem_cons_succ, List.setIfInBounds_toArray, List.set_cons_succ, List.set_cons_zero]
  refine rdH 18 (fun K hK => ?_)
  go_simp
  go_wp2_with fail
  refine (isDir_h L b rb mb zs vz _ n0 _ (HA.out.1.1.later (below_drewT _)) HM.out.1 hn hk9).mono ?_
  rintro e w1 ⟨rfl, ys, vy, hg1, hk1⟩
  rw [HD.out]
  have HB : Hid (HgS X0 w1 b rb mb w.heap.size L vz ys vy (.slice lo (lnkL L).length lc)) := (HA.out.1.later (below_drewT _)).keeps hg1 hk1
  have HL1 := (HA.out.2.later (below_drewT _)).keeps hk1
  have S1 : w1.cell? ⟨w.heap.size, 0, none⟩ = some (.pointer (some ⟨b, 0, none⟩)) ∧ w1.cell? ⟨g, o, none⟩ = some (.int .i64 n0) := by
    refine ⟨HB.out.2.1.1.1.1, ?_⟩
    have e1 := (hk1.off ((HA.out.2.later (below_drewT _)).2 g rfl)).2
    exact (World.cell?_of_block (w := X0) (a := ⟨g, o, none⟩) e1).trans y0'
  clear hg1 hk1 HL1
  go_wp2_with fail
  refine hK.out _ _ S1 (fun hS => ?_)
  clear hK K
  refine tkH 19 ?_ hS (fun wx hx => ?_) ?_; rotate_left
  · obtain ⟨hx0, hx1⟩ := hx; go_simp; try with_reducible rfl
  refine tkH 20 ?_ hS (fun wx hx => ?_) ?_; rotate_left
  · obtain ⟨hx0, hx1⟩ := hx; go_simp; try with_reducible rfl
  refine wpAnyH_done (by kernel_rfl) ?_ _
  go_simp
  go_wp2
  go_ret
  exact ⟨by rw [HQ.out]; rfl, ys, vy, HB.out.1, HKw.out.trans HB.out.2.2⟩
end Go.Proofs.YtbpppaolcgibnaaGreatDoor

namespace Go.Proofs.YtbpppaolcgibnaaGreatDoor
open Go.RowKit

abbrev zeroS : Obj := .cells #[.bool false, .int .i64 0] 103
/-- The box of what was seen. -/
def Sgt (X : World) (b mb : Nat) (vz : Value) (A : Nat) (r : Bool) (z : Int) : Prop := Blk2 X A (.bool r) (.int .i64 z) ∧ Off X b mb vz A ∧ b < A
theorem Sgt.later {X X' : World} {b mb A : Nat} {vz : Value} {r : Bool} {z : Int} (h : Sgt X b mb vz A r z) (hq : Below X.heap.size X X') : Sgt X' b mb vz A r z := ⟨h.1.later hq, h.2.1.later hq.size, h.2.2⟩
theorem Sgt.keeps {X X' : World} {b mb A : Nat} {vz vy : Value} {r : Bool} {z : Int} (h : Sgt X b mb vz A r z) (hk : Keeps X X' b mb vz vy) : Sgt X' b mb vy A r z := ⟨h.1.kept (hk.off h.2.1).2, (hk.off h.2.1).1, h.2.2⟩
theorem Sgt.lt {X : World} {b mb A : Nat} {vz : Value} {r : Bool} {z : Int} (h : Sgt X b mb vz A r z) : A < X.heap.size := h.2.1.1
theorem Sgt.put {X : World} {b mb A : Nat} {vz : Value} {r : Bool} {z : Int} (h : Sgt X b mb vz A r z) (r' : Bool) (z' : Int) : Sgt ((X.setCell ⟨A, 0, none⟩ (.bool r')).setCell ⟨A, 1, none⟩ (.int .i64 z')) b mb vz A r' z' := by
  obtain ⟨⟨⟨h0, h1⟩, f0, f1⟩, ho, hb⟩ := h
  refine ⟨⟨?_, by simpa using f0, by simpa using f1⟩, ho.later (by simp), hb⟩
  exact (Blk2.put (x := X) (b := A) ⟨⟨h0, h1⟩, f0, f1⟩ (.bool r') (.int .i64 z')).1
/-- A block that neither the view's box nor its entries lie in. -/
def NB (X0 : World) (hb : Nat) (lv : Value) (A : Nat) : Prop := hb ≠ A ∧ (∀ k, lv.ownBlock = some k → k ≠ A) ∧ X0.heap.size ≤ A
theorem HgS.nb {X0 X : World} {b rb mb hb : Nat} {L : Prs} {vz0 vz lv : Value} {zs : List Int} (h : HgS X0 X b rb mb hb L vz0 zs vz lv) : NB X0 hb lv X.heap.size := ⟨Nat.ne_of_lt h.2.1.2.1, fun k hk => Nat.ne_of_lt (h.1.2.2 k hk).1, h.2.2.2.1⟩
theorem Sgt.keepsPut {X0 X : World} {b rb mb hb A : Nat} {L : Prs} {vz0 vz lv : Value} {zs : List Int} {r : Bool} {z : Int} (h : Sgt X b mb vz A r z) (hg : HgS X0 X b rb mb hb L vz0 zs vz lv) (hN : NB X0 hb lv A) (r' : Bool) (z' : Int) :
    HgS X0 ((X.setCell ⟨A, 0, none⟩ (.bool r')).setCell ⟨A, 1, none⟩ (.int .i64 z')) b rb mb hb L vz0 zs vz lv := by
  have ks : ∀ k, k ≠ A → ((X.setCell ⟨A, 0, none⟩ (.bool r')).setCell ⟨A, 1, none⟩ (.int .i64 z')).heap[k]? = X.heap[k]? := fun k hk => (Below.heap_setCell _ ⟨A, 1, none⟩ _ k hk).trans (Below.heap_setCell _ ⟨A, 0, none⟩ _ k hk)
  have sz : ((X.setCell ⟨A, 0, none⟩ (.bool r')).setCell ⟨A, 1, none⟩ (.int .i64 z')).heap.size = X.heap.size := by simp
  obtain ⟨⟨⟨h1, h2⟩, h3⟩, h4, h5⟩ := hg
  refine ⟨⟨⟨h1.grew (u := .slice (some ⟨A, 0, none⟩) 0 0) (B := A) (fun k hk => Nat.le_of_eq (Option.some.inj hk)) h.2.2 (fun k hk e => h.2.1.2.2.2 (by rw [hk, ← Option.some.inj e])) (fun k _ hk => ks k (fun e => hk (by rw [e]; rfl))), h2⟩, ?_⟩, ?_, ?_⟩
  · exact ⟨Own.keptT h3.1 (fun k hk => ks k (hN.2.1 k hk)), fun k hk => (h3.2 k hk).later (Nat.le_of_eq sz.symm)⟩
  · exact ⟨h4.1.kept (ks hb hN.1), h4.2.later (Nat.le_of_eq sz.symm)⟩
  · exact ⟨h5.1, by rw [sz]; exact h5.2.1, fun k hk g1 g2 g3 => (ks k (by have := hN.2.2; omega)).trans (h5.2.2.1 k hk g1 g2 g3), h5.2.2.2⟩
/-- Does an inode hang together? As the program asks it. -/
def hangsR (L M : Prs) (r : Bool) (z : Int) (s : Bool) (nx a : Int) : Bool :=
  if r = false then ((((M.length : Nat) : Int) == 0) && !s) else if a ≥ nx then false else if z = 1000 then (!s && dirR L M a) else fileR L M z
theorem toL_in {L : Prs} {a : Int} : ∀ j, j < (toL (lnkL L) a).length → 0 ≤ ((toL (lnkL L) a).getD j (0, 0)).1 ∧ ((toL (lnkL L) a).getD j (0, 0)).1 ≤ 9 := by
  have key : ∀ (M : Prs) (e : Int × Int), e ∈ lnkL M → 0 ≤ e.1 ∧ e.1 ≤ 9 := by
    intro M
    induction M with
    | nil => intro e he; cases he
    | cons x t ih =>
      intro e he
      rw [lnkL] at he
      rcases List.mem_append.1 he with q | q
      · split at q
        · rename_i hk
          rw [List.mem_singleton] at q
          rw [q]
          exact partA_in hk
        · cases q
      · exact ih e q
  intro j hj
  rw [List.getD_eq_getElem?_getD, List.getElem?_eq_getElem hj]
  exact key L _ (List.mem_filter.1 (List.getElem_mem hj)).1
set_option maxRecDepth 100000 in
set_option maxHeartbeats 4000000 in
theorem hangs_is (L : Prs) (b rb mb : Nat) (zs : List Int) (vz lv : Value) (a nx : Int) (w : World) (r : Bool) (z : Int) (s : Bool) (sz : Int) (h : Hung w b rb mb L zs vz lv) (hrs : Rises L) (hn : L.length ≤ 800) (ha : 0 ≤ a ∧ a ≤ 9) (ht : lookF L (kI a) = (r, z)) (hu : lookF L (kB a) = (s, sz)) (hz : 0 ≤ z ∧ z ≤ 9999) :
    Calls Tryz.prog 59 #[.agg #[.pointer (some ⟨b, 0, none⟩), lv], .int .i64 a, .int .i64 nx] w (LookRes w b rb mb L vz lv (.bool (hangsR L (toL (lnkL L) a) r z s nx a))) := by
  obtain ⟨lo, lc, rfl⟩ := h.2.row.form
  have HG : Hid (HgS (w.alloc (.cells #[.pointer (some ⟨b, 0, none⟩), .slice lo (lnkL L).length lc] 53)) (w.alloc (.cells #[.pointer (some ⟨b, 0, none⟩), .slice lo (lnkL L).length lc] 53)) b rb mb w.heap.size L vz zs vz (.slice lo (lnkL L).length lc)) := ⟨h.later (below_alloc _ _), h.box, Keeps.below _ _ _ (Below.refl _ _)⟩
  have HKw : Hid (Keeps w (w.alloc (.cells #[.pointer (some ⟨b, 0, none⟩), .slice lo (lnkL L).length lc] 53)) b mb vz vz) := Keeps.below b mb vz (below_alloc w _)
  have H : Hid (Rises L ∧ (0 ≤ a ∧ a ≤ 9) ∧ (0 ≤ z ∧ z ≤ 9999)) := ⟨hrs, ha, hz⟩
  have HV : Hid (lookF L (kI a) = (r, z) ∧ lookF L (kB a) = (s, sz)) := ⟨ht, hu⟩
  have fs0 := fun h v w => field_sight0 h v w
  obtain ⟨res, hres⟩ : ∃ res, hangsR L (toL (lnkL L) a) r z s nx a = res := ⟨_, rfl⟩
  have HR : Hid (hangsR L (toL (lnkL L) a) r z s nx a = res) := hres
  have hlk := lnkL_len L
  rw [hres]
  clear h hrs ha ht hu hres hz
  go_enter Tryz.func59, Tryz.ntmps59
  go_upto_region 1 with fail
  generalize w.alloc (.cells #[.pointer (some ⟨b, 0, none⟩), .slice lo (lnkL L).length lc] 53) = X0 at HG HKw ⊢
  go_cut [7, 8] (fun p q wx => ∃ A ys vy, p = .pointer (some ⟨A, 0, none⟩) ∧ q = .bool s ∧ Hid (HgS X0 wx b rb mb w.heap.size L vz ys vy (.slice lo (lnkL L).length lc)) ∧ Hid (Sgt wx b mb vy A r z))
  case first =>
    refine wp_region_held_drew (S := fun X => X.cell? ⟨w.heap.size, 0, none⟩ = some (.pointer (some ⟨b, 0, none⟩))) (by kernel_rfl) HG.out.2.1.1.1.1 (fun hS => ?_)
    have HG1 : Hid (HgS X0 X0.drew b rb mb w.heap.size L vz zs vz (.slice lo (lnkL L).length lc)) := HG.out.later (below_drewT _)
    clear HG
    have HG := HG1
    clear HG1
    generalize X0.drew = z0 at hS HG ⊢
    refine tkH 0 ?_ hS (fun wx hx => ?_) ?_; rotate_left
    · go_simp; try with_reducible rfl
    refine tkH 1 ?_ hS (fun wx hx => ?_) ?_; rotate_left
    · go_simp; try with_reducible rfl
    refine tkH 2 ?_ hS (fun wx hx => ?_) ?_; rotate_left
    · go_simp; try with_reducible rfl
    refine tkH 5 ?_ hS (fun wx hx => ?_) ?_; rotate_left
    · go_simp; try with_reducible rfl
    refine tkH 6 ?_ hS (fun wx hx => ?_) ?_; rotate_left
    · go_simp; try with_reducible rfl
    refine tkH 7 ?_ hS (fun wx hx => ?_) ?_; rotate_left
    · go_simp; try with_reducible rfl
    refine wpAnyH_ready (rs := [3, 11]) (by kernel_rfl) (by simp) ?_
    refine AllReadyH.cons rfl (fun K hK => ?_) (AllReadyH.cons rfl (fun K hK => ?_) AllReadyH.nil)
    · go_simp
      go_wp2_with fail
      refine (inodeKey_is a H.out.2.1 _).mono ?_
      rintro e z1 ⟨rfl, q⟩
      have HG1 : Hid (HgS X0 z1 b rb mb w.heap.size L vz zs vz (.slice lo (lnkL L).length lc)) := HG.out.later q
      have hS1 : z1.cell? ⟨w.heap.size, 0, none⟩ = some (.pointer (some ⟨b, 0, none⟩)) := HG1.out.2.1.1.1.1
      clear q HG hS
      have HG := HG1
      clear HG1
      go_wp2_with fail
      refine hK.out _ _ hS1 (fun hS => ?_)
      clear hK K
      clear hS1
      refine wpAnyH_ready (rs := [4, 11]) (by kernel_rfl) (by simp) ?_
      refine AllReadyH.cons rfl (fun K hK => ?_) (AllReadyH.cons rfl (fun K hK => ?_) AllReadyH.nil)
      · go_simp
        go_wp2_with fail
        refine (look_h L b rb mb zs vz _ (kI a) _ HG.out.1 H.out.1 hn (by have := H.out.2.1; first | (unfold kI; omega) | (unfold kB; omega))).mono ?_
        rintro e z2 ⟨rfl, ys3, vy4, hg, hk⟩
        rw [HV.out.1]
        have HG1 : Hid (HgS X0 z2 b rb mb w.heap.size L vz ys3 vy4 (.slice lo (lnkL L).length lc)) := HG.out.keeps hg hk
        have hS1 : z2.cell? ⟨w.heap.size, 0, none⟩ = some (.pointer (some ⟨b, 0, none⟩)) := HG1.out.2.1.1.1.1
        clear hg hk HG hS
        have HG := HG1
        clear HG1
        go_wp2_with fail
        refine hK.out _ _ hS1 (fun hS => ?_)
        clear hK K
        clear hS1
        refine wpAnyH_ready (rs := [8, 11]) (by kernel_rfl) (by simp) ?_
        refine AllReadyH.cons rfl (fun K hK => ?_) (AllReadyH.cons rfl (fun K hK => ?_) AllReadyH.nil)
        · go_simp
          go_wp2_with fail
          refine (bytesKey_is a H.out.2.1 _).mono ?_
          rintro e z5 ⟨rfl, q⟩
          have HG1 : Hid (HgS X0 z5 b rb mb w.heap.size L vz ys3 vy4 (.slice lo (lnkL L).length lc)) := HG.out.later q
          have hS1 : z5.cell? ⟨w.heap.size, 0, none⟩ = some (.pointer (some ⟨b, 0, none⟩)) := HG1.out.2.1.1.1.1
          clear q HG hS
          have HG := HG1
          clear HG1
          go_wp2_with fail
          refine hK.out _ _ hS1 (fun hS => ?_)
          clear hK K
          clear hS1
          refine wpAnyH_ready (rs := [9, 11]) (by kernel_rfl) (by simp) ?_
          refine AllReadyH.cons rfl (fun K hK => ?_) (AllReadyH.cons rfl (fun K hK => ?_) AllReadyH.nil)
          · go_simp
            go_wp2_with fail
            refine (look_h L b rb mb ys3 vy4 _ (kB a) _ HG.out.1 H.out.1 hn (by have := H.out.2.1; first | (unfold kI; omega) | (unfold kB; omega))).mono ?_
            rintro e z6 ⟨rfl, ys7, vy8, hg, hk⟩
            rw [HV.out.2]
            have HG1 : Hid (HgS X0 z6 b rb mb w.heap.size L vz ys7 vy8 (.slice lo (lnkL L).length lc)) := HG.out.keeps hg hk
            have hS1 : z6.cell? ⟨w.heap.size, 0, none⟩ = some (.pointer (some ⟨b, 0, none⟩)) := HG1.out.2.1.1.1.1
            clear hg hk HG hS
            have HG := HG1
            clear HG1
            go_wp2_with fail
            refine hK.out _ _ hS1 (fun hS => ?_)
            clear hK K
            clear hS1
            refine tkH 10 ?_ hS (fun wx hx => ?_) ?_; rotate_left
            · go_simp; try with_reducible rfl
            refine rdH 11 (fun K hK => ?_)
            go_simp
            have HG1 : Hid (HgS X0 (z6.alloc zeroS) b rb mb w.heap.size L vz ys7 vy8 (.slice lo (lnkL L).length lc)) := HG.out.later (below_alloc _ _)
            have HX : Hid (Sgt (z6.alloc zeroS) b mb vy8 z6.heap.size false 0) := ⟨Blk2.new _ _ _ _, HG.out.1.1.1.off _, HG.out.1.1.1.1.lt⟩
            have HNB : Hid (NB X0 w.heap.size (.slice lo (lnkL L).length lc) z6.heap.size) := HG.out.nb
            have hS1 : (z6.alloc zeroS).cell? ⟨w.heap.size, 0, none⟩ = some (.pointer (some ⟨b, 0, none⟩)) := HG1.out.2.1.1.1.1
            clear HG hS
            have HG := HG1
            clear HG1
            refine hK.out _ _ hS1 (fun hS => ?_)
            clear hK K
            clear hS1
            generalize z6.alloc zeroS = zz9 at HG HX hS ⊢
            obtain ⟨⟨u0, u1⟩, v0, v1⟩ := HX.out.1
            have hbl : (z6.heap.size) < zz9.heap.size := HX.out.1.lt
            have HY : Hid (Sgt ((zz9.setCell ⟨(z6.heap.size), 0, none⟩ (.bool r)).setCell ⟨(z6.heap.size), 1, none⟩ (.int .i64 z)) b mb vy8 (z6.heap.size) r z) := HX.out.put r z
            have HG2 : Hid (HgS X0 ((zz9.setCell ⟨(z6.heap.size), 0, none⟩ (.bool r)).setCell ⟨(z6.heap.size), 1, none⟩ (.int .i64 z)) b rb mb w.heap.size L vz ys7 vy8 (.slice lo (lnkL L).length lc)) := HX.out.keepsPut HG.out HNB.out r z
            refine rdH 12 (fun K hK => ?_)
            go_simp
            have hS2 : ((zz9.setCell ⟨(z6.heap.size), 0, none⟩ (.bool r)).setCell ⟨(z6.heap.size), 1, none⟩ (.int .i64 z)).cell? ⟨w.heap.size, 0, none⟩ = some (.pointer (some ⟨b, 0, none⟩)) := HG2.out.2.1.1.1.1
            clear hS
            refine hK.out _ _ hS2 (fun hS => ?_)
            clear hK K
            clear hS2 u0 u1 v0 v1 hbl
            refine tkH 13 ?_ hS (fun wx hx => ?_) ?_; rotate_left
            · go_simp; try with_reducible rfl
            refine wpAnyH_done (by kernel_rfl) ?_ _
            go_simp
            go_wp2_with fail
            go_meet
            case rel => exact ⟨_, ys7, vy8, rfl, rfl, HG2, HY⟩
          · go_simp
            have HG1 : Hid (HgS X0 (z5.alloc zeroS) b rb mb w.heap.size L vz ys3 vy4 (.slice lo (lnkL L).length lc)) := HG.out.later (below_alloc _ _)
            have HX : Hid (Sgt (z5.alloc zeroS) b mb vy4 z5.heap.size false 0) := ⟨Blk2.new _ _ _ _, HG.out.1.1.1.off _, HG.out.1.1.1.1.lt⟩
            have HNB : Hid (NB X0 w.heap.size (.slice lo (lnkL L).length lc) z5.heap.size) := HG.out.nb
            have hS1 : (z5.alloc zeroS).cell? ⟨w.heap.size, 0, none⟩ = some (.pointer (some ⟨b, 0, none⟩)) := HG1.out.2.1.1.1.1
            clear HG hS
            have HG := HG1
            clear HG1
            refine hK.out _ _ hS1 (fun hS => ?_)
            clear hK K
            clear hS1
            generalize z5.alloc zeroS = zz10 at HG HX hS ⊢
            refine rdH 9 (fun K hK => ?_)
            go_simp
            go_wp2_with fail
            refine (look_h L b rb mb ys3 vy4 _ (kB a) _ HG.out.1 H.out.1 hn (by have := H.out.2.1; first | (unfold kI; omega) | (unfold kB; omega))).mono ?_
            rintro e z11 ⟨rfl, ys12, vy13, hg, hk⟩
            rw [HV.out.2]
            have HG1 : Hid (HgS X0 z11 b rb mb w.heap.size L vz ys12 vy13 (.slice lo (lnkL L).length lc)) := HG.out.keeps hg hk
            have HX1 : Hid (Sgt z11 b mb vy13 (z5.heap.size) false 0) := HX.out.keeps hk
            clear HX
            have HX := HX1
            clear HX1
            have hS1 : z11.cell? ⟨w.heap.size, 0, none⟩ = some (.pointer (some ⟨b, 0, none⟩)) := HG1.out.2.1.1.1.1
            clear hg hk HG hS
            have HG := HG1
            clear HG1
            go_wp2_with fail
            refine hK.out _ _ hS1 (fun hS => ?_)
            clear hK K
            clear hS1
            refine tkH 10 ?_ hS (fun wx hx => ?_) ?_; rotate_left
            · go_simp; try with_reducible rfl
            obtain ⟨⟨u0, u1⟩, v0, v1⟩ := HX.out.1
            have hbl : (z5.heap.size) < z11.heap.size := HX.out.1.lt
            have HY : Hid (Sgt ((z11.setCell ⟨(z5.heap.size), 0, none⟩ (.bool r)).setCell ⟨(z5.heap.size), 1, none⟩ (.int .i64 z)) b mb vy13 (z5.heap.size) r z) := HX.out.put r z
            have HG2 : Hid (HgS X0 ((z11.setCell ⟨(z5.heap.size), 0, none⟩ (.bool r)).setCell ⟨(z5.heap.size), 1, none⟩ (.int .i64 z)) b rb mb w.heap.size L vz ys12 vy13 (.slice lo (lnkL L).length lc)) := HX.out.keepsPut HG.out HNB.out r z
            refine rdH 12 (fun K hK => ?_)
            go_simp
            have hS2 : ((z11.setCell ⟨(z5.heap.size), 0, none⟩ (.bool r)).setCell ⟨(z5.heap.size), 1, none⟩ (.int .i64 z)).cell? ⟨w.heap.size, 0, none⟩ = some (.pointer (some ⟨b, 0, none⟩)) := HG2.out.2.1.1.1.1
            clear hS
            refine hK.out _ _ hS2 (fun hS => ?_)
            clear hK K
            clear hS2 u0 u1 v0 v1 hbl
            refine tkH 13 ?_ hS (fun wx hx => ?_) ?_; rotate_left
            · go_simp; try with_reducible rfl
            refine wpAnyH_done (by kernel_rfl) ?_ _
            go_simp
            go_wp2_with fail
            go_meet
            case rel => exact ⟨_, ys12, vy13, rfl, rfl, HG2, HY⟩
        · go_simp
          have HG1 : Hid (HgS X0 (z2.alloc zeroS) b rb mb w.heap.size L vz ys3 vy4 (.slice lo (lnkL L).length lc)) := HG.out.later (below_alloc _ _)
          have HX : Hid (Sgt (z2.alloc zeroS) b mb vy4 z2.heap.size false 0) := ⟨Blk2.new _ _ _ _, HG.out.1.1.1.off _, HG.out.1.1.1.1.lt⟩
          have HNB : Hid (NB X0 w.heap.size (.slice lo (lnkL L).length lc) z2.heap.size) := HG.out.nb
          have hS1 : (z2.alloc zeroS).cell? ⟨w.heap.size, 0, none⟩ = some (.pointer (some ⟨b, 0, none⟩)) := HG1.out.2.1.1.1.1
          clear HG hS
          have HG := HG1
          clear HG1
          refine hK.out _ _ hS1 (fun hS => ?_)
          clear hK K
          clear hS1
          generalize z2.alloc zeroS = zz14 at HG HX hS ⊢
          refine rdH 8 (fun K hK => ?_)
          go_simp
          go_wp2_with fail
          refine (bytesKey_is a H.out.2.1 _).mono ?_
          rintro e z15 ⟨rfl, q⟩
          have HG1 : Hid (HgS X0 z15 b rb mb w.heap.size L vz ys3 vy4 (.slice lo (lnkL L).length lc)) := HG.out.later q
          have HX1 : Hid (Sgt z15 b mb vy4 (z2.heap.size) false 0) := HX.out.later q
          clear HX
          have HX := HX1
          clear HX1
          have hS1 : z15.cell? ⟨w.heap.size, 0, none⟩ = some (.pointer (some ⟨b, 0, none⟩)) := HG1.out.2.1.1.1.1
          clear q HG hS
          have HG := HG1
          clear HG1
          go_wp2_with fail
          refine hK.out _ _ hS1 (fun hS => ?_)
          clear hK K
          clear hS1
          refine rdH 9 (fun K hK => ?_)
          go_simp
          go_wp2_with fail
          refine (look_h L b rb mb ys3 vy4 _ (kB a) _ HG.out.1 H.out.1 hn (by have := H.out.2.1; first | (unfold kI; omega) | (unfold kB; omega))).mono ?_
          rintro e z16 ⟨rfl, ys17, vy18, hg, hk⟩
          rw [HV.out.2]
          have HG1 : Hid (HgS X0 z16 b rb mb w.heap.size L vz ys17 vy18 (.slice lo (lnkL L).length lc)) := HG.out.keeps hg hk
          have HX1 : Hid (Sgt z16 b mb vy18 (z2.heap.size) false 0) := HX.out.keeps hk
          clear HX
          have HX := HX1
          clear HX1
          have hS1 : z16.cell? ⟨w.heap.size, 0, none⟩ = some (.pointer (some ⟨b, 0, none⟩)) := HG1.out.2.1.1.1.1
          clear hg hk HG hS
          have HG := HG1
          clear HG1
          go_wp2_with fail
          refine hK.out _ _ hS1 (fun hS => ?_)
          clear hK K
          clear hS1
          refine tkH 10 ?_ hS (fun wx hx => ?_) ?_; rotate_left
          · go_simp; try with_reducible rfl
          obtain ⟨⟨u0, u1⟩, v0, v1⟩ := HX.out.1
          have hbl : (z2.heap.size) < z16.heap.size := HX.out.1.lt
          have HY : Hid (Sgt ((z16.setCell ⟨(z2.heap.size), 0, none⟩ (.bool r)).setCell ⟨(z2.heap.size), 1, none⟩ (.int .i64 z)) b mb vy18 (z2.heap.size) r z) := HX.out.put r z
          have HG2 : Hid (HgS X0 ((z16.setCell ⟨(z2.heap.size), 0, none⟩ (.bool r)).setCell ⟨(z2.heap.size), 1, none⟩ (.int .i64 z)) b rb mb w.heap.size L vz ys17 vy18 (.slice lo (lnkL L).length lc)) := HX.out.keepsPut HG.out HNB.out r z
          refine rdH 12 (fun K hK => ?_)
          go_simp
          have hS2 : ((z16.setCell ⟨(z2.heap.size), 0, none⟩ (.bool r)).setCell ⟨(z2.heap.size), 1, none⟩ (.int .i64 z)).cell? ⟨w.heap.size, 0, none⟩ = some (.pointer (some ⟨b, 0, none⟩)) := HG2.out.2.1.1.1.1
          clear hS
          refine hK.out _ _ hS2 (fun hS => ?_)
          clear hK K
          clear hS2 u0 u1 v0 v1 hbl
          refine tkH 13 ?_ hS (fun wx hx => ?_) ?_; rotate_left
          · go_simp; try with_reducible rfl
          refine wpAnyH_done (by kernel_rfl) ?_ _
          go_simp
          go_wp2_with fail
          go_meet
          case rel => exact ⟨_, ys17, vy18, rfl, rfl, HG2, HY⟩
      · go_simp
        have HG1 : Hid (HgS X0 (z1.alloc zeroS) b rb mb w.heap.size L vz zs vz (.slice lo (lnkL L).length lc)) := HG.out.later (below_alloc _ _)
        have HX : Hid (Sgt (z1.alloc zeroS) b mb vz z1.heap.size false 0) := ⟨Blk2.new _ _ _ _, HG.out.1.1.1.off _, HG.out.1.1.1.1.lt⟩
        have HNB : Hid (NB X0 w.heap.size (.slice lo (lnkL L).length lc) z1.heap.size) := HG.out.nb
        have hS1 : (z1.alloc zeroS).cell? ⟨w.heap.size, 0, none⟩ = some (.pointer (some ⟨b, 0, none⟩)) := HG1.out.2.1.1.1.1
        clear HG hS
        have HG := HG1
        clear HG1
        refine hK.out _ _ hS1 (fun hS => ?_)
        clear hK K
        clear hS1
        generalize z1.alloc zeroS = zz19 at HG HX hS ⊢
        refine rdH 4 (fun K hK => ?_)
        go_simp
        go_wp2_with fail
        refine (look_h L b rb mb zs vz _ (kI a) _ HG.out.1 H.out.1 hn (by have := H.out.2.1; first | (unfold kI; omega) | (unfold kB; omega))).mono ?_
        rintro e z20 ⟨rfl, ys21, vy22, hg, hk⟩
        rw [HV.out.1]
        have HG1 : Hid (HgS X0 z20 b rb mb w.heap.size L vz ys21 vy22 (.slice lo (lnkL L).length lc)) := HG.out.keeps hg hk
        have HX1 : Hid (Sgt z20 b mb vy22 (z1.heap.size) false 0) := HX.out.keeps hk
        clear HX
        have HX := HX1
        clear HX1
        have hS1 : z20.cell? ⟨w.heap.size, 0, none⟩ = some (.pointer (some ⟨b, 0, none⟩)) := HG1.out.2.1.1.1.1
        clear hg hk HG hS
        have HG := HG1
        clear HG1
        go_wp2_with fail
        refine hK.out _ _ hS1 (fun hS => ?_)
        clear hK K
        clear hS1
        refine rdH 8 (fun K hK => ?_)
        go_simp
        go_wp2_with fail
        refine (bytesKey_is a H.out.2.1 _).mono ?_
        rintro e z23 ⟨rfl, q⟩
        have HG1 : Hid (HgS X0 z23 b rb mb w.heap.size L vz ys21 vy22 (.slice lo (lnkL L).length lc)) := HG.out.later q
        have HX1 : Hid (Sgt z23 b mb vy22 (z1.heap.size) false 0) := HX.out.later q
        clear HX
        have HX := HX1
        clear HX1
        have hS1 : z23.cell? ⟨w.heap.size, 0, none⟩ = some (.pointer (some ⟨b, 0, none⟩)) := HG1.out.2.1.1.1.1
        clear q HG hS
        have HG := HG1
        clear HG1
        go_wp2_with fail
        refine hK.out _ _ hS1 (fun hS => ?_)
        clear hK K
        clear hS1
        refine rdH 9 (fun K hK => ?_)
        go_simp
        go_wp2_with fail
        refine (look_h L b rb mb ys21 vy22 _ (kB a) _ HG.out.1 H.out.1 hn (by have := H.out.2.1; first | (unfold kI; omega) | (unfold kB; omega))).mono ?_
        rintro e z24 ⟨rfl, ys25, vy26, hg, hk⟩
        rw [HV.out.2]
        have HG1 : Hid (HgS X0 z24 b rb mb w.heap.size L vz ys25 vy26 (.slice lo (lnkL L).length lc)) := HG.out.keeps hg hk
        have HX1 : Hid (Sgt z24 b mb vy26 (z1.heap.size) false 0) := HX.out.keeps hk
        clear HX
        have HX := HX1
        clear HX1
        have hS1 : z24.cell? ⟨w.heap.size, 0, none⟩ = some (.pointer (some ⟨b, 0, none⟩)) := HG1.out.2.1.1.1.1
        clear hg hk HG hS
        have HG := HG1
        clear HG1
        go_wp2_with fail
        refine hK.out _ _ hS1 (fun hS => ?_)
        clear hK K
        clear hS1
        refine tkH 10 ?_ hS (fun wx hx => ?_) ?_; rotate_left
        · go_simp; try with_reducible rfl
        obtain ⟨⟨u0, u1⟩, v0, v1⟩ := HX.out.1
        have hbl : (z1.heap.size) < z24.heap.size := HX.out.1.lt
        have HY : Hid (Sgt ((z24.setCell ⟨(z1.heap.size), 0, none⟩ (.bool r)).setCell ⟨(z1.heap.size), 1, none⟩ (.int .i64 z)) b mb vy26 (z1.heap.size) r z) := HX.out.put r z
        have HG2 : Hid (HgS X0 ((z24.setCell ⟨(z1.heap.size), 0, none⟩ (.bool r)).setCell ⟨(z1.heap.size), 1, none⟩ (.int .i64 z)) b rb mb w.heap.size L vz ys25 vy26 (.slice lo (lnkL L).length lc)) := HX.out.keepsPut HG.out HNB.out r z
        refine rdH 12 (fun K hK => ?_)
        go_simp
        have hS2 : ((z24.setCell ⟨(z1.heap.size), 0, none⟩ (.bool r)).setCell ⟨(z1.heap.size), 1, none⟩ (.int .i64 z)).cell? ⟨w.heap.size, 0, none⟩ = some (.pointer (some ⟨b, 0, none⟩)) := HG2.out.2.1.1.1.1
        clear hS
        refine hK.out _ _ hS2 (fun hS => ?_)
        clear hK K
        clear hS2 u0 u1 v0 v1 hbl
        refine tkH 13 ?_ hS (fun wx hx => ?_) ?_; rotate_left
        · go_simp; try with_reducible rfl
        refine wpAnyH_done (by kernel_rfl) ?_ _
        go_simp
        go_wp2_with fail
        go_meet
        case rel => exact ⟨_, ys25, vy26, rfl, rfl, HG2, HY⟩
    · go_simp
      have HG1 : Hid (HgS X0 (z0.alloc zeroS) b rb mb w.heap.size L vz zs vz (.slice lo (lnkL L).length lc)) := HG.out.later (below_alloc _ _)
      have HX : Hid (Sgt (z0.alloc zeroS) b mb vz z0.heap.size false 0) := ⟨Blk2.new _ _ _ _, HG.out.1.1.1.off _, HG.out.1.1.1.1.lt⟩
      have HNB : Hid (NB X0 w.heap.size (.slice lo (lnkL L).length lc) z0.heap.size) := HG.out.nb
      have hS1 : (z0.alloc zeroS).cell? ⟨w.heap.size, 0, none⟩ = some (.pointer (some ⟨b, 0, none⟩)) := HG1.out.2.1.1.1.1
      clear HG hS
      have HG := HG1
      clear HG1
      refine hK.out _ _ hS1 (fun hS => ?_)
      clear hK K
      clear hS1
      generalize z0.alloc zeroS = zz27 at HG HX hS ⊢
      refine rdH 3 (fun K hK => ?_)
      go_simp
      go_wp2_with fail
      refine (inodeKey_is a H.out.2.1 _).mono ?_
      rintro e z28 ⟨rfl, q⟩
      have HG1 : Hid (HgS X0 z28 b rb mb w.heap.size L vz zs vz (.slice lo (lnkL L).length lc)) := HG.out.later q
      have HX1 : Hid (Sgt z28 b mb vz (z0.heap.size) false 0) := HX.out.later q
      clear HX
      have HX := HX1
      clear HX1
      have hS1 : z28.cell? ⟨w.heap.size, 0, none⟩ = some (.pointer (some ⟨b, 0, none⟩)) := HG1.out.2.1.1.1.1
      clear q HG hS
      have HG := HG1
      clear HG1
      go_wp2_with fail
      refine hK.out _ _ hS1 (fun hS => ?_)
      clear hK K
      clear hS1
      refine rdH 4 (fun K hK => ?_)
      go_simp
      go_wp2_with fail
      refine (look_h L b rb mb zs vz _ (kI a) _ HG.out.1 H.out.1 hn (by have := H.out.2.1; first | (unfold kI; omega) | (unfold kB; omega))).mono ?_
      rintro e z29 ⟨rfl, ys30, vy31, hg, hk⟩
      rw [HV.out.1]
      have HG1 : Hid (HgS X0 z29 b rb mb w.heap.size L vz ys30 vy31 (.slice lo (lnkL L).length lc)) := HG.out.keeps hg hk
      have HX1 : Hid (Sgt z29 b mb vy31 (z0.heap.size) false 0) := HX.out.keeps hk
      clear HX
      have HX := HX1
      clear HX1
      have hS1 : z29.cell? ⟨w.heap.size, 0, none⟩ = some (.pointer (some ⟨b, 0, none⟩)) := HG1.out.2.1.1.1.1
      clear hg hk HG hS
      have HG := HG1
      clear HG1
      go_wp2_with fail
      refine hK.out _ _ hS1 (fun hS => ?_)
      clear hK K
      clear hS1
      refine rdH 8 (fun K hK => ?_)
      go_simp
      go_wp2_with fail
      refine (bytesKey_is a H.out.2.1 _).mono ?_
      rintro e z32 ⟨rfl, q⟩
      have HG1 : Hid (HgS X0 z32 b rb mb w.heap.size L vz ys30 vy31 (.slice lo (lnkL L).length lc)) := HG.out.later q
      have HX1 : Hid (Sgt z32 b mb vy31 (z0.heap.size) false 0) := HX.out.later q
      clear HX
      have HX := HX1
      clear HX1
      have hS1 : z32.cell? ⟨w.heap.size, 0, none⟩ = some (.pointer (some ⟨b, 0, none⟩)) := HG1.out.2.1.1.1.1
      clear q HG hS
      have HG := HG1
      clear HG1
      go_wp2_with fail
      refine hK.out _ _ hS1 (fun hS => ?_)
      clear hK K
      clear hS1
      refine rdH 9 (fun K hK => ?_)
      go_simp
      go_wp2_with fail
      refine (look_h L b rb mb ys30 vy31 _ (kB a) _ HG.out.1 H.out.1 hn (by have := H.out.2.1; first | (unfold kI; omega) | (unfold kB; omega))).mono ?_
      rintro e z33 ⟨rfl, ys34, vy35, hg, hk⟩
      rw [HV.out.2]
      have HG1 : Hid (HgS X0 z33 b rb mb w.heap.size L vz ys34 vy35 (.slice lo (lnkL L).length lc)) := HG.out.keeps hg hk
      have HX1 : Hid (Sgt z33 b mb vy35 (z0.heap.size) false 0) := HX.out.keeps hk
      clear HX
      have HX := HX1
      clear HX1
      have hS1 : z33.cell? ⟨w.heap.size, 0, none⟩ = some (.pointer (some ⟨b, 0, none⟩)) := HG1.out.2.1.1.1.1
      clear hg hk HG hS
      have HG := HG1
      clear HG1
      go_wp2_with fail
      refine hK.out _ _ hS1 (fun hS => ?_)
      clear hK K
      clear hS1
      refine tkH 10 ?_ hS (fun wx hx => ?_) ?_; rotate_left
      · go_simp; try with_reducible rfl
      obtain ⟨⟨u0, u1⟩, v0, v1⟩ := HX.out.1
      have hbl : (z0.heap.size) < z33.heap.size := HX.out.1.lt
      have HY : Hid (Sgt ((z33.setCell ⟨(z0.heap.size), 0, none⟩ (.bool r)).setCell ⟨(z0.heap.size), 1, none⟩ (.int .i64 z)) b mb vy35 (z0.heap.size) r z) := HX.out.put r z
      have HG2 : Hid (HgS X0 ((z33.setCell ⟨(z0.heap.size), 0, none⟩ (.bool r)).setCell ⟨(z0.heap.size), 1, none⟩ (.int .i64 z)) b rb mb w.heap.size L vz ys34 vy35 (.slice lo (lnkL L).length lc)) := HX.out.keepsPut HG.out HNB.out r z
      refine rdH 12 (fun K hK => ?_)
      go_simp
      have hS2 : ((z33.setCell ⟨(z0.heap.size), 0, none⟩ (.bool r)).setCell ⟨(z0.heap.size), 1, none⟩ (.int .i64 z)).cell? ⟨w.heap.size, 0, none⟩ = some (.pointer (some ⟨b, 0, none⟩)) := HG2.out.2.1.1.1.1
      clear hS
      refine hK.out _ _ hS2 (fun hS => ?_)
      clear hK K
      clear hS2 u0 u1 v0 v1 hbl
      refine tkH 13 ?_ hS (fun wx hx => ?_) ?_; rotate_left
      · go_simp; try with_reducible rfl
      refine wpAnyH_done (by kernel_rfl) ?_ _
      go_simp
      go_wp2_with fail
      go_meet
      case rel => exact ⟨_, ys34, vy35, rfl, rfl, HG2, HY⟩
  case rest =>
    obtain ⟨A, ys, vy, rfl, rfl, HG2, HX2⟩ := hcut
    obtain ⟨⟨x0, x1⟩, y0, y1⟩ := HG2.out.2.1.1
    have hzb : w.heap.size < wc.heap.size := HG2.out.2.1.2.1
    go_wp2_with fail
    refine (linksTo_is (lnkL L) ⟨b, 0, none⟩ _ 0 a _ HG2.out.1.2.row (by omega)).mono ?_
    rintro e w3 ⟨mv, rfl, ho, q3⟩
    obtain ⟨mo, mc, rfl⟩ := ho.form
    have hlm := toL_len (lnkL L) a
    have HM : Hid ((Lst w3 b mb vy (toL (lnkL L) a) (.slice mo (toL (lnkL L) a).length mc)) ∧ ∀ j, j < (toL (lnkL L) a).length → 0 ≤ ((toL (lnkL L) a).getD j (0, 0)).1 ∧ ((toL (lnkL L) a).getD j (0, 0)).1 ≤ 9) := ⟨HG2.out.1.lst ho, toL_in⟩
    have HG3 : Hid (HgS X0 w3 b rb mb w.heap.size L vz ys vy (.slice lo (lnkL L).length lc) ∧ Sgt w3 b mb vy A r z) := ⟨HG2.out.later q3, HX2.out.later q3⟩
    clear ho q3 HG2 HX2 x0 x1 y0 y1 hzb
    have hR := HR.out
    clear HR
    generalize toL (lnkL L) a = M at HM hlm hR ⊢
    obtain ⟨⟨x0, x1⟩, y0, y1⟩ := HG3.out.1.2.1.1
    obtain ⟨⟨u0, u1⟩, v0, v1⟩ := HG3.out.2.1
    unfold hangsR at hR
    cases r with
    | false =>
      rw [if_pos rfl] at hR
      by_cases hm0 : M.length = 0
      · have dm : (((M.length : Nat) : Int) == 0) = true := beq_iff_eq.2 (by omega)
        rw [dm] at hR
        cases s with
        | true =>
          have HQ : Hid (res = false) := by unfold Hid; rw [← hR]; rfl
          clear hR hm0
          go_wp2_with fail
          refine (countLinks_is mo _ mc (by omega) _).mono ?_
          rintro e w9 ⟨rfl, hw9⟩
          obtain rfl := hw9.symm
          go_wp2
          go_ret
          exact ⟨by rw [HQ.out]; rfl, _, _, HG3.out.1.1, HKw.out.trans HG3.out.1.2.2⟩
        | false =>
          have HQ : Hid (res = true) := by unfold Hid; rw [← hR]; rfl
          clear hR hm0
          go_wp2_with fail
          refine (countLinks_is mo _ mc (by omega) _).mono ?_
          rintro e w9 ⟨rfl, hw9⟩
          obtain rfl := hw9.symm
          go_wp2
          go_ret
          exact ⟨by rw [HQ.out]; rfl, _, _, HG3.out.1.1, HKw.out.trans HG3.out.1.2.2⟩
      · have dm : (((M.length : Nat) : Int) == 0) = false := beq_eq_false_iff_ne.2 (by omega)
        have HQ : Hid (res = false) := by unfold Hid; rw [← hR, dm]; rfl
        clear hR hm0
        go_wp2_with fail
        refine (countLinks_is mo _ mc (by omega) _).mono ?_
        rintro e w9 ⟨rfl, hw9⟩
        obtain rfl := hw9.symm
        go_wp2
        go_ret
        exact ⟨by rw [HQ.out]; rfl, _, _, HG3.out.1.1, HKw.out.trans HG3.out.1.2.2⟩
    | true =>
      rw [if_neg (by simp)] at hR
      by_cases hnx : a ≥ nx
      · have HQ : Hid (res = false) := by unfold Hid; rw [← hR, if_pos hnx]
        have dn : decide (a ≥ nx) = true := decide_eq_true hnx
        clear hR hnx
        go_wp2
        go_ret
        exact ⟨by rw [HQ.out]; rfl, _, _, HG3.out.1.1, HKw.out.trans HG3.out.1.2.2⟩
      · have dn : decide (a ≥ nx) = false := decide_eq_false hnx
        rw [if_neg hnx] at hR
        clear hnx
        by_cases hz : z = 1000
        · have dz : (z == 1000) = true := beq_iff_eq.2 hz
          rw [if_pos hz] at hR
          clear hz
          cases s with
          | true =>
            have HQ : Hid (res = false) := by unfold Hid; rw [← hR]; rfl
            clear hR
            go_wp2
            go_ret
            exact ⟨by rw [HQ.out]; rfl, _, _, HG3.out.1.1, HKw.out.trans HG3.out.1.2.2⟩
          | false =>
            have HQ : Hid (res = dirR L M a) := by unfold Hid; rw [← hR]; rfl
            clear hR
            go_wp2_with fail
            refine (dirHangs_is L M b rb mb ys vy _ _ a _ HG3.out.1.1 HM.out.1 H.out.1 hn ⟨by omega, HM.out.2⟩).mono ?_
            rintro e w4 ⟨rfl, ys4, vy4, hg4, hk4⟩
            have HG4 : Hid (HgS X0 w4 b rb mb w.heap.size L vz ys4 vy4 (.slice lo (lnkL L).length lc)) := HG3.out.1.keeps hg4 hk4
            rw [← HQ.out]
            clear hg4 hk4 HG3 x0 x1 y0 y1 u0 u1 v0 v1
            cases res with
            | true =>
              go_wp2
              go_ret
              exact ⟨rfl, _, _, HG4.out.1, HKw.out.trans HG4.out.2.2⟩
            | false =>
              go_wp2
              go_ret
              exact ⟨rfl, _, _, HG4.out.1, HKw.out.trans HG4.out.2.2⟩
        · have dz : (z == 1000) = false := beq_eq_false_iff_ne.2 hz
          rw [if_neg hz] at hR
          have HQ : Hid (res = fileR L M z) := hR.symm
          clear hR hz
          go_wp2_with fail
          refine (fileHangs_is L M b rb mb ys vy _ _ z _ HG3.out.1.1 HM.out.1 H.out.1 hn H.out.2.2 ⟨by omega, HM.out.2⟩).mono ?_
          rintro e w4 ⟨rfl, ys4, vy4, hg4, hk4⟩
          have HG4 : Hid (HgS X0 w4 b rb mb w.heap.size L vz ys4 vy4 (.slice lo (lnkL L).length lc)) := HG3.out.1.keeps hg4 hk4
          rw [← HQ.out]
          clear hg4 hk4 HG3 x0 x1 y0 y1 u0 u1 v0 v1
          go_wp2
          go_ret
          exact ⟨rfl, _, _, HG4.out.1, HKw.out.trans HG4.out.2.2⟩
end Go.Proofs.YtbpppaolcgibnaaGreatDoor

