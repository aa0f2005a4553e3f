/-
  Own text, merged of TreE, TreF, TreG, TreH, TreI, TreJ, TreK, PaiK, PaiL, ApyB, TreL, DrawA.
-/
import Derived.Test.YtnchaccgenfhoaaGreatPk5
namespace Go.Proofs.YtnchaccgenfhoaaGreat
open Go.RowKit

/-- An entry of no inode. -/
def noInode (e : Int × Int) : Bool := (partK e.1 == 2) && !(decide (0 ≤ e.2 ∧ e.2 ≤ 9))
/-- Does all of it hang together? -/
def wholeB (L : Prs) : Bool := (lookF L 0).1 && (decide (1 ≤ (lookF L 0).2 ∧ (lookF L 0).2 ≤ 10) && (dirB L 0 && ((List.range 10).all (fun a => inodeB L (lookF L 0).2 (a : Nat)) && L.all (fun e => !(noInode e)))))
def fsF (n : Nat) (F : Nat → Int) : Int := if pairsF F n 0 ≠ 0 then pairsF F n 0 else if wholeB (listOf F n) = true then 0 else 1
theorem fsF_bad {n : Nat} {F : Nat → Int} (h : pairsF F n 0 ≠ 0) : fsF n F = pairsF F n 0 := by unfold fsF; rw [if_pos h]
theorem fsF_no {n : Nat} {F : Nat → Int} (h : pairsF F n 0 = 0) (h2 : wholeB (listOf F n) = false) : fsF n F = 1 := by unfold fsF; rw [if_neg (fun q => q h), if_neg (by rw [h2]; simp)]
theorem fsF_ok {n : Nat} {F : Nat → Int} (h : pairsF F n 0 = 0) (h2 : wholeB (listOf F n) = true) : fsF n F = 0 := by unfold fsF; rw [if_neg (fun q => q h), if_pos h2]
theorem fsF_zero {n : Nat} {F : Nat → Int} (h : fsF n F = 0) : pairsF F n 0 = 0 ∧ wholeB (listOf F n) = true := by
  unfold fsF at h
  by_cases h1 : pairsF F n 0 = 0
  · rw [if_neg (fun q => q h1)] at h
    by_cases h2 : wholeB (listOf F n) = true
    · exact ⟨h1, h2⟩
    · rw [if_neg h2] at h; cases h
  · rw [if_pos h1] at h; exact absurd h h1
theorem range_no {p : Nat → Bool} {k : Nat} (hk : k < 10) (h : p k = false) : (List.range 10).all p = false := by
  rw [List.all_eq_false]
  exact ⟨k, List.mem_range.2 hk, by rw [h]; simp⟩
theorem range_ok {p : Nat → Bool} (h : ∀ j, j < 10 → p j = true) : (List.range 10).all p = true := by
  rw [List.all_eq_true]
  exact fun j hj => h j (List.mem_range.1 hj)
set_option maxRecDepth 100000 in
set_option maxHeartbeats 4000000 in
theorem specFs_is (y : Value) (B n : Nat) (F : Nat → Int) (w : World) (h : Row w B 2 n F y) (hn : n ≤ 1048576) :
    Calls Tryz.prog 24 #[y] w fun e w' => e = .returned (.int .i64 (fsF n F)) ∧ Below w.heap.size w w' := by
  obtain ⟨ao, cp, rfl⟩ := h.form
  have H : Hid (Row w B 2 n F (.slice ao n cp)) := h
  clear h
  obtain ⟨res, hres⟩ : ∃ res, fsF n F = res := ⟨_, rfl⟩
  have HR : Hid (fsF n F = res) := hres
  rw [hres]
  clear hres
  by_cases h1 : pairsF F n 0 = 0
  case neg =>
    obtain ⟨f, hf⟩ : ∃ f, pairsF F n 0 = f := ⟨_, rfl⟩
    have HF : Hid (pairsF F n 0 = f ∧ True) := ⟨hf, trivial⟩
    have dd : (f != 0) = true := bne_iff_ne.2 (by rw [← hf]; exact h1)
    have HQ : Hid (res = f) := HR.out.symm.trans ((fsF_bad h1).trans hf)
    clear h1 hf HR
    go_enter Tryz.func24, Tryz.ntmps24
    go_wp2_with fail
    refine (specPairs_any _ B n F _ H.out hn).mono ?_
    rintro e w1 ⟨rfl, q1⟩
    rw [HF.out.1]
    have HB : Hid (Below w.heap.size w w1) := q1
    clear q1
    go_wp2
    go_ret
    rw [HQ.out]
    exact ⟨rfl, HB.out⟩
  have HF : Hid (pairsF F n 0 = 0 ∧ True) := ⟨h1, trivial⟩
  obtain ⟨t, ht⟩ : ∃ t, lookF (listOf F n) 0 = t := ⟨_, rfl⟩
  obtain ⟨h0, nx⟩ := t
  have HL : Hid (lookF (listOf F n) 0 = (h0, nx)) := ht
  obtain ⟨wb, hwb⟩ : ∃ wb, wholeB (listOf F n) = wb := ⟨_, rfl⟩
  have hW : (h0 && (decide (1 ≤ nx ∧ nx ≤ 10) && (dirB (listOf F n) 0 && ((List.range 10).all (fun a => inodeB (listOf F n) nx (a : Nat)) && (listOf F n).all (fun e => !(noInode e)))))) = wb := by rw [← hwb]; unfold wholeB; rw [ht]
  have hNO : wb = false → res = 1 := fun e => HR.out.symm.trans (fsF_no h1 (hwb.trans e))
  have hOK : wb = true → res = 0 := fun e => HR.out.symm.trans (fsF_ok h1 (hwb.trans e))
  have hn2 : n ≤ 200 := (pairs_rise h1).2
  have HKO : Hid (KeysOk (listOf F n)) := pairs_keys h1
  clear h1 ht hwb HR
  cases h0 with
  | false =>
    have HQ : Hid (res = 1) := hNO (by rw [← hW]; rfl)
    clear hW hNO hOK
    go_enter Tryz.func24, Tryz.ntmps24
    go_wp2_with fail
    refine (specPairs_any _ B n F _ H.out hn).mono ?_
    rintro e w1 ⟨rfl, q1⟩
    rw [HF.out.1]
    have HB : Hid (Below w.heap.size w w1) := q1
    clear q1
    go_wp2_with fail
    refine (l11Value_any (listOf F n) _ B 0 _ (row_list (H.out.later HB.out)) (by rw [listOf_length]; exact hn)).mono ?_
    rintro e w9 ⟨rfl, hw9⟩
    obtain rfl := hw9.symm
    rw [HL.out]
    go_wp2
    go_ret
    rw [HQ.out]
    exact ⟨rfl, HB.out⟩
  | true =>
  by_cases hnx : 1 ≤ nx ∧ nx ≤ 10
  case neg =>
    have D1 : Hid (decide (1 ≤ nx ∧ nx ≤ 10) = false) := decide_eq_false hnx
    have HQ : Hid (res = 1) := hNO (by rw [← hW, decide_eq_false hnx]; rfl)
    clear hW hNO hOK hnx
    go_enter Tryz.func24, Tryz.ntmps24
    go_wp2_with fail
    refine (specPairs_any _ B n F _ H.out hn).mono ?_
    rintro e w1 ⟨rfl, q1⟩
    rw [HF.out.1]
    have HB : Hid (Below w.heap.size w w1) := q1
    clear q1
    go_wp2_with fail
    refine (l11Value_any (listOf F n) _ B 0 _ (row_list (H.out.later HB.out)) (by rw [listOf_length]; exact hn)).mono ?_
    rintro e w9 ⟨rfl, hw9⟩
    obtain rfl := hw9.symm
    rw [HL.out]
    go_wp2_with fail
    refine (l1In_is nx 1 10 _ D1.out _).mono ?_
    rintro e w9 ⟨rfl, hw9⟩
    obtain rfl := hw9.symm
    go_wp2
    go_ret
    rw [HQ.out]
    exact ⟨rfl, HB.out⟩
  have D1 : Hid (decide (1 ≤ nx ∧ nx ≤ 10) = true) := decide_eq_true hnx
  rw [decide_eq_true hnx] at hW
  clear hnx
  obtain ⟨d0, hd0⟩ : ∃ d0, dirB (listOf F n) 0 = d0 := ⟨_, rfl⟩
  have HD : Hid (dirB (listOf F n) 0 = d0) := hd0
  rw [hd0] at hW
  clear hd0
  cases d0 with
  | false =>
    have HQ : Hid (res = 1) := hNO (by rw [← hW]; rfl)
    clear hW hNO hOK
    go_enter Tryz.func24, Tryz.ntmps24
    go_wp2_with fail
    refine (specPairs_any _ B n F _ H.out hn).mono ?_
    rintro e w1 ⟨rfl, q1⟩
    rw [HF.out.1]
    have HB : Hid (Below w.heap.size w w1) := q1
    clear q1
    go_wp2_with fail
    refine (l11Value_any (listOf F n) _ B 0 _ (row_list (H.out.later HB.out)) (by rw [listOf_length]; exact hn)).mono ?_
    rintro e w9 ⟨rfl, hw9⟩
    obtain rfl := hw9.symm
    rw [HL.out]
    go_wp2_with fail
    refine (l1In_is nx 1 10 _ D1.out _).mono ?_
    rintro e w9 ⟨rfl, hw9⟩
    obtain rfl := hw9.symm
    go_wp2_with fail
    refine (l13Dir_is (listOf F n) _ B 0 _ (row_list (H.out.later HB.out)) (by rw [listOf_length]; exact hn) (by omega)).mono ?_
    rintro e w9 ⟨rfl, hw9⟩
    obtain rfl := hw9.symm
    rw [HD.out]
    go_wp2
    go_ret
    rw [HQ.out]
    exact ⟨rfl, HB.out⟩
  | true =>
    have HN1 : Hid (∀ k : Nat, k < 10 → inodeB (listOf F n) nx k = false → res = 1) := fun k hk e => hNO (by rw [← hW, range_no hk e]; rfl)
    have HN2 : Hid (∀ j, j < n → noInode ((listOf F n).getD j (0, 0)) = true → res = 1) := fun j hj e => hNO (by rw [← hW, all_no (by rw [listOf_length]; exact hj) e]; simp)
    have HOK : Hid ((∀ k : Nat, k < 10 → inodeB (listOf F n) nx k = true) → (∀ j, j < n → noInode ((listOf F n).getD j (0, 0)) = false) → res = 0) := fun e e2 => hOK (by rw [← hW, range_ok e, all_ok (fun j hj => e2 j (by rwa [listOf_length] at hj))]; rfl)
    clear hW hNO hOK
    go_enter Tryz.func24, Tryz.ntmps24
    go_wp2_with fail
    refine (specPairs_any _ B n F _ H.out hn).mono ?_
    rintro e w1 ⟨rfl, q1⟩
    rw [HF.out.1]
    have HB : Hid (Below w.heap.size w w1) := q1
    clear q1
    go_wp2_with fail
    refine (l11Value_any (listOf F n) _ B 0 _ (row_list (H.out.later HB.out)) (by rw [listOf_length]; exact hn)).mono ?_
    rintro e w9 ⟨rfl, hw9⟩
    obtain rfl := hw9.symm
    rw [HL.out]
    go_wp2_with fail
    refine (l1In_is nx 1 10 _ D1.out _).mono ?_
    rintro e w9 ⟨rfl, hw9⟩
    obtain rfl := hw9.symm
    go_wp2_with fail
    refine (l13Dir_is (listOf F n) _ B 0 _ (row_list (H.out.later HB.out)) (by rw [listOf_length]; exact hn) (by omega)).mono ?_
    rintro e w9 ⟨rfl, hw9⟩
    obtain rfl := hw9.symm
    rw [HD.out]
    have HRW : Hid (Row w1 B 2 n F (.slice ao n cp)) := H.out.later HB.out
    go_wp2
    go_loopw [6] (fun i wr => ∃ k : Nat, k ≤ 10 ∧ i = .int .i64 k ∧ Hid (∀ j : Nat, j < k → inodeB (listOf F n) nx j = true) ∧ wr = w1) (fun i _ => 10 - (intOf i).toNat)
    case atStart => exact ⟨0, Nat.zero_le _, rfl, fun j hj => absurd hj (Nat.not_lt_zero j), rfl⟩
    case round =>
      obtain ⟨k, hk, rfl, HS, rfl⟩ := hrel
      by_cases hlt : k < 10
      · have dk : decide ((k : Int) ≤ 9) = true := decide_eq_true (by omega)
        obtain ⟨q, hq⟩ : ∃ q, inodeB (listOf F n) nx k = q := ⟨_, rfl⟩
        have HI : Hid (inodeB (listOf F n) nx k = q) := hq
        clear hq
        go_wp2_with fail
        refine (l14Inode_is (listOf F n) _ B k nx _ (row_list HRW.out) (by rw [listOf_length]; omega) HKO.out (by omega)).mono ?_
        rintro e w9 ⟨rfl, hw9⟩
        obtain rfl := hw9.symm
        rw [HI.out]
        cases q with
        | false =>
          have HQ : Hid (res = 1) := HN1.out k hlt HI.out
          go_wp2
          go_ret
          rw [HQ.out]
          exact ⟨rfl, HB.out⟩
        | true =>
          have HS2 : Hid (∀ j : Nat, j < k + 1 → inodeB (listOf F n) nx j = true) := fun j hj => by
            rcases Nat.eq_or_lt_of_le (Nat.lt_succ_iff.1 hj) with rfl | qq
            · exact HI.out
            · exact HS.out j qq
          go_wp2
          go_roundw
          case rel => exact ⟨k + 1, by omega, by go_num, HS2, trivial⟩
          case measure => simp [intOf]; omega
      · have dk : decide ((k : Int) ≤ 9) = false := decide_eq_false (by omega)
        have HALL : Hid (∀ j : Nat, j < 10 → inodeB (listOf F n) nx j = true) := fun j hj => HS.out j (by omega)
        clear HS HN1 HD HL D1 HKO
        go_wp2
        go_loopw [7] (fun i wx => ∃ k : Nat, k ≤ n ∧ i = .int .i64 k ∧ Hid (∀ j, j < k → noInode ((listOf F n).getD j (0, 0)) = false) ∧ wx = wr) (fun i _ => n - (intOf i).toNat)
        case atStart => exact ⟨0, Nat.zero_le _, rfl, fun j hj => absurd hj (Nat.not_lt_zero j), rfl⟩
        case round =>
          obtain ⟨k2, hk2, rfl, HS, rfl⟩ := hrel
          by_cases hlt2 : k2 < n
          case neg =>
            have HQ : Hid (res = 0) := HOK.out HALL.out fun j hj => HS.out j (by omega)
            clear HS HOK HALL HN2
            go_wp2
            go_ret
            rw [HQ.out]
            exact ⟨rfl, HB.out⟩
          obtain ⟨g, o, hao, _, hg, y0, y1⟩ := HRW.out.at2 hlt2
          subst hao
          have hgl := listOf_get (F := F) hlt2
          obtain ⟨n0, N0⟩ : ∃ x, F (k2 * 2) = x := ⟨_, rfl⟩
          rw [N0] at y0 hgl
          obtain ⟨n1, N1⟩ : ∃ x, F (k2 * 2 + 1) = x := ⟨_, rfl⟩
          rw [N1] at y1 hgl
          have HFk : Hid (faultOf n0 = 0) := by
            have := pairsF_all HF.out.1 k2 hlt2
            rw [Nat.zero_add] at this
            rw [← N0]
            exact (pairF_zero this).1
          obtain ⟨kk, hkk⟩ : ∃ x, partK n0 = x := ⟨_, rfl⟩
          have HK : Hid (partK n0 = kk) := hkk
          have HON : Hid (noInode (n0, n1) = false → ∀ j, j < k2 + 1 → noInode ((listOf F n).getD j (0, 0)) = false) := fun e j hj => by
            rcases Nat.eq_or_lt_of_le (Nat.lt_succ_iff.1 hj) with rfl | qq
            · rw [hgl]; exact e
            · exact HS.out j qq
          have HNO : Hid (noInode (n0, n1) = true → res = 1) := fun e => HN2.out k2 hlt2 (by rw [hgl]; exact e)
          clear N0 N1 hkk hgl HS
          by_cases h2 : kk = 2
          · subst h2
            by_cases h3 : 0 ≤ n1 ∧ n1 ≤ 9
            · have D2 : Hid (decide (0 ≤ n1 ∧ n1 ≤ 9) = true) := decide_eq_true h3
              have HX : Hid (∀ j, j < k2 + 1 → noInode ((listOf F n).getD j (0, 0)) = false) := HON.out (by unfold noInode; rw [decide_eq_true h3]; simp)
              clear h3 HON HNO
              go_wp2_with fail
              refine (l1Parts_is n0 HFk.out _).mono ?_
              rintro e w9 ⟨rfl, hw9⟩
              obtain rfl := hw9.symm
              rw [HK.out]
              go_wp2_with fail
              refine (inodeS_is _ _ D2.out _).mono ?_
              rintro e w9 ⟨rfl, hw9⟩
              obtain rfl := hw9.symm
              go_wp2
              go_roundw
              case rel => exact ⟨k2 + 1, by omega, by go_num, HX, trivial⟩
              case measure => simp [intOf]; omega
            · have D2 : Hid (decide (0 ≤ n1 ∧ n1 ≤ 9) = false) := decide_eq_false h3
              have HQ : Hid (res = 1) := HNO.out (by unfold noInode; rw [decide_eq_false h3, HK.out]; rfl)
              clear h3 HON HNO
              go_wp2_with fail
              refine (l1Parts_is n0 HFk.out _).mono ?_
              rintro e w9 ⟨rfl, hw9⟩
              obtain rfl := hw9.symm
              rw [HK.out]
              go_wp2_with fail
              refine (inodeS_is _ _ D2.out _).mono ?_
              rintro e w9 ⟨rfl, hw9⟩
              obtain rfl := hw9.symm
              go_wp2
              go_ret
              rw [HQ.out]
              exact ⟨rfl, HB.out⟩
          · have dk2 : (kk == 2) = false := beq_eq_false_iff_ne.2 h2
            have HX : Hid (∀ j, j < k2 + 1 → noInode ((listOf F n).getD j (0, 0)) = false) := HON.out (by unfold noInode; rw [HK.out, beq_eq_false_iff_ne.2 h2]; rfl)
            clear h2 HON HNO
            go_wp2_with fail
            refine (l1Parts_is n0 HFk.out _).mono ?_
            rintro e w9 ⟨rfl, hw9⟩
            obtain rfl := hw9.symm
            rw [HK.out]
            go_wp2
            go_roundw
            case rel => exact ⟨k2 + 1, by omega, by go_num, HX, trivial⟩
            case measure => simp [intOf]; omega
end Go.Proofs.YtnchaccgenfhoaaGreat

namespace Go.Proofs.YtnchaccgenfhoaaGreat
open Go.RowKit

theorem any_no {L : Prs} {p : Int × Int → Bool} (h : ∀ j, j < L.length → p (L.getD j (0, 0)) = false) : L.any p = false := by
  rw [List.any_eq_false]
  intro e he
  obtain ⟨i, hi, rfl⟩ := List.getElem_of_mem he
  have := h i hi
  rw [List.getD_eq_getElem?_getD, List.getElem?_eq_getElem hi] at this
  simpa using this
theorem any_yes {L : Prs} {p : Int × Int → Bool} {j : Nat} (hj : j < L.length) (h : p (L.getD j (0, 0)) = true) : L.any p = true := by
  rw [List.any_eq_true]
  refine ⟨L[j], List.getElem_mem hj, ?_⟩
  rw [List.getD_eq_getElem?_getD, List.getElem?_eq_getElem hj] at h
  simpa using h
theorem nodup_len : ∀ (N : Nat) (xs : List Int), xs.Nodup → (∀ k ∈ xs, 0 ≤ k ∧ k < (N : Int)) → xs.length ≤ N
  | 0, xs, _, h => by
    cases xs with
    | nil => exact Nat.le_refl _
    | cons a t => have := h a (by simp); omega
  | N + 1, xs, hd, h => by
    have h1 : (xs.erase (N : Int)).length ≤ N := nodup_len N _ (hd.erase _) fun k hk => by
      have hne : k ≠ (N : Int) := fun e => by
        rw [e] at hk
        exact (List.Nodup.not_mem_erase hd) hk
      have := h k (List.mem_of_mem_erase hk)
      omega
    have h2 : xs.length ≤ (xs.erase (N : Int)).length + 1 := by rw [List.length_erase]; split <;> omega
    omega
/-- What was read: each key once, and keys alone. -/
def ReadsOk (xs : List Int) : Prop := xs.Nodup ∧ ∀ k ∈ xs, 0 ≤ k ∧ k < ((200 : Nat) : Int)
theorem ReadsOk.nil : ReadsOk [] := ⟨List.nodup_nil, fun k hk => by cases hk⟩
theorem ReadsOk.len {xs : List Int} (h : ReadsOk xs) : xs.length ≤ 200 := nodup_len 200 xs h.1 h.2
theorem ReadsOk.add {xs : List Int} (h : ReadsOk xs) {k : Int} (hk : 0 ≤ k ∧ k ≤ 199) : ReadsOk (addR xs k) := by
  unfold addR
  split
  · exact h
  · rename_i hn
    refine ⟨?_, fun x hx => ?_⟩
    · rw [List.nodup_append]
      refine ⟨h.1, by simp, fun a ha b hb e => ?_⟩
      rw [List.mem_singleton] at hb
      exact hn (by rw [← hb, ← e]; exact ha)
    · rcases List.mem_append.1 hx with q | q
      · exact h.2 x q
      · rw [List.mem_singleton] at q; rw [q]; omega
theorem Off.later {w w' : World} {b mb : Nat} {vr : Value} {k : Nat} (h : Off w b mb vr k) (hs : w.heap.size ≤ w'.heap.size) : Off w' b mb vr k := ⟨Nat.lt_of_lt_of_le h.1 hs, h.2⟩
/-- A list of entries that a looking does not write into. -/
def Lst (w : World) (b mb : Nat) (vz : Value) (K : Prs) (lv : Value) : Prop := Own w 0 100 2 K.length (rowL K) lv ∧ ∀ k, lv.ownBlock = some k → Off w b mb vz k
theorem Lst.later {w w' : World} {b mb : Nat} {vz : Value} {K : Prs} {lv : Value} (h : Lst w b mb vz K lv) (hb : Below w.heap.size w w') : Lst w' b mb vz K lv := ⟨h.1.later hb, fun k hk => (h.2 k hk).later hb.size⟩
theorem Lst.keeps {w w' : World} {b mb : Nat} {vz vy : Value} {K : Prs} {lv : Value} (h : Lst w b mb vz K lv) (hk : Keeps w w' b mb vz vy) : Lst w' b mb vy K lv :=
  ⟨Own.keptT h.1 (fun k hq => (hk.off (h.2 k hq)).2), fun k hq => (hk.off (h.2 k hq)).1⟩
theorem Lst.row {w : World} {b mb : Nat} {vz : Value} {K : Prs} {lv : Value} (h : Lst w b mb vz K lv) : Row w 0 2 K.length (rowL K) lv := (Own.row h.1).1
/-- A view under way: how it is looked at, and its entries. -/
def Hung (w : World) (b rb mb : Nat) (L : Prs) (zs : List Int) (vz lv : Value) : Prop := (Looks w b rb mb L zs vz ∧ ReadsOk zs) ∧ Lst w b mb vz (lnkL L) lv
theorem Hung.later {w w' : World} {b rb mb : Nat} {L : Prs} {zs : List Int} {vz lv : Value} (h : Hung w b rb mb L zs vz lv) (hb : Below w.heap.size w w') : Hung w' b rb mb L zs vz lv := ⟨⟨h.1.1.later hb, h.1.2⟩, h.2.later hb⟩
theorem Hung.new {w : World} {b rb mb : Nat} {L : Prs} {lv : Value} (hl : Looks w b rb mb L [] (.slice none 0 0)) (ho : OwnM w (b + 1) 100 2 lv (lnkL L).length (flatL (lnkL L))) : Hung w b rb mb L [] (.slice none 0 0) lv := by
  have h1 := hl.2.2.2.2
  refine ⟨⟨hl, ReadsOk.nil⟩, (own_eqP (ho.own (flatL_length _)) fun p _ => flatL_get _ p).mono (Nat.zero_le _), fun k hk => ?_⟩
  have := OwnM.block ho k hk
  exact ⟨this.2, by omega, by omega, fun e => by cases e⟩
/-- A list that a call made is none that the looking writes into. -/
theorem Hung.lst {w w' : World} {b rb mb : Nat} {L K : Prs} {zs : List Int} {vz lv mv : Value} (h : Hung w b rb mb L zs vz lv) (ho : OwnM w' w.heap.size 100 2 mv K.length (flatL K)) : Lst w' b mb vz K mv := by
  have h1 := h.1.1.1.lt
  have h2 := h.1.1.2.2.2.2.2
  refine ⟨(own_eqP (ho.own (flatL_length _)) fun p _ => flatL_get _ p).mono (Nat.zero_le _), fun k hk => ?_⟩
  have := OwnM.block ho k hk
  exact ⟨this.2, by omega, by omega, fun e => by have := (h.1.1.2.2.2.1.lt k e).2; omega⟩
/-- The box of a view: it is kept. -/
def Box (w : World) (b mb : Nat) (vz : Value) (hb : Nat) (lv : Value) : Prop := Blk2 w hb (.pointer (some ⟨b, 0, none⟩)) lv ∧ Off w b mb vz hb
theorem Box.later {w w' : World} {b mb hb : Nat} {vz lv : Value} (h : Box w b mb vz hb lv) (hq : Below w.heap.size w w') : Box w' b mb vz hb lv := ⟨h.1.later hq, h.2.later hq.size⟩
theorem Box.keeps {w w' : World} {b mb hb : Nat} {vz vy lv : Value} (h : Box w b mb vz hb lv) (hk : Keeps w w' b mb vz vy) : Box w' b mb vy hb lv := ⟨h.1.kept (hk.off h.2).2, (hk.off h.2).1⟩
theorem Hung.box {w : World} {b rb mb : Nat} {L : Prs} {zs : List Int} {vz lv : Value} (h : Hung w b rb mb L zs vz lv) : Box (w.alloc (.cells #[.pointer (some ⟨b, 0, none⟩), lv] 57)) b mb vz w.heap.size lv := ⟨Blk2.new _ _ _ _, h.1.1.off _⟩
/-- All that stands while a view is asked. -/
def HgS (X0 X : World) (b rb mb hb : Nat) (L : Prs) (vz0 : Value) (zs : List Int) (vz lv : Value) : Prop := Hung X b rb mb L zs vz lv ∧ Box X b mb vz hb lv ∧ Keeps X0 X b mb vz0 vz
theorem HgS.later {X0 X X' : World} {b rb mb hb : Nat} {L : Prs} {vz0 vz lv : Value} {zs : List Int} (h : HgS X0 X b rb mb hb L vz0 zs vz lv) (hq : Below X.heap.size X X') : HgS X0 X' b rb mb hb L vz0 zs vz lv := ⟨h.1.later hq, h.2.1.later hq, h.2.2.trans (Keeps.below _ _ _ hq)⟩
theorem HgS.keeps {X0 X X' : World} {b rb mb hb : Nat} {L : Prs} {vz0 vz vy lv : Value} {zs ys : List Int} (h : HgS X0 X b rb mb hb L vz0 zs vz lv) (hg : Hung X' b rb mb L ys vy lv) (hk : Keeps X X' b mb vz vy) : HgS X0 X' b rb mb hb L vz0 ys vy lv := ⟨hg, h.2.1.keeps hk, h.2.2.trans hk⟩
def LookRes (w : World) (b rb mb : Nat) (L : Prs) (vz lv v : Value) (e : Ending) (w' : World) : Prop := e = .returned v ∧ ∃ ys vy, Hung w' b rb mb L ys vy lv ∧ Keeps w w' b mb vz vy
theorem look_h (L : Prs) (b rb mb : Nat) (zs : List Int) (vz lv : Value) (key : Int) (w : World) (h : Hung w b rb mb L zs vz lv) (hrs : Rises L) (hn : L.length ≤ 800) (hk : 0 ≤ key ∧ key ≤ 199) :
    Calls Tryz.prog 65 #[.pointer (some ⟨b, 0, none⟩), .int .i64 key] w (LookRes w b rb mb L vz lv (.agg #[.bool (lookF L key).1, .int .i64 (lookF L key).2])) := by
  refine (look_is L b rb mb zs vz key w h.1.1 hrs (by omega) hk (by have := h.1.2.len; omega)).mono ?_
  rintro e w' ⟨rfl, vy, hl, hkp⟩
  exact ⟨rfl, _, vy, ⟨⟨hl, h.1.2.add hk⟩, h.2.keeps hkp⟩, hkp⟩
theorem isDir_h (L : Prs) (b rb mb : Nat) (zs : List Int) (vz lv : Value) (a : Int) (w : World) (h : Hung w b rb mb L zs vz lv) (hrs : Rises L) (hn : L.length ≤ 800) (ha : 0 ≤ a ∧ a ≤ 9) :
    Calls Tryz.prog 36 #[.pointer (some ⟨b, 0, none⟩), .int .i64 a] w (LookRes w b rb mb L vz lv (.bool (dirB L a))) := by
  refine (isDir_is L b rb mb zs vz a w h.1.1 hrs (by omega) ha (by have := h.1.2.len; omega)).mono ?_
  rintro e w' ⟨rfl, vy, hl, hkp⟩
  exact ⟨rfl, _, vy, ⟨⟨hl, h.1.2.add (by unfold kI; omega)⟩, h.2.keeps hkp⟩, hkp⟩
/-- Of an entry: is it of no inode? -/
theorem whole1_is (d i : Int) (w : World) :
    Calls Tryz.prog 69 #[.agg #[.int .i64 d, .int .i64 i]] w fun e w' => e = .returned (.bool (!(decide (0 ≤ i ∧ i ≤ 9)))) ∧ Below w.heap.size w w' := by
  have HB : Hid (Below w.heap.size w (w.alloc (.cells #[.int .i64 d, .int .i64 i] 100))) := below_alloc _ _
  obtain ⟨r, hr⟩ : ∃ r, decide (0 ≤ i ∧ i ≤ 9) = r := ⟨_, rfl⟩
  have HR : Hid (decide (0 ≤ i ∧ i ≤ 9) = r) := hr
  rw [hr]
  clear hr
  go_enter Tryz.func69, Tryz.ntmps69
  go_wp2_with fail
  refine (isInodeT_is i r HR.out _).mono ?_
  rintro e w9 ⟨rfl, hw9⟩
  obtain rfl := hw9.symm
  go_wp2
  go_ret
  exact ⟨rfl, HB.out⟩
set_option maxRecDepth 100000 in
set_option maxHeartbeats 1000000 in
theorem indexW_is (K : Prs) (v : Value) (B : Nat) (r : Bool) (hr : (K.any fun l => !(decide (0 ≤ l.2 ∧ l.2 ≤ 9))) = r) (w : World) (h : Row w B 2 K.length (rowL K) v) (hn : K.length ≤ 1000) :
    Calls Tryz.prog 93 #[v, .func (.func 69) #[] #[]] w fun e w' => ∃ z : Int, e = .returned (.int .i64 z) ∧ decide (z ≥ 0) = r ∧ Below w.heap.size w w' := by
  obtain ⟨ao, cp, rfl⟩ := h.form
  have H : Hid (Row w B 2 K.length (rowL K) (.slice ao K.length cp)) := h
  have HR : Hid ((K.any fun l => !(decide (0 ≤ l.2 ∧ l.2 ≤ 9))) = r) := hr
  clear h hr
  go_enter Tryz.func93, Tryz.ntmps93
  go_wp2
  go_loopw [8] (fun i wr => ∃ k : Nat, k ≤ K.length ∧ i = .int .i64 k ∧ Hid (∀ j, j < k → (!(decide (0 ≤ (K.getD j (0, 0)).2 ∧ (K.getD j (0, 0)).2 ≤ 9))) = false) ∧ Hid (Below w.heap.size w wr)) (fun i _ => K.length - (intOf i).toNat)
  case atStart => exact ⟨0, Nat.zero_le _, rfl, fun j hj => absurd hj (Nat.not_lt_zero j), Below.refl _ _⟩
  case round =>
    obtain ⟨k, hk, rfl, HS, HB⟩ := hrel
    by_cases hlt : k < K.length
    case neg =>
      have E : Hid (r = false) := HR.out.symm.trans (any_no fun j hj => HS.out j (by omega))
      clear HS HR
      go_wp2
      go_ret
      exact ⟨-1, rfl, by rw [E.out]; rfl, HB.out⟩
    obtain ⟨g, o, rfl, _, hg, y0, y1⟩ := (H.out.later HB.out).at2 hlt
    rw [rowL_key] at y0
    rw [rowL_val] at y1
    obtain ⟨n0, N0⟩ : ∃ x, (K.getD k (0, 0)).1 = x := ⟨_, rfl⟩
    rw [N0] at y0
    obtain ⟨n1, N1⟩ : ∃ x, (K.getD k (0, 0)).2 = x := ⟨_, rfl⟩
    rw [N1] at y1
    obtain ⟨q, hq⟩ : ∃ q, (!(decide (0 ≤ n1 ∧ n1 ≤ 9))) = q := ⟨_, rfl⟩
    have HQ : Hid ((!(decide (0 ≤ n1 ∧ n1 ≤ 9))) = q) := hq
    have HN : Hid ((K.getD k (0, 0)).2 = n1) := N1
    clear N0 N1 hq
    go_wp2_with fail
    refine (whole1_is n0 n1 _).mono ?_
    rintro e w1 ⟨rfl, q1⟩
    have HB1 : Hid (Below w.heap.size w w1) := HB.out.trans (q1.mono HB.out.size)
    clear q1 y0 y1
    rw [HQ.out]
    cases q with
    | true =>
      have E : Hid (r = true) := HR.out.symm.trans (any_yes hlt (by rw [HN.out]; exact HQ.out))
      clear HR HS
      go_wp2
      go_ret
      exact ⟨k, rfl, by rw [E.out]; exact decide_eq_true (by omega), HB1.out⟩
    | false =>
      have HS2 : Hid (∀ j, j < k + 1 → (!(decide (0 ≤ (K.getD j (0, 0)).2 ∧ (K.getD j (0, 0)).2 ≤ 9))) = false) := fun j hj => by
        rcases Nat.eq_or_lt_of_le (Nat.lt_succ_iff.1 hj) with rfl | qq
        · rw [HN.out]; exact HQ.out
        · exact HS.out j qq
      clear HS
      go_wp2
      go_roundw
      case rel => exact ⟨k + 1, by omega, by go_num, HS2, HB1⟩
      case measure => simp [intOf]; omega
set_option maxHeartbeats 1000000 in
theorem containsW_is (K : Prs) (v : Value) (B : Nat) (r : Bool) (hr : (K.any fun l => !(decide (0 ≤ l.2 ∧ l.2 ≤ 9))) = r) (w : World) (h : Row w B 2 K.length (rowL K) v) (hn : K.length ≤ 1000) :
    Calls Tryz.prog 68 #[v, .func (.func 69) #[] #[]] w fun e w' => e = .returned (.bool r) ∧ Below w.heap.size w w' := by
  obtain ⟨ao, cp, rfl⟩ := h.form
  have H : Hid (Row w B 2 K.length (rowL K) (.slice ao K.length cp)) := h
  have HR : Hid ((K.any fun l => !(decide (0 ≤ l.2 ∧ l.2 ≤ 9))) = r) := hr
  clear h hr
  go_enter Tryz.func68, Tryz.ntmps68
  go_wp2_with fail
  refine (indexW_is K _ B r HR.out _ H.out hn).mono ?_
  rintro e w1 ⟨z, rfl, hz, q1⟩
  have HZ : Hid (decide (z ≥ 0) = r) := hz
  have Q : Hid (Below w.heap.size w w1) := q1
  clear q1 hz
  go_wp2
  go_ret
  exact ⟨by rw [← HZ.out]; first | rfl | (congr 3), Q.out⟩
set_option maxHeartbeats 1000000 in
theorem fileH1_is (L : Prs) (b rb mb hb : Nat) (vz0 : Value) (zs : List Int) (vz lv : Value) (d i : Int) (X0 w : World) (h : HgS X0 w b rb mb hb L vz0 zs vz lv) (hrs : Rises L) (hn : L.length ≤ 800) (hd : 0 ≤ d ∧ d ≤ 9) :
    Calls Tryz.prog 109 #[.agg #[.int .i64 d, .int .i64 i], .pointer (some ⟨hb, 0, none⟩)] w fun e w' => e = .returned (.bool (!(dirB L d))) ∧ ∃ ys vy, HgS X0 w' b rb mb hb L vz0 ys vy lv ∧ Keeps w w' b mb vz vy := by
  have HA : Hid (HgS X0 (w.alloc (.cells #[.int .i64 d, .int .i64 i] 100)) b rb mb hb L vz0 zs vz lv) := h.later (below_alloc _ _)
  have hlt : hb < w.heap.size := h.2.1.2.1
  obtain ⟨⟨x0, x1⟩, z0, z1⟩ := h.2.1.1
  clear h
  go_enter Tryz.func109, Tryz.ntmps109
  go_wp2_with fail
  refine (isDir_h L b rb mb zs vz lv d _ HA.out.1 hrs hn hd).mono ?_
  rintro e w1 ⟨rfl, ys, vy, hg, hk⟩
  have H1 : Hid (HgS X0 w1 b rb mb hb L vz0 ys vy lv ∧ Keeps w w1 b mb vz vy) := ⟨HA.out.keeps hg hk, (Keeps.below b mb vz (below_alloc w _)).trans hk⟩
  clear hg hk HA x0 x1 z0 z1
  go_wp2
  go_ret
  exact ⟨rfl, ys, vy, H1.out⟩
end Go.Proofs.YtnchaccgenfhoaaGreat

namespace Go.Proofs.YtnchaccgenfhoaaGreat
open Go.RowKit

/-- Of a list of entries: those that lie in what is no directory. -/
def anyH (L M : Prs) : Bool := M.any fun l => !(dirB L l.1)
set_option maxRecDepth 100000 in
set_option maxHeartbeats 1000000 in
theorem indexH_is (L M : Prs) (b rb mb hb : Nat) (vz0 : Value) (zs : List Int) (vz lv mv : Value) (r : Bool) (hr : anyH L M = r) (X0 w : World) (h : HgS X0 w b rb mb hb L vz0 zs vz lv) (hm : Lst w b mb vz M mv) (hrs : Rises L) (hn : L.length ≤ 800) (hM : M.length ≤ 1000 ∧ ∀ j, j < M.length → 0 ≤ (M.getD j (0, 0)).1 ∧ (M.getD j (0, 0)).1 ≤ 9) :
    Calls Tryz.prog 93 #[mv, .func (.func 109) #[] #[.pointer (some ⟨hb, 0, none⟩)]] w fun e w' => ∃ z : Int, e = .returned (.int .i64 z) ∧ decide (z ≥ 0) = r ∧ ∃ ys vy, HgS X0 w' b rb mb hb L vz0 ys vy lv ∧ Lst w' b mb vy M mv := by
  obtain ⟨ao, cp, rfl⟩ := hm.row.form
  have HR : Hid (anyH L M = r ∧ Rises L ∧ ∀ j, j < M.length → 0 ≤ (M.getD j (0, 0)).1 ∧ (M.getD j (0, 0)).1 ≤ 9) := ⟨hr, hrs, hM.2⟩
  have hn2 := hM.1
  have H0 : Hid (HgS X0 w b rb mb hb L vz0 zs vz lv ∧ Lst w b mb vz M (.slice ao M.length cp)) := ⟨h, hm⟩
  clear h hr hm hrs hM
  go_enter Tryz.func93, Tryz.ntmps93
  go_wp2
  go_loopw [8] (fun i wr => ∃ k : Nat, k ≤ M.length ∧ i = .int .i64 k ∧ Hid (∀ j, j < k → (!(dirB L (M.getD j (0, 0)).1)) = false) ∧ ∃ ys vy, Hid (HgS X0 wr b rb mb hb L vz0 ys vy lv ∧ Lst wr b mb vy M (.slice ao M.length cp))) (fun i _ => M.length - (intOf i).toNat)
  case atStart => exact ⟨0, Nat.zero_le _, rfl, fun j hj => absurd hj (Nat.not_lt_zero j), zs, vz, H0.out⟩
  case round =>
    obtain ⟨k, hk, rfl, HS, ys, vy, HB⟩ := hrel
    by_cases hlt : k < M.length
    case neg =>
      have E : Hid (r = false) := HR.out.1.symm.trans (any_no fun j hj => HS.out j (by omega))
      clear HS HR
      go_wp2
      go_ret
      exact ⟨-1, rfl, by rw [E.out]; rfl, ys, vy, HB.out⟩
    obtain ⟨g, o, rfl, _, hg, y0, y1⟩ := (HB.out.2.row).at2 hlt
    rw [rowL_key] at y0
    rw [rowL_val] at y1
    obtain ⟨n0, N0⟩ : ∃ x, (M.getD k (0, 0)).1 = x := ⟨_, rfl⟩
    rw [N0] at y0
    obtain ⟨n1, N1⟩ : ∃ x, (M.getD k (0, 0)).2 = x := ⟨_, rfl⟩
    rw [N1] at y1
    have hk9 := HR.out.2.2 k hlt
    rw [N0] at hk9
    obtain ⟨q, hq⟩ : ∃ q, (!(dirB L n0)) = q := ⟨_, rfl⟩
    have HQ : Hid ((!(dirB L n0)) = q) := hq
    have HN : Hid ((M.getD k (0, 0)).1 = n0) := N0
    clear N0 N1 hq
    go_wp2_with fail
    refine (fileH1_is L b rb mb hb vz0 ys vy lv n0 n1 X0 _ HB.out.1 HR.out.2.1 hn hk9).mono ?_
    rintro e w1 ⟨rfl, ys1, vy1, hg1, hk1⟩
    have HB1 : Hid (HgS X0 w1 b rb mb hb L vz0 ys1 vy1 lv ∧ Lst w1 b mb vy1 M (.slice (some ⟨g, o, none⟩) M.length cp)) := ⟨hg1, HB.out.2.keeps hk1⟩
    clear hg1 hk1 y0 y1 HB
    rw [HQ.out]
    cases q with
    | true =>
      have E : Hid (r = true) := HR.out.1.symm.trans (any_yes hlt (by rw [HN.out]; exact HQ.out))
      clear HR HS
      go_wp2
      go_ret
      exact ⟨k, rfl, by rw [E.out]; exact decide_eq_true (by omega), ys1, vy1, HB1.out⟩
    | false =>
      have HS2 : Hid (∀ j, j < k + 1 → (!(dirB L (M.getD j (0, 0)).1)) = false) := fun j hj => by
        rcases Nat.eq_or_lt_of_le (Nat.lt_succ_iff.1 hj) with rfl | qq
        · rw [HN.out]; exact HQ.out
        · exact HS.out j qq
      clear HS
      go_wp2
      go_roundw
      case rel => exact ⟨k + 1, by omega, by go_num, HS2, ys1, vy1, HB1⟩
      case measure => simp [intOf]; omega
set_option maxHeartbeats 1000000 in
theorem containsH_is (L M : Prs) (b rb mb hb : Nat) (vz0 : Value) (zs : List Int) (vz lv mv : Value) (r : Bool) (hr : anyH L M = r) (X0 w : World) (h : HgS X0 w b rb mb hb L vz0 zs vz lv) (hm : Lst w b mb vz M mv) (hrs : Rises L) (hn : L.length ≤ 800) (hM : M.length ≤ 1000 ∧ ∀ j, j < M.length → 0 ≤ (M.getD j (0, 0)).1 ∧ (M.getD j (0, 0)).1 ≤ 9) :
    Calls Tryz.prog 68 #[mv, .func (.func 109) #[] #[.pointer (some ⟨hb, 0, none⟩)]] w fun e w' => e = .returned (.bool r) ∧ ∃ ys vy, HgS X0 w' b rb mb hb L vz0 ys vy lv ∧ Lst w' b mb vy M mv := by
  obtain ⟨ao, cp, rfl⟩ := hm.row.form
  have H0 : Hid (HgS X0 w b rb mb hb L vz0 zs vz lv ∧ Lst w b mb vz M (.slice ao M.length cp) ∧ anyH L M = r ∧ Rises L ∧ (M.length ≤ 1000 ∧ ∀ j, j < M.length → 0 ≤ (M.getD j (0, 0)).1 ∧ (M.getD j (0, 0)).1 ≤ 9)) := ⟨h, hm, hr, hrs, hM⟩
  clear h hr hm hrs hM
  go_enter Tryz.func68, Tryz.ntmps68
  go_wp2_with fail
  refine (indexH_is L M b rb mb hb vz0 zs vz lv _ r H0.out.2.2.1 X0 _ H0.out.1 H0.out.2.1 H0.out.2.2.2.1 hn H0.out.2.2.2.2).mono ?_
  rintro e w1 ⟨z, rfl, hz, ys, vy, q1⟩
  have HZ : Hid (decide (z ≥ 0) = r) := hz
  have Q : Hid (HgS X0 w1 b rb mb hb L vz0 ys vy lv ∧ Lst w1 b mb vy M (.slice ao M.length cp)) := q1
  clear q1 hz
  go_wp2
  go_ret
  exact ⟨by rw [← HZ.out]; first | rfl | (congr 3), ys, vy, Q.out⟩
/-- Does a file hang as it must? -/
def fileR (L M : Prs) (z : Int) : Bool := !(((M.length : Nat) : Int) == 0) && ((z == 2000 + ((M.length : Nat) : Int)) && !(anyH L M))
set_option maxRecDepth 100000 in
set_option maxHeartbeats 2000000 in
theorem fileHangs_is (L M : Prs) (b rb mb : Nat) (zs : List Int) (vz lv mv : Value) (z : Int) (w : World) (h : Hung w b rb mb L zs vz lv) (hm : Lst w b mb vz M mv) (hrs : Rises L) (hn : L.length ≤ 800) (hz : 0 ≤ z ∧ z ≤ 9999) (hM : M.length ≤ 1000 ∧ ∀ j, j < M.length → 0 ≤ (M.getD j (0, 0)).1 ∧ (M.getD j (0, 0)).1 ≤ 9) :
    Calls Tryz.prog 92 #[.agg #[.pointer (some ⟨b, 0, none⟩), lv], .int .i64 z, mv] w (LookRes w b rb mb L vz lv (.bool (fileR L M z))) := by
  obtain ⟨ao, cp, rfl⟩ := hm.row.form
  obtain ⟨lo, lc, rfl⟩ := h.2.row.form
  have HA : Hid (HgS (w.alloc (.cells #[.pointer (some ⟨b, 0, none⟩), .slice lo (lnkL L).length lc] 57)) (w.alloc (.cells #[.pointer (some ⟨b, 0, none⟩), .slice lo (lnkL L).length lc] 57)) b rb mb w.heap.size L vz zs vz (.slice lo (lnkL L).length lc) ∧ Lst (w.alloc (.cells #[.pointer (some ⟨b, 0, none⟩), .slice lo (lnkL L).length lc] 57)) b mb vz M (.slice ao M.length cp)) := ⟨⟨h.later (below_alloc _ _), h.box, Keeps.below _ _ _ (Below.refl _ _)⟩, hm.later (below_alloc _ _)⟩
  obtain ⟨c, hc⟩ : ∃ c : Nat, M.length = c := ⟨_, rfl⟩
  have hc2 : c ≤ 1000 := by rw [← hc]; exact hM.1
  have HM : Hid (Rises L ∧ (M.length ≤ 1000 ∧ ∀ j, j < M.length → 0 ≤ (M.getD j (0, 0)).1 ∧ (M.getD j (0, 0)).1 ≤ 9)) := ⟨hrs, hM⟩
  have HC : Hid (M.length = c) := hc
  obtain ⟨res, hres⟩ : ∃ res, fileR L M z = res := ⟨_, rfl⟩
  have hR : (!((c : Int) == 0) && ((z == 2000 + (c : Int)) && !(anyH L M))) = res := by rw [← hres, ← hc]; rfl
  have HQ0 : Hid (fileR L M z = res) := hres
  rw [hres]
  rw [hc] at HA ⊢
  clear h hm hrs hM hc hres
  by_cases h0 : c = 0
  · subst h0
    have HQ : Hid (res = false) := by unfold Hid; rw [← hR]; rfl
    clear hR
    go_enter Tryz.func92, Tryz.ntmps92
    go_wp2_with fail
    refine (countLinks_is ao _ cp (by omega) _).mono ?_
    rintro e w9 ⟨rfl, hw9⟩
    obtain rfl := hw9.symm
    go_wp2
    go_ret
    exact ⟨by rw [HQ.out]; rfl, _, _, HA.out.1.1, (Keeps.below b mb vz (below_alloc w _)).trans HA.out.1.2.2⟩
  have d0 : ((c : Int) == 0) = false := beq_eq_false_iff_ne.2 (by omega)
  by_cases h1 : z = 2000 + (c : Int)
  · have d1 : (z != 2000 + (c : Int)) = false := by simp [h1]
    obtain ⟨q, hq⟩ : ∃ q, anyH L M = q := ⟨_, rfl⟩
    have HQ : Hid (res = !q) := by unfold Hid; rw [← hR, d0, hq, beq_iff_eq.2 h1]; rfl
    have HQ1 : Hid (anyH L M = q) := hq
    clear hR hq h1 h0
    go_enter Tryz.func92, Tryz.ntmps92
    go_wp2_with fail
    refine (countLinks_is ao _ cp (by omega) _).mono ?_
    rintro e w9 ⟨rfl, hw9⟩
    obtain rfl := hw9.symm
    go_wp2_with fail
    have HA2 := HA.out.2
    rw [← HC.out] at HA2 ⊢
    refine (containsH_is L M b rb mb w.heap.size vz zs vz _ _ q HQ1.out _ _ HA.out.1 HA2 HM.out.1 hn HM.out.2).mono ?_
    rintro e w1 ⟨rfl, ys, vy, hg, _⟩
    have HB : Hid (HgS (w.alloc (.cells #[.pointer (some ⟨b, 0, none⟩), .slice lo (lnkL L).length lc] 57)) w1 b rb mb w.heap.size L vz ys vy (.slice lo (lnkL L).length lc)) := hg
    clear hg HA HA2
    go_wp2
    go_ret
    exact ⟨by rw [HQ.out]; rfl, ys, vy, HB.out.1, (Keeps.below b mb vz (below_alloc w _)).trans HB.out.2.2⟩
  · have d1 : (z != 2000 + (c : Int)) = true := bne_iff_ne.2 h1
    have HQ : Hid (res = false) := by unfold Hid; rw [← hR, d0, beq_eq_false_iff_ne.2 h1]; rfl
    clear hR h1 h0
    go_enter Tryz.func92, Tryz.ntmps92
    go_wp2_with fail
    refine (countLinks_is ao _ cp (by omega) _).mono ?_
    rintro e w9 ⟨rfl, hw9⟩
    obtain rfl := hw9.symm
    go_wp2
    go_ret
    exact ⟨by rw [HQ.out]; rfl, _, _, HA.out.1.1, (Keeps.below b mb vz (below_alloc w _)).trans HA.out.1.2.2⟩
end Go.Proofs.YtnchaccgenfhoaaGreat

namespace Go.Proofs.YtnchaccgenfhoaaGreat
open Go.RowKit

/-- Does a directory hang as it must? -/
def dirR (L M : Prs) (a : Int) : Bool := if a = 0 then M.length == 0 else (M.length == 1 && (decide ((M.getD 0 (0, 0)).1 < a) && dirB L (M.getD 0 (0, 0)).1))
theorem below_drewT (X : World) : Below X.heap.size X X.drew := ⟨rfl, rfl, rfl, Nat.le_refl _, fun _ _ => rfl⟩
set_option maxRecDepth 100000 in
set_option maxHeartbeats 2000000 in
theorem dirHangs_is (L M : Prs) (b rb mb : Nat) (zs : List Int) (vz lv mv : Value) (a : Int) (w : World) (h : Hung w b rb mb L zs vz lv) (hm : Lst w b mb vz M mv) (hrs : Rises L) (hn : L.length ≤ 800) (hM : M.length ≤ 1000 ∧ ∀ j, j < M.length → 0 ≤ (M.getD j (0, 0)).1 ∧ (M.getD j (0, 0)).1 ≤ 9) :
    Calls Tryz.prog 91 #[.agg #[.pointer (some ⟨b, 0, none⟩), lv], .int .i64 a, mv] w (LookRes w b rb mb L vz lv (.bool (dirR L M a))) := by
  obtain ⟨ao, cp, rfl⟩ := hm.row.form
  obtain ⟨lo, lc, rfl⟩ := h.2.row.form
  have HA : Hid (HgS (w.alloc (.cells #[.pointer (some ⟨b, 0, none⟩), .slice lo (lnkL L).length lc] 57)) (w.alloc (.cells #[.pointer (some ⟨b, 0, none⟩), .slice lo (lnkL L).length lc] 57)) b rb mb w.heap.size L vz zs vz (.slice lo (lnkL L).length lc) ∧ Lst (w.alloc (.cells #[.pointer (some ⟨b, 0, none⟩), .slice lo (lnkL L).length lc] 57)) b mb vz M (.slice ao M.length cp)) := ⟨⟨h.later (below_alloc _ _), h.box, Keeps.below _ _ _ (Below.refl _ _)⟩, hm.later (below_alloc _ _)⟩
  have HM : Hid (Rises L ∧ (M.length ≤ 1000 ∧ ∀ j, j < M.length → 0 ≤ (M.getD j (0, 0)).1 ∧ (M.getD j (0, 0)).1 ≤ 9)) := ⟨hrs, hM⟩
  obtain ⟨c, hc⟩ : ∃ c : Nat, M.length = c := ⟨_, rfl⟩
  have hc2 : c ≤ 1000 := by rw [← hc]; exact hM.1
  have HC : Hid (M.length = c) := hc
  obtain ⟨res, hres⟩ : ∃ res, dirR L M a = res := ⟨_, rfl⟩
  have hR : (if a = 0 then c == 0 else (c == 1 && (decide ((M.getD 0 (0, 0)).1 < a) && dirB L (M.getD 0 (0, 0)).1))) = res := by rw [← hres, ← hc]; rfl
  rw [hres]
  rw [hc] at HA ⊢
  clear h hm hrs hM hc hres
  by_cases ha : a = 0
  · subst ha
    obtain ⟨q, hq⟩ : ∃ q, ((c : Int) == 0) = q := ⟨_, rfl⟩
    have HQ : Hid (res = q) := by
      unfold Hid
      rw [← hR, if_pos rfl, ← hq]
      by_cases h : c = 0
      · subst h; rfl
      · rw [beq_eq_false_iff_ne.2 h, beq_eq_false_iff_ne.2 (show (c : Int) ≠ 0 by omega)]
    clear hR
    go_enter Tryz.func91, Tryz.ntmps91
    go_wp2_with fail
    refine (countLinks_is ao _ cp (by omega) _).mono ?_
    rintro e w9 ⟨rfl, hw9⟩
    obtain rfl := hw9.symm
    go_wp2
    go_ret
    exact ⟨by rw [HQ.out]; rfl, _, _, HA.out.1.1, (Keeps.below b mb vz (below_alloc w _)).trans HA.out.1.2.2⟩
  have da : (a == 0) = false := beq_eq_false_iff_ne.2 ha
  rw [if_neg ha] at hR
  by_cases h1 : c = 1
  case neg =>
    have d1 : ((c : Int) == 1) = false := beq_eq_false_iff_ne.2 (by omega)
    have HQ : Hid (res = false) := by unfold Hid; rw [← hR, beq_eq_false_iff_ne.2 h1]; rfl
    clear hR h1 ha
    go_enter Tryz.func91, Tryz.ntmps91
    go_wp2_with fail
    go_quiet (first | (go_at_call 38; refine Calls.quiet_of_same (countLinks_is ao _ cp (by omega) _)))
    have HA2 : Hid (HgS (w.alloc (.cells #[.pointer (some ⟨b, 0, none⟩), .slice lo (lnkL L).length lc] 57)) ((w.alloc (.cells #[.pointer (some ⟨b, 0, none⟩), .slice lo (lnkL L).length lc] 57)).drewN nq) b rb mb w.heap.size L vz zs vz (.slice lo (lnkL L).length lc)) := HA.out.1.later ⟨rfl, rfl, rfl, Nat.le_refl _, fun _ _ => rfl⟩
    clear HA
    go_wp2
    go_ret
    exact ⟨by rw [HQ.out]; rfl, _, _, HA2.out.1, (Keeps.below b mb vz (below_alloc w _)).trans HA2.out.2.2⟩
  subst h1
  have hrow := HA.out.2.row
  rw [HC.out] at hrow
  obtain ⟨g, o, rfl, _, hg, y0, y1⟩ := hrow.at2 Nat.zero_lt_one
  clear hrow
  rw [rowL_key] at y0
  clear y1
  obtain ⟨n0, N0⟩ : ∃ x, (M.getD 0 (0, 0)).1 = x := ⟨_, rfl⟩
  rw [N0] at y0 hR
  have hk9 := HM.out.2.2 0 (by rw [HC.out]; exact Nat.zero_lt_one)
  rw [N0] at hk9
  obtain ⟨⟨x0, x1⟩, z0, z1⟩ := HA.out.1.2.1.1
  have y0' : (w.alloc (.cells #[.pointer (some ⟨b, 0, none⟩), .slice lo (lnkL L).length lc] 57)).cell? ⟨g, o, none⟩ = some (.int .i64 n0) := by simpa using y0
  clear y0
  by_cases h2 : n0 < a
  case neg =>
    have d2 : decide (n0 < a) = false := decide_eq_false h2
    have HQ : Hid (res = false) := by unfold Hid; rw [← hR, decide_eq_false h2]; rfl
    clear hR h2 ha N0
    go_enter Tryz.func91, Tryz.ntmps91
    go_wp2_with fail
    go_quiet (first | (go_at_call 38; refine Calls.quiet_of_same (countLinks_is (some ⟨g, o, none⟩) 1 cp (by omega) _)))
    have HA2 : Hid (HgS (w.alloc (.cells #[.pointer (some ⟨b, 0, none⟩), .slice lo (lnkL L).length lc] 57)) ((w.alloc (.cells #[.pointer (some ⟨b, 0, none⟩), .slice lo (lnkL L).length lc] 57)).drewN nq) b rb mb w.heap.size L vz zs vz (.slice lo (lnkL L).length lc)) := HA.out.1.later ⟨rfl, rfl, rfl, Nat.le_refl _, fun _ _ => rfl⟩
    clear HA x0 x1 z0 z1 y0'
    go_wp2
    go_ret
    exact ⟨by rw [HQ.out]; rfl, _, _, HA2.out.1, (Keeps.below b mb vz (below_alloc w _)).trans HA2.out.2.2⟩
  have d2 : decide (n0 < a) = true := decide_eq_true h2
  obtain ⟨q, hq⟩ : ∃ q, dirB L n0 = q := ⟨_, rfl⟩
  have HD : Hid (dirB L n0 = q) := hq
  have HQ : Hid (res = q) := by unfold Hid; rw [← hR, decide_eq_true h2, hq]; rfl
  clear hR h2 ha N0 hq
  go_enter Tryz.func91, Tryz.ntmps91
  go_upto_region 3 with fail
  have HKw : Hid (Keeps w (w.alloc (.cells #[.pointer (some ⟨b, 0, none⟩), .slice lo (lnkL L).length lc] 57)) b mb vz vz) := Keeps.below b mb vz (below_alloc w _)
  generalize w.alloc (.cells #[.pointer (some ⟨b, 0, none⟩), .slice lo (lnkL L).length lc] 57) = X0 at HA HKw x0 x1 z0 z1 y0' hg ⊢
  refine wp_region_held_drew (S := fun X => X.cell? ⟨w.heap.size, 0, none⟩ = some (.pointer (some ⟨b, 0, none⟩)) ∧ X.cell? ⟨g, o, none⟩ = some (.int .i64 n0)) (by kernel_rfl) ⟨x0, y0'⟩ (fun hS => ?_)
  refine tkH 0 ?_ hS (fun wx hx => ?_) ?_; rotate_left
  · obtain ⟨hx0, hx1⟩ := hx; go_simp; try with_reducible rfl
  refine rdH 1 (fun K hK => ?_)
  go_simp
  go_wp2_with fail
  refine (countLinks_is (some ⟨g, o, none⟩) 1 cp (by omega) _).mono ?_
  rintro e w9 ⟨rfl, hw9⟩
  obtain rfl := hw9.symm
  go_wp2_with fail
  refine hK.out _ _ hS (fun hS => ?_)
  clear hK K
  refine tkH 2 ?_ hS (fun wx hx => ?_) ?_; rotate_left
  · obtain ⟨hx0, hx1⟩ := hx; go_simp; try with_reducible rfl
  refine tkH 3 ?_ hS (fun wx hx => ?_) ?_; rotate_left
  · obtain ⟨hx0, hx1⟩ := hx; go_simp; try with_reducible rfl
  refine tkH 4 ?_ hS (fun wx hx => ?_) ?_; rotate_left
  · obtain ⟨hx0, hx1⟩ := hx; go_simp; try with_reducible rfl
  refine tkH 5 ?_ hS (fun wx hx => ?_) ?_; rotate_left
  · obtain ⟨hx0, hx1⟩ := hx; go_simp; try with_reducible rfl
  refine tkH 6 ?_ hS (fun wx hx => ?_) ?_; rotate_left
  · obtain ⟨hx0, hx1⟩ := hx; go_simp; try with_reducible rfl
  refine tkH 7 ?_ hS (fun wx hx => ?_) ?_; rotate_left
  · obtain ⟨hx0, hx1⟩ := hx; go_simp; try with_reducible rfl
  refine tkH 8 ?_ hS (fun wx hx => ?_) ?_; rotate_left
  · obtain ⟨hx0, hx1⟩ := hx; go_simp; try with_reducible rfl
  refine tkH 9 ?_ hS (fun wx hx => ?_) ?_; rotate_left
  · obtain ⟨hx0, hx1⟩ := hx; go_simp; try with_reducible rfl
  refine tkH 10 ?_ hS (fun wx hx => ?_) ?_; rotate_left
  · obtain ⟨hx0, hx1⟩ := hx; go_simp; try with_reducible rfl
  refine tkH 11 ?_ hS (fun wx hx => ?_) ?_; rotate_left
  · obtain ⟨hx0, hx1⟩ := hx; go_simp; try with_reducible rfl
  refine tkH 12 ?_ hS (fun wx hx => ?_) ?_; rotate_left
  · obtain ⟨hx0, hx1⟩ := hx; go_simp; try with_reducible rfl
  refine tkH 13 ?_ hS (fun wx hx => ?_) ?_; rotate_left
  · obtain ⟨hx0, hx1⟩ := hx; go_simp; try with_reducible rfl
  refine tkH 14 ?_ hS (fun wx hx => ?_) ?_; rotate_left
  · obtain ⟨hx0, hx1⟩ := hx; go_simp; try with_reducible rfl
  refine tkH 15 ?_ hS (fun wx hx => ?_) ?_; rotate_left
  · obtain ⟨hx0, hx1⟩ := hx; go_simp; try with_reducible rfl
  refine tkH 16 ?_ hS (fun wx hx => ?_) ?_; rotate_left
  · obtain ⟨hx0, hx1⟩ := hx; go_simp; try with_reducible rfl
  refine tkH 17 ?_ hS (fun wx hx => ?_) ?_; rotate_left
  · obtain ⟨hx0, hx1⟩ := hx; go_simp; try with_reducible rfl
  try simp only [Act.put, List.getElem_toArray, List.getElem_cons_zero, List.getElem_cons_succ, List.setIfInBounds_toArray, List.set_cons_succ, List.set_cons_zero]
  refine rdH 18 (fun K hK => ?_)
  go_simp
  go_wp2_with fail
  refine (isDir_h L b rb mb zs vz _ n0 _ (HA.out.1.1.later (below_drewT _)) HM.out.1 hn hk9).mono ?_
  rintro e w1 ⟨rfl, ys, vy, hg1, hk1⟩
  rw [HD.out]
  have HB : Hid (HgS X0 w1 b rb mb w.heap.size L vz ys vy (.slice lo (lnkL L).length lc)) := (HA.out.1.later (below_drewT _)).keeps hg1 hk1
  have HL1 := (HA.out.2.later (below_drewT _)).keeps hk1
  have S1 : w1.cell? ⟨w.heap.size, 0, none⟩ = some (.pointer (some ⟨b, 0, none⟩)) ∧ w1.cell? ⟨g, o, none⟩ = some (.int .i64 n0) := by
    refine ⟨HB.out.2.1.1.1.1, ?_⟩
    have e1 := (hk1.off ((HA.out.2.later (below_drewT _)).2 g rfl)).2
    exact (World.cell?_of_block (w := X0) (a := ⟨g, o, none⟩) e1).trans y0'
  clear hg1 hk1 HL1
  go_wp2_with fail
  refine hK.out _ _ S1 (fun hS => ?_)
  clear hK K
  refine tkH 19 ?_ hS (fun wx hx => ?_) ?_; rotate_left
  · obtain ⟨hx0, hx1⟩ := hx; go_simp; try with_reducible rfl
  refine tkH 20 ?_ hS (fun wx hx => ?_) ?_; rotate_left
  · obtain ⟨hx0, hx1⟩ := hx; go_simp; try with_reducible rfl
  refine wpAnyH_done (by kernel_rfl) ?_ _
  go_simp
  go_wp2
  go_ret
  exact ⟨by rw [HQ.out]; rfl, ys, vy, HB.out.1, HKw.out.trans HB.out.2.2⟩
end Go.Proofs.YtnchaccgenfhoaaGreat

namespace Go.Proofs.YtnchaccgenfhoaaGreat
open Go.RowKit

abbrev zeroS : Obj := .cells #[.bool false, .int .i64 0] 102
/-- The box of what was seen. -/
def Sgt (X : World) (b mb : Nat) (vz : Value) (A : Nat) (r : Bool) (z : Int) : Prop := Blk2 X A (.bool r) (.int .i64 z) ∧ Off X b mb vz A ∧ b < A
theorem Sgt.later {X X' : World} {b mb A : Nat} {vz : Value} {r : Bool} {z : Int} (h : Sgt X b mb vz A r z) (hq : Below X.heap.size X X') : Sgt X' b mb vz A r z := ⟨h.1.later hq, h.2.1.later hq.size, h.2.2⟩
theorem Sgt.keeps {X X' : World} {b mb A : Nat} {vz vy : Value} {r : Bool} {z : Int} (h : Sgt X b mb vz A r z) (hk : Keeps X X' b mb vz vy) : Sgt X' b mb vy A r z := ⟨h.1.kept (hk.off h.2.1).2, (hk.off h.2.1).1, h.2.2⟩
theorem Sgt.lt {X : World} {b mb A : Nat} {vz : Value} {r : Bool} {z : Int} (h : Sgt X b mb vz A r z) : A < X.heap.size := h.2.1.1
theorem Sgt.put {X : World} {b mb A : Nat} {vz : Value} {r : Bool} {z : Int} (h : Sgt X b mb vz A r z) (r' : Bool) (z' : Int) : Sgt ((X.setCell ⟨A, 0, none⟩ (.bool r')).setCell ⟨A, 1, none⟩ (.int .i64 z')) b mb vz A r' z' := by
  obtain ⟨⟨⟨h0, h1⟩, f0, f1⟩, ho, hb⟩ := h
  refine ⟨⟨?_, by simpa using f0, by simpa using f1⟩, ho.later (by simp), hb⟩
  exact (Blk2.put (x := X) (b := A) ⟨⟨h0, h1⟩, f0, f1⟩ (.bool r') (.int .i64 z')).1
/-- A block that neither the view's box nor its entries lie in. -/
def NB (X0 : World) (hb : Nat) (lv : Value) (A : Nat) : Prop := hb ≠ A ∧ (∀ k, lv.ownBlock = some k → k ≠ A) ∧ X0.heap.size ≤ A
theorem HgS.nb {X0 X : World} {b rb mb hb : Nat} {L : Prs} {vz0 vz lv : Value} {zs : List Int} (h : HgS X0 X b rb mb hb L vz0 zs vz lv) : NB X0 hb lv X.heap.size := ⟨Nat.ne_of_lt h.2.1.2.1, fun k hk => Nat.ne_of_lt (h.1.2.2 k hk).1, h.2.2.2.1⟩
theorem Sgt.keepsPut {X0 X : World} {b rb mb hb A : Nat} {L : Prs} {vz0 vz lv : Value} {zs : List Int} {r : Bool} {z : Int} (h : Sgt X b mb vz A r z) (hg : HgS X0 X b rb mb hb L vz0 zs vz lv) (hN : NB X0 hb lv A) (r' : Bool) (z' : Int) :
    HgS X0 ((X.setCell ⟨A, 0, none⟩ (.bool r')).setCell ⟨A, 1, none⟩ (.int .i64 z')) b rb mb hb L vz0 zs vz lv := by
  have ks : ∀ k, k ≠ A → ((X.setCell ⟨A, 0, none⟩ (.bool r')).setCell ⟨A, 1, none⟩ (.int .i64 z')).heap[k]? = X.heap[k]? := fun k hk => (Below.heap_setCell _ ⟨A, 1, none⟩ _ k hk).trans (Below.heap_setCell _ ⟨A, 0, none⟩ _ k hk)
  have sz : ((X.setCell ⟨A, 0, none⟩ (.bool r')).setCell ⟨A, 1, none⟩ (.int .i64 z')).heap.size = X.heap.size := by simp
  obtain ⟨⟨⟨h1, h2⟩, h3⟩, h4, h5⟩ := hg
  refine ⟨⟨⟨h1.grew (u := .slice (some ⟨A, 0, none⟩) 0 0) (B := A) (fun k hk => Nat.le_of_eq (Option.some.inj hk)) h.2.2 (fun k hk e => h.2.1.2.2.2 (by rw [hk, ← Option.some.inj e])) (fun k _ hk => ks k (fun e => hk (by rw [e]; rfl))), h2⟩, ?_⟩, ?_, ?_⟩
  · exact ⟨Own.keptT h3.1 (fun k hk => ks k (hN.2.1 k hk)), fun k hk => (h3.2 k hk).later (Nat.le_of_eq sz.symm)⟩
  · exact ⟨h4.1.kept (ks hb hN.1), h4.2.later (Nat.le_of_eq sz.symm)⟩
  · exact ⟨h5.1, by rw [sz]; exact h5.2.1, fun k hk g1 g2 g3 => (ks k (by have := hN.2.2; omega)).trans (h5.2.2.1 k hk g1 g2 g3), h5.2.2.2⟩
/-- Does an inode hang together? As the program asks it. -/
def hangsR (L M : Prs) (r : Bool) (z : Int) (s : Bool) (nx a : Int) : Bool :=
  if r = false then ((((M.length : Nat) : Int) == 0) && !s) else if a ≥ nx then false else if z = 1000 then (!s && dirR L M a) else fileR L M z
theorem toL_in {L : Prs} {a : Int} : ∀ j, j < (toL (lnkL L) a).length → 0 ≤ ((toL (lnkL L) a).getD j (0, 0)).1 ∧ ((toL (lnkL L) a).getD j (0, 0)).1 ≤ 9 := by
  have key : ∀ (M : Prs) (e : Int × Int), e ∈ lnkL M → 0 ≤ e.1 ∧ e.1 ≤ 9 := by
    intro M
    induction M with
    | nil => intro e he; cases he
    | cons x t ih =>
      intro e he
      rw [lnkL] at he
      rcases List.mem_append.1 he with q | q
      · split at q
        · rename_i hk
          rw [List.mem_singleton] at q
          rw [q]
          exact partA_in hk
        · cases q
      · exact ih e q
  intro j hj
  rw [List.getD_eq_getElem?_getD, List.getElem?_eq_getElem hj]
  exact key L _ (List.mem_filter.1 (List.getElem_mem hj)).1
set_option maxRecDepth 100000 in
set_option maxHeartbeats 4000000 in
theorem hangs_is (L : Prs) (b rb mb : Nat) (zs : List Int) (vz lv : Value) (a nx : Int) (w : World) (r : Bool) (z : Int) (s : Bool) (sz : Int) (h : Hung w b rb mb L zs vz lv) (hrs : Rises L) (hn : L.length ≤ 800) (ha : 0 ≤ a ∧ a ≤ 9) (ht : lookF L (kI a) = (r, z)) (hu : lookF L (kB a) = (s, sz)) (hz : 0 ≤ z ∧ z ≤ 9999) :
    Calls Tryz.prog 67 #[.agg #[.pointer (some ⟨b, 0, none⟩), lv], .int .i64 a, .int .i64 nx] w (LookRes w b rb mb L vz lv (.bool (hangsR L (toL (lnkL L) a) r z s nx a))) := by
  obtain ⟨lo, lc, rfl⟩ := h.2.row.form
  have HG : Hid (HgS (w.alloc (.cells #[.pointer (some ⟨b, 0, none⟩), .slice lo (lnkL L).length lc] 57)) (w.alloc (.cells #[.pointer (some ⟨b, 0, none⟩), .slice lo (lnkL L).length lc] 57)) b rb mb w.heap.size L vz zs vz (.slice lo (lnkL L).length lc)) := ⟨h.later (below_alloc _ _), h.box, Keeps.below _ _ _ (Below.refl _ _)⟩
  have HKw : Hid (Keeps w (w.alloc (.cells #[.pointer (some ⟨b, 0, none⟩), .slice lo (lnkL L).length lc] 57)) b mb vz vz) := Keeps.below b mb vz (below_alloc w _)
  have H : Hid (Rises L ∧ (0 ≤ a ∧ a ≤ 9) ∧ (0 ≤ z ∧ z ≤ 9999)) := ⟨hrs, ha, hz⟩
  have HV : Hid (lookF L (kI a) = (r, z) ∧ lookF L (kB a) = (s, sz)) := ⟨ht, hu⟩
  have fs0 := fun h v w => field_sight0 h v w
  obtain ⟨res, hres⟩ : ∃ res, hangsR L (toL (lnkL L) a) r z s nx a = res := ⟨_, rfl⟩
  have HR : Hid (hangsR L (toL (lnkL L) a) r z s nx a = res) := hres
  have hlk := lnkL_len L
  rw [hres]
  clear h hrs ha ht hu hres hz
  go_enter Tryz.func67, Tryz.ntmps67
  go_upto_region 1 with fail
  generalize w.alloc (.cells #[.pointer (some ⟨b, 0, none⟩), .slice lo (lnkL L).length lc] 57) = X0 at HG HKw ⊢
  go_cut [7, 8] (fun p q wx => ∃ A ys vy, p = .pointer (some ⟨A, 0, none⟩) ∧ q = .bool s ∧ Hid (HgS X0 wx b rb mb w.heap.size L vz ys vy (.slice lo (lnkL L).length lc)) ∧ Hid (Sgt wx b mb vy A r z))
  case first =>
    refine wp_region_held_drew (S := fun X => X.cell? ⟨w.heap.size, 0, none⟩ = some (.pointer (some ⟨b, 0, none⟩))) (by kernel_rfl) HG.out.2.1.1.1.1 (fun hS => ?_)
    have HG1 : Hid (HgS X0 X0.drew b rb mb w.heap.size L vz zs vz (.slice lo (lnkL L).length lc)) := HG.out.later (below_drewT _)
    clear HG
    have HG := HG1
    clear HG1
    generalize X0.drew = z0 at hS HG ⊢
    refine tkH 0 ?_ hS (fun wx hx => ?_) ?_; rotate_left
    · go_simp; try with_reducible rfl
    refine tkH 1 ?_ hS (fun wx hx => ?_) ?_; rotate_left
    · go_simp; try with_reducible rfl
    refine tkH 2 ?_ hS (fun wx hx => ?_) ?_; rotate_left
    · go_simp; try with_reducible rfl
    refine tkH 5 ?_ hS (fun wx hx => ?_) ?_; rotate_left
    · go_simp; try with_reducible rfl
    refine tkH 6 ?_ hS (fun wx hx => ?_) ?_; rotate_left
    · go_simp; try with_reducible rfl
    refine tkH 7 ?_ hS (fun wx hx => ?_) ?_; rotate_left
    · go_simp; try with_reducible rfl
    refine wpAnyH_ready (rs := [3, 11]) (by kernel_rfl) (by simp) ?_
    refine AllReadyH.cons rfl (fun K hK => ?_) (AllReadyH.cons rfl (fun K hK => ?_) AllReadyH.nil)
    · go_simp
      go_wp2_with fail
      refine (inodeKey_is a H.out.2.1 _).mono ?_
      rintro e z1 ⟨rfl, q⟩
      have HG1 : Hid (HgS X0 z1 b rb mb w.heap.size L vz zs vz (.slice lo (lnkL L).length lc)) := HG.out.later q
      have hS1 : z1.cell? ⟨w.heap.size, 0, none⟩ = some (.pointer (some ⟨b, 0, none⟩)) := HG1.out.2.1.1.1.1
      clear q HG hS
      have HG := HG1
      clear HG1
      go_wp2_with fail
      refine hK.out _ _ hS1 (fun hS => ?_)
      clear hK K
      clear hS1
      refine wpAnyH_ready (rs := [4, 11]) (by kernel_rfl) (by simp) ?_
      refine AllReadyH.cons rfl (fun K hK => ?_) (AllReadyH.cons rfl (fun K hK => ?_) AllReadyH.nil)
      · go_simp
        go_wp2_with fail
        refine (look_h L b rb mb zs vz _ (kI a) _ HG.out.1 H.out.1 hn (by have := H.out.2.1; first | (unfold kI; omega) | (unfold kB; omega))).mono ?_
        rintro e z2 ⟨rfl, ys3, vy4, hg, hk⟩
        rw [HV.out.1]
        have HG1 : Hid (HgS X0 z2 b rb mb w.heap.size L vz ys3 vy4 (.slice lo (lnkL L).length lc)) := HG.out.keeps hg hk
        have hS1 : z2.cell? ⟨w.heap.size, 0, none⟩ = some (.pointer (some ⟨b, 0, none⟩)) := HG1.out.2.1.1.1.1
        clear hg hk HG hS
        have HG := HG1
        clear HG1
        go_wp2_with fail
        refine hK.out _ _ hS1 (fun hS => ?_)
        clear hK K
        clear hS1
        refine wpAnyH_ready (rs := [8, 11]) (by kernel_rfl) (by simp) ?_
        refine AllReadyH.cons rfl (fun K hK => ?_) (AllReadyH.cons rfl (fun K hK => ?_) AllReadyH.nil)
        · go_simp
          go_wp2_with fail
          refine (bytesKey_is a H.out.2.1 _).mono ?_
          rintro e z5 ⟨rfl, q⟩
          have HG1 : Hid (HgS X0 z5 b rb mb w.heap.size L vz ys3 vy4 (.slice lo (lnkL L).length lc)) := HG.out.later q
          have hS1 : z5.cell? ⟨w.heap.size, 0, none⟩ = some (.pointer (some ⟨b, 0, none⟩)) := HG1.out.2.1.1.1.1
          clear q HG hS
          have HG := HG1
          clear HG1
          go_wp2_with fail
          refine hK.out _ _ hS1 (fun hS => ?_)
          clear hK K
          clear hS1
          refine wpAnyH_ready (rs := [9, 11]) (by kernel_rfl) (by simp) ?_
          refine AllReadyH.cons rfl (fun K hK => ?_) (AllReadyH.cons rfl (fun K hK => ?_) AllReadyH.nil)
          · go_simp
            go_wp2_with fail
            refine (look_h L b rb mb ys3 vy4 _ (kB a) _ HG.out.1 H.out.1 hn (by have := H.out.2.1; first | (unfold kI; omega) | (unfold kB; omega))).mono ?_
            rintro e z6 ⟨rfl, ys7, vy8, hg, hk⟩
            rw [HV.out.2]
            have HG1 : Hid (HgS X0 z6 b rb mb w.heap.size L vz ys7 vy8 (.slice lo (lnkL L).length lc)) := HG.out.keeps hg hk
            have hS1 : z6.cell? ⟨w.heap.size, 0, none⟩ = some (.pointer (some ⟨b, 0, none⟩)) := HG1.out.2.1.1.1.1
            clear hg hk HG hS
            have HG := HG1
            clear HG1
            go_wp2_with fail
            refine hK.out _ _ hS1 (fun hS => ?_)
            clear hK K
            clear hS1
            refine tkH 10 ?_ hS (fun wx hx => ?_) ?_; rotate_left
            · go_simp; try with_reducible rfl
            refine rdH 11 (fun K hK => ?_)
            go_simp
            have HG1 : Hid (HgS X0 (z6.alloc zeroS) b rb mb w.heap.size L vz ys7 vy8 (.slice lo (lnkL L).length lc)) := HG.out.later (below_alloc _ _)
            have HX : Hid (Sgt (z6.alloc zeroS) b mb vy8 z6.heap.size false 0) := ⟨Blk2.new _ _ _ _, HG.out.1.1.1.off _, HG.out.1.1.1.1.lt⟩
            have HNB : Hid (NB X0 w.heap.size (.slice lo (lnkL L).length lc) z6.heap.size) := HG.out.nb
            have hS1 : (z6.alloc zeroS).cell? ⟨w.heap.size, 0, none⟩ = some (.pointer (some ⟨b, 0, none⟩)) := HG1.out.2.1.1.1.1
            clear HG hS
            have HG := HG1
            clear HG1
            refine hK.out _ _ hS1 (fun hS => ?_)
            clear hK K
            clear hS1
            generalize z6.alloc zeroS = zz9 at HG HX hS ⊢
            obtain ⟨⟨u0, u1⟩, v0, v1⟩ := HX.out.1
            have hbl : (z6.heap.size) < zz9.heap.size := HX.out.1.lt
            have HY : Hid (Sgt ((zz9.setCell ⟨(z6.heap.size), 0, none⟩ (.bool r)).setCell ⟨(z6.heap.size), 1, none⟩ (.int .i64 z)) b mb vy8 (z6.heap.size) r z) := HX.out.put r z
            have HG2 : Hid (HgS X0 ((zz9.setCell ⟨(z6.heap.size), 0, none⟩ (.bool r)).setCell ⟨(z6.heap.size), 1, none⟩ (.int .i64 z)) b rb mb w.heap.size L vz ys7 vy8 (.slice lo (lnkL L).length lc)) := HX.out.keepsPut HG.out HNB.out r z
            refine rdH 12 (fun K hK => ?_)
            go_simp
            have hS2 : ((zz9.setCell ⟨(z6.heap.size), 0, none⟩ (.bool r)).setCell ⟨(z6.heap.size), 1, none⟩ (.int .i64 z)).cell? ⟨w.heap.size, 0, none⟩ = some (.pointer (some ⟨b, 0, none⟩)) := HG2.out.2.1.1.1.1
            clear hS
            refine hK.out _ _ hS2 (fun hS => ?_)
            clear hK K
            clear hS2 u0 u1 v0 v1 hbl
            refine tkH 13 ?_ hS (fun wx hx => ?_) ?_; rotate_left
            · go_simp; try with_reducible rfl
            refine wpAnyH_done (by kernel_rfl) ?_ _
            go_simp
            go_wp2_with fail
            go_meet
            case rel => exact ⟨_, ys7, vy8, rfl, rfl, HG2, HY⟩
          · go_simp
            have HG1 : Hid (HgS X0 (z5.alloc zeroS) b rb mb w.heap.size L vz ys3 vy4 (.slice lo (lnkL L).length lc)) := HG.out.later (below_alloc _ _)
            have HX : Hid (Sgt (z5.alloc zeroS) b mb vy4 z5.heap.size false 0) := ⟨Blk2.new _ _ _ _, HG.out.1.1.1.off _, HG.out.1.1.1.1.lt⟩
            have HNB : Hid (NB X0 w.heap.size (.slice lo (lnkL L).length lc) z5.heap.size) := HG.out.nb
            have hS1 : (z5.alloc zeroS).cell? ⟨w.heap.size, 0, none⟩ = some (.pointer (some ⟨b, 0, none⟩)) := HG1.out.2.1.1.1.1
            clear HG hS
            have HG := HG1
            clear HG1
            refine hK.out _ _ hS1 (fun hS => ?_)
            clear hK K
            clear hS1
            generalize z5.alloc zeroS = zz10 at HG HX hS ⊢
            refine rdH 9 (fun K hK => ?_)
            go_simp
            go_wp2_with fail
            refine (look_h L b rb mb ys3 vy4 _ (kB a) _ HG.out.1 H.out.1 hn (by have := H.out.2.1; first | (unfold kI; omega) | (unfold kB; omega))).mono ?_
            rintro e z11 ⟨rfl, ys12, vy13, hg, hk⟩
            rw [HV.out.2]
            have HG1 : Hid (HgS X0 z11 b rb mb w.heap.size L vz ys12 vy13 (.slice lo (lnkL L).length lc)) := HG.out.keeps hg hk
            have HX1 : Hid (Sgt z11 b mb vy13 (z5.heap.size) false 0) := HX.out.keeps hk
            clear HX
            have HX := HX1
            clear HX1
            have hS1 : z11.cell? ⟨w.heap.size, 0, none⟩ = some (.pointer (some ⟨b, 0, none⟩)) := HG1.out.2.1.1.1.1
            clear hg hk HG hS
            have HG := HG1
            clear HG1
            go_wp2_with fail
            refine hK.out _ _ hS1 (fun hS => ?_)
            clear hK K
            clear hS1
            refine tkH 10 ?_ hS (fun wx hx => ?_) ?_; rotate_left
            · go_simp; try with_reducible rfl
            obtain ⟨⟨u0, u1⟩, v0, v1⟩ := HX.out.1
            have hbl : (z5.heap.size) < z11.heap.size := HX.out.1.lt
            have HY : Hid (Sgt ((z11.setCell ⟨(z5.heap.size), 0, none⟩ (.bool r)).setCell ⟨(z5.heap.size), 1, none⟩ (.int .i64 z)) b mb vy13 (z5.heap.size) r z) := HX.out.put r z
            have HG2 : Hid (HgS X0 ((z11.setCell ⟨(z5.heap.size), 0, none⟩ (.bool r)).setCell ⟨(z5.heap.size), 1, none⟩ (.int .i64 z)) b rb mb w.heap.size L vz ys12 vy13 (.slice lo (lnkL L).length lc)) := HX.out.keepsPut HG.out HNB.out r z
            refine rdH 12 (fun K hK => ?_)
            go_simp
            have hS2 : ((z11.setCell ⟨(z5.heap.size), 0, none⟩ (.bool r)).setCell ⟨(z5.heap.size), 1, none⟩ (.int .i64 z)).cell? ⟨w.heap.size, 0, none⟩ = some (.pointer (some ⟨b, 0, none⟩)) := HG2.out.2.1.1.1.1
            clear hS
            refine hK.out _ _ hS2 (fun hS => ?_)
            clear hK K
            clear hS2 u0 u1 v0 v1 hbl
            refine tkH 13 ?_ hS (fun wx hx => ?_) ?_; rotate_left
            · go_simp; try with_reducible rfl
            refine wpAnyH_done (by kernel_rfl) ?_ _
            go_simp
            go_wp2_with fail
            go_meet
            case rel => exact ⟨_, ys12, vy13, rfl, rfl, HG2, HY⟩
        · go_simp
          have HG1 : Hid (HgS X0 (z2.alloc zeroS) b rb mb w.heap.size L vz ys3 vy4 (.slice lo (lnkL L).length lc)) := HG.out.later (below_alloc _ _)
          have HX : Hid (Sgt (z2.alloc zeroS) b mb vy4 z2.heap.size false 0) := ⟨Blk2.new _ _ _ _, HG.out.1.1.1.off _, HG.out.1.1.1.1.lt⟩
          have HNB : Hid (NB X0 w.heap.size (.slice lo (lnkL L).length lc) z2.heap.size) := HG.out.nb
          have hS1 : (z2.alloc zeroS).cell? ⟨w.heap.size, 0, none⟩ = some (.pointer (some ⟨b, 0, none⟩)) := HG1.out.2.1.1.1.1
          clear HG hS
          have HG := HG1
          clear HG1
          refine hK.out _ _ hS1 (fun hS => ?_)
          clear hK K
          clear hS1
          generalize z2.alloc zeroS = zz14 at HG HX hS ⊢
          refine rdH 8 (fun K hK => ?_)
          go_simp
          go_wp2_with fail
          refine (bytesKey_is a H.out.2.1 _).mono ?_
          rintro e z15 ⟨rfl, q⟩
          have HG1 : Hid (HgS X0 z15 b rb mb w.heap.size L vz ys3 vy4 (.slice lo (lnkL L).length lc)) := HG.out.later q
          have HX1 : Hid (Sgt z15 b mb vy4 (z2.heap.size) false 0) := HX.out.later q
          clear HX
          have HX := HX1
          clear HX1
          have hS1 : z15.cell? ⟨w.heap.size, 0, none⟩ = some (.pointer (some ⟨b, 0, none⟩)) := HG1.out.2.1.1.1.1
          clear q HG hS
          have HG := HG1
          clear HG1
          go_wp2_with fail
          refine hK.out _ _ hS1 (fun hS => ?_)
          clear hK K
          clear hS1
          refine rdH 9 (fun K hK => ?_)
          go_simp
          go_wp2_with fail
          refine (look_h L b rb mb ys3 vy4 _ (kB a) _ HG.out.1 H.out.1 hn (by have := H.out.2.1; first | (unfold kI; omega) | (unfold kB; omega))).mono ?_
          rintro e z16 ⟨rfl, ys17, vy18, hg, hk⟩
          rw [HV.out.2]
          have HG1 : Hid (HgS X0 z16 b rb mb w.heap.size L vz ys17 vy18 (.slice lo (lnkL L).length lc)) := HG.out.keeps hg hk
          have HX1 : Hid (Sgt z16 b mb vy18 (z2.heap.size) false 0) := HX.out.keeps hk
          clear HX
          have HX := HX1
          clear HX1
          have hS1 : z16.cell? ⟨w.heap.size, 0, none⟩ = some (.pointer (some ⟨b, 0, none⟩)) := HG1.out.2.1.1.1.1
          clear hg hk HG hS
          have HG := HG1
          clear HG1
          go_wp2_with fail
          refine hK.out _ _ hS1 (fun hS => ?_)
          clear hK K
          clear hS1
          refine tkH 10 ?_ hS (fun wx hx => ?_) ?_; rotate_left
          · go_simp; try with_reducible rfl
          obtain ⟨⟨u0, u1⟩, v0, v1⟩ := HX.out.1
          have hbl : (z2.heap.size) < z16.heap.size := HX.out.1.lt
          have HY : Hid (Sgt ((z16.setCell ⟨(z2.heap.size), 0, none⟩ (.bool r)).setCell ⟨(z2.heap.size), 1, none⟩ (.int .i64 z)) b mb vy18 (z2.heap.size) r z) := HX.out.put r z
          have HG2 : Hid (HgS X0 ((z16.setCell ⟨(z2.heap.size), 0, none⟩ (.bool r)).setCell ⟨(z2.heap.size), 1, none⟩ (.int .i64 z)) b rb mb w.heap.size L vz ys17 vy18 (.slice lo (lnkL L).length lc)) := HX.out.keepsPut HG.out HNB.out r z
          refine rdH 12 (fun K hK => ?_)
          go_simp
          have hS2 : ((z16.setCell ⟨(z2.heap.size), 0, none⟩ (.bool r)).setCell ⟨(z2.heap.size), 1, none⟩ (.int .i64 z)).cell? ⟨w.heap.size, 0, none⟩ = some (.pointer (some ⟨b, 0, none⟩)) := HG2.out.2.1.1.1.1
          clear hS
          refine hK.out _ _ hS2 (fun hS => ?_)
          clear hK K
          clear hS2 u0 u1 v0 v1 hbl
          refine tkH 13 ?_ hS (fun wx hx => ?_) ?_; rotate_left
          · go_simp; try with_reducible rfl
          refine wpAnyH_done (by kernel_rfl) ?_ _
          go_simp
          go_wp2_with fail
          go_meet
          case rel => exact ⟨_, ys17, vy18, rfl, rfl, HG2, HY⟩
      · go_simp
        have HG1 : Hid (HgS X0 (z1.alloc zeroS) b rb mb w.heap.size L vz zs vz (.slice lo (lnkL L).length lc)) := HG.out.later (below_alloc _ _)
        have HX : Hid (Sgt (z1.alloc zeroS) b mb vz z1.heap.size false 0) := ⟨Blk2.new _ _ _ _, HG.out.1.1.1.off _, HG.out.1.1.1.1.lt⟩
        have HNB : Hid (NB X0 w.heap.size (.slice lo (lnkL L).length lc) z1.heap.size) := HG.out.nb
        have hS1 : (z1.alloc zeroS).cell? ⟨w.heap.size, 0, none⟩ = some (.pointer (some ⟨b, 0, none⟩)) := HG1.out.2.1.1.1.1
        clear HG hS
        have HG := HG1
        clear HG1
        refine hK.out _ _ hS1 (fun hS => ?_)
        clear hK K
        clear hS1
        generalize z1.alloc zeroS = zz19 at HG HX hS ⊢
        refine rdH 4 (fun K hK => ?_)
        go_simp
        go_wp2_with fail
        refine (look_h L b rb mb zs vz _ (kI a) _ HG.out.1 H.out.1 hn (by have := H.out.2.1; first | (unfold kI; omega) | (unfold kB; omega))).mono ?_
        rintro e z20 ⟨rfl, ys21, vy22, hg, hk⟩
        rw [HV.out.1]
        have HG1 : Hid (HgS X0 z20 b rb mb w.heap.size L vz ys21 vy22 (.slice lo (lnkL L).length lc)) := HG.out.keeps hg hk
        have HX1 : Hid (Sgt z20 b mb vy22 (z1.heap.size) false 0) := HX.out.keeps hk
        clear HX
        have HX := HX1
        clear HX1
        have hS1 : z20.cell? ⟨w.heap.size, 0, none⟩ = some (.pointer (some ⟨b, 0, none⟩)) := HG1.out.2.1.1.1.1
        clear hg hk HG hS
        have HG := HG1
        clear HG1
        go_wp2_with fail
        refine hK.out _ _ hS1 (fun hS => ?_)
        clear hK K
        clear hS1
        refine rdH 8 (fun K hK => ?_)
        go_simp
        go_wp2_with fail
        refine (bytesKey_is a H.out.2.1 _).mono ?_
        rintro e z23 ⟨rfl, q⟩
        have HG1 : Hid (HgS X0 z23 b rb mb w.heap.size L vz ys21 vy22 (.slice lo (lnkL L).length lc)) := HG.out.later q
        have HX1 : Hid (Sgt z23 b mb vy22 (z1.heap.size) false 0) := HX.out.later q
        clear HX
        have HX := HX1
        clear HX1
        have hS1 : z23.cell? ⟨w.heap.size, 0, none⟩ = some (.pointer (some ⟨b, 0, none⟩)) := HG1.out.2.1.1.1.1
        clear q HG hS
        have HG := HG1
        clear HG1
        go_wp2_with fail
        refine hK.out _ _ hS1 (fun hS => ?_)
        clear hK K
        clear hS1
        refine rdH 9 (fun K hK => ?_)
        go_simp
        go_wp2_with fail
        refine (look_h L b rb mb ys21 vy22 _ (kB a) _ HG.out.1 H.out.1 hn (by have := H.out.2.1; first | (unfold kI; omega) | (unfold kB; omega))).mono ?_
        rintro e z24 ⟨rfl, ys25, vy26, hg, hk⟩
        rw [HV.out.2]
        have HG1 : Hid (HgS X0 z24 b rb mb w.heap.size L vz ys25 vy26 (.slice lo (lnkL L).length lc)) := HG.out.keeps hg hk
        have HX1 : Hid (Sgt z24 b mb vy26 (z1.heap.size) false 0) := HX.out.keeps hk
        clear HX
        have HX := HX1
        clear HX1
        have hS1 : z24.cell? ⟨w.heap.size, 0, none⟩ = some (.pointer (some ⟨b, 0, none⟩)) := HG1.out.2.1.1.1.1
        clear hg hk HG hS
        have HG := HG1
        clear HG1
        go_wp2_with fail
        refine hK.out _ _ hS1 (fun hS => ?_)
        clear hK K
        clear hS1
        refine tkH 10 ?_ hS (fun wx hx => ?_) ?_; rotate_left
        · go_simp; try with_reducible rfl
        obtain ⟨⟨u0, u1⟩, v0, v1⟩ := HX.out.1
        have hbl : (z1.heap.size) < z24.heap.size := HX.out.1.lt
        have HY : Hid (Sgt ((z24.setCell ⟨(z1.heap.size), 0, none⟩ (.bool r)).setCell ⟨(z1.heap.size), 1, none⟩ (.int .i64 z)) b mb vy26 (z1.heap.size) r z) := HX.out.put r z
        have HG2 : Hid (HgS X0 ((z24.setCell ⟨(z1.heap.size), 0, none⟩ (.bool r)).setCell ⟨(z1.heap.size), 1, none⟩ (.int .i64 z)) b rb mb w.heap.size L vz ys25 vy26 (.slice lo (lnkL L).length lc)) := HX.out.keepsPut HG.out HNB.out r z
        refine rdH 12 (fun K hK => ?_)
        go_simp
        have hS2 : ((z24.setCell ⟨(z1.heap.size), 0, none⟩ (.bool r)).setCell ⟨(z1.heap.size), 1, none⟩ (.int .i64 z)).cell? ⟨w.heap.size, 0, none⟩ = some (.pointer (some ⟨b, 0, none⟩)) := HG2.out.2.1.1.1.1
        clear hS
        refine hK.out _ _ hS2 (fun hS => ?_)
        clear hK K
        clear hS2 u0 u1 v0 v1 hbl
        refine tkH 13 ?_ hS (fun wx hx => ?_) ?_; rotate_left
        · go_simp; try with_reducible rfl
        refine wpAnyH_done (by kernel_rfl) ?_ _
        go_simp
        go_wp2_with fail
        go_meet
        case rel => exact ⟨_, ys25, vy26, rfl, rfl, HG2, HY⟩
    · go_simp
      have HG1 : Hid (HgS X0 (z0.alloc zeroS) b rb mb w.heap.size L vz zs vz (.slice lo (lnkL L).length lc)) := HG.out.later (below_alloc _ _)
      have HX : Hid (Sgt (z0.alloc zeroS) b mb vz z0.heap.size false 0) := ⟨Blk2.new _ _ _ _, HG.out.1.1.1.off _, HG.out.1.1.1.1.lt⟩
      have HNB : Hid (NB X0 w.heap.size (.slice lo (lnkL L).length lc) z0.heap.size) := HG.out.nb
      have hS1 : (z0.alloc zeroS).cell? ⟨w.heap.size, 0, none⟩ = some (.pointer (some ⟨b, 0, none⟩)) := HG1.out.2.1.1.1.1
      clear HG hS
      have HG := HG1
      clear HG1
      refine hK.out _ _ hS1 (fun hS => ?_)
      clear hK K
      clear hS1
      generalize z0.alloc zeroS = zz27 at HG HX hS ⊢
      refine rdH 3 (fun K hK => ?_)
      go_simp
      go_wp2_with fail
      refine (inodeKey_is a H.out.2.1 _).mono ?_
      rintro e z28 ⟨rfl, q⟩
      have HG1 : Hid (HgS X0 z28 b rb mb w.heap.size L vz zs vz (.slice lo (lnkL L).length lc)) := HG.out.later q
      have HX1 : Hid (Sgt z28 b mb vz (z0.heap.size) false 0) := HX.out.later q
      clear HX
      have HX := HX1
      clear HX1
      have hS1 : z28.cell? ⟨w.heap.size, 0, none⟩ = some (.pointer (some ⟨b, 0, none⟩)) := HG1.out.2.1.1.1.1
      clear q HG hS
      have HG := HG1
      clear HG1
      go_wp2_with fail
      refine hK.out _ _ hS1 (fun hS => ?_)
      clear hK K
      clear hS1
      refine rdH 4 (fun K hK => ?_)
      go_simp
      go_wp2_with fail
      refine (look_h L b rb mb zs vz _ (kI a) _ HG.out.1 H.out.1 hn (by have := H.out.2.1; first | (unfold kI; omega) | (unfold kB; omega))).mono ?_
      rintro e z29 ⟨rfl, ys30, vy31, hg, hk⟩
      rw [HV.out.1]
      have HG1 : Hid (HgS X0 z29 b rb mb w.heap.size L vz ys30 vy31 (.slice lo (lnkL L).length lc)) := HG.out.keeps hg hk
      have HX1 : Hid (Sgt z29 b mb vy31 (z0.heap.size) false 0) := HX.out.keeps hk
      clear HX
      have HX := HX1
      clear HX1
      have hS1 : z29.cell? ⟨w.heap.size, 0, none⟩ = some (.pointer (some ⟨b, 0, none⟩)) := HG1.out.2.1.1.1.1
      clear hg hk HG hS
      have HG := HG1
      clear HG1
      go_wp2_with fail
      refine hK.out _ _ hS1 (fun hS => ?_)
      clear hK K
      clear hS1
      refine rdH 8 (fun K hK => ?_)
      go_simp
      go_wp2_with fail
      refine (bytesKey_is a H.out.2.1 _).mono ?_
      rintro e z32 ⟨rfl, q⟩
      have HG1 : Hid (HgS X0 z32 b rb mb w.heap.size L vz ys30 vy31 (.slice lo (lnkL L).length lc)) := HG.out.later q
      have HX1 : Hid (Sgt z32 b mb vy31 (z0.heap.size) false 0) := HX.out.later q
      clear HX
      have HX := HX1
      clear HX1
      have hS1 : z32.cell? ⟨w.heap.size, 0, none⟩ = some (.pointer (some ⟨b, 0, none⟩)) := HG1.out.2.1.1.1.1
      clear q HG hS
      have HG := HG1
      clear HG1
      go_wp2_with fail
      refine hK.out _ _ hS1 (fun hS => ?_)
      clear hK K
      clear hS1
      refine rdH 9 (fun K hK => ?_)
      go_simp
      go_wp2_with fail
      refine (look_h L b rb mb ys30 vy31 _ (kB a) _ HG.out.1 H.out.1 hn (by have := H.out.2.1; first | (unfold kI; omega) | (unfold kB; omega))).mono ?_
      rintro e z33 ⟨rfl, ys34, vy35, hg, hk⟩
      rw [HV.out.2]
      have HG1 : Hid (HgS X0 z33 b rb mb w.heap.size L vz ys34 vy35 (.slice lo (lnkL L).length lc)) := HG.out.keeps hg hk
      have HX1 : Hid (Sgt z33 b mb vy35 (z0.heap.size) false 0) := HX.out.keeps hk
      clear HX
      have HX := HX1
      clear HX1
      have hS1 : z33.cell? ⟨w.heap.size, 0, none⟩ = some (.pointer (some ⟨b, 0, none⟩)) := HG1.out.2.1.1.1.1
      clear hg hk HG hS
      have HG := HG1
      clear HG1
      go_wp2_with fail
      refine hK.out _ _ hS1 (fun hS => ?_)
      clear hK K
      clear hS1
      refine tkH 10 ?_ hS (fun wx hx => ?_) ?_; rotate_left
      · go_simp; try with_reducible rfl
      obtain ⟨⟨u0, u1⟩, v0, v1⟩ := HX.out.1
      have hbl : (z0.heap.size) < z33.heap.size := HX.out.1.lt
      have HY : Hid (Sgt ((z33.setCell ⟨(z0.heap.size), 0, none⟩ (.bool r)).setCell ⟨(z0.heap.size), 1, none⟩ (.int .i64 z)) b mb vy35 (z0.heap.size) r z) := HX.out.put r z
      have HG2 : Hid (HgS X0 ((z33.setCell ⟨(z0.heap.size), 0, none⟩ (.bool r)).setCell ⟨(z0.heap.size), 1, none⟩ (.int .i64 z)) b rb mb w.heap.size L vz ys34 vy35 (.slice lo (lnkL L).length lc)) := HX.out.keepsPut HG.out HNB.out r z
      refine rdH 12 (fun K hK => ?_)
      go_simp
      have hS2 : ((z33.setCell ⟨(z0.heap.size), 0, none⟩ (.bool r)).setCell ⟨(z0.heap.size), 1, none⟩ (.int .i64 z)).cell? ⟨w.heap.size, 0, none⟩ = some (.pointer (some ⟨b, 0, none⟩)) := HG2.out.2.1.1.1.1
      clear hS
      refine hK.out _ _ hS2 (fun hS => ?_)
      clear hK K
      clear hS2 u0 u1 v0 v1 hbl
      refine tkH 13 ?_ hS (fun wx hx => ?_) ?_; rotate_left
      · go_simp; try with_reducible rfl
      refine wpAnyH_done (by kernel_rfl) ?_ _
      go_simp
      go_wp2_with fail
      go_meet
      case rel => exact ⟨_, ys34, vy35, rfl, rfl, HG2, HY⟩
  case rest =>
    obtain ⟨A, ys, vy, rfl, rfl, HG2, HX2⟩ := hcut
    obtain ⟨⟨x0, x1⟩, y0, y1⟩ := HG2.out.2.1.1
    have hzb : w.heap.size < wc.heap.size := HG2.out.2.1.2.1
    go_wp2_with fail
    refine (linksTo_is (lnkL L) ⟨b, 0, none⟩ _ 0 a _ HG2.out.1.2.row (by omega)).mono ?_
    rintro e w3 ⟨mv, rfl, ho, q3⟩
    obtain ⟨mo, mc, rfl⟩ := ho.form
    have hlm := toL_len (lnkL L) a
    have HM : Hid ((Lst w3 b mb vy (toL (lnkL L) a) (.slice mo (toL (lnkL L) a).length mc)) ∧ ∀ j, j < (toL (lnkL L) a).length → 0 ≤ ((toL (lnkL L) a).getD j (0, 0)).1 ∧ ((toL (lnkL L) a).getD j (0, 0)).1 ≤ 9) := ⟨HG2.out.1.lst ho, toL_in⟩
    have HG3 : Hid (HgS X0 w3 b rb mb w.heap.size L vz ys vy (.slice lo (lnkL L).length lc) ∧ Sgt w3 b mb vy A r z) := ⟨HG2.out.later q3, HX2.out.later q3⟩
    clear ho q3 HG2 HX2 x0 x1 y0 y1 hzb
    have hR := HR.out
    clear HR
    generalize toL (lnkL L) a = M at HM hlm hR ⊢
    obtain ⟨⟨x0, x1⟩, y0, y1⟩ := HG3.out.1.2.1.1
    obtain ⟨⟨u0, u1⟩, v0, v1⟩ := HG3.out.2.1
    unfold hangsR at hR
    cases r with
    | false =>
      rw [if_pos rfl] at hR
      by_cases hm0 : M.length = 0
      · have dm : (((M.length : Nat) : Int) == 0) = true := beq_iff_eq.2 (by omega)
        rw [dm] at hR
        cases s with
        | true =>
          have HQ : Hid (res = false) := by unfold Hid; rw [← hR]; rfl
          clear hR hm0
          go_wp2_with fail
          refine (countLinks_is mo _ mc (by omega) _).mono ?_
          rintro e w9 ⟨rfl, hw9⟩
          obtain rfl := hw9.symm
          go_wp2
          go_ret
          exact ⟨by rw [HQ.out]; rfl, _, _, HG3.out.1.1, HKw.out.trans HG3.out.1.2.2⟩
        | false =>
          have HQ : Hid (res = true) := by unfold Hid; rw [← hR]; rfl
          clear hR hm0
          go_wp2_with fail
          refine (countLinks_is mo _ mc (by omega) _).mono ?_
          rintro e w9 ⟨rfl, hw9⟩
          obtain rfl := hw9.symm
          go_wp2
          go_ret
          exact ⟨by rw [HQ.out]; rfl, _, _, HG3.out.1.1, HKw.out.trans HG3.out.1.2.2⟩
      · have dm : (((M.length : Nat) : Int) == 0) = false := beq_eq_false_iff_ne.2 (by omega)
        have HQ : Hid (res = false) := by unfold Hid; rw [← hR, dm]; rfl
        clear hR hm0
        go_wp2_with fail
        refine (countLinks_is mo _ mc (by omega) _).mono ?_
        rintro e w9 ⟨rfl, hw9⟩
        obtain rfl := hw9.symm
        go_wp2
        go_ret
        exact ⟨by rw [HQ.out]; rfl, _, _, HG3.out.1.1, HKw.out.trans HG3.out.1.2.2⟩
    | true =>
      rw [if_neg (by simp)] at hR
      by_cases hnx : a ≥ nx
      · have HQ : Hid (res = false) := by unfold Hid; rw [← hR, if_pos hnx]
        have dn : decide (a ≥ nx) = true := decide_eq_true hnx
        clear hR hnx
        go_wp2
        go_ret
        exact ⟨by rw [HQ.out]; rfl, _, _, HG3.out.1.1, HKw.out.trans HG3.out.1.2.2⟩
      · have dn : decide (a ≥ nx) = false := decide_eq_false hnx
        rw [if_neg hnx] at hR
        clear hnx
        by_cases hz : z = 1000
        · have dz : (z == 1000) = true := beq_iff_eq.2 hz
          rw [if_pos hz] at hR
          clear hz
          cases s with
          | true =>
            have HQ : Hid (res = false) := by unfold Hid; rw [← hR]; rfl
            clear hR
            go_wp2
            go_ret
            exact ⟨by rw [HQ.out]; rfl, _, _, HG3.out.1.1, HKw.out.trans HG3.out.1.2.2⟩
          | false =>
            have HQ : Hid (res = dirR L M a) := by unfold Hid; rw [← hR]; rfl
            clear hR
            go_wp2_with fail
            refine (dirHangs_is L M b rb mb ys vy _ _ a _ HG3.out.1.1 HM.out.1 H.out.1 hn ⟨by omega, HM.out.2⟩).mono ?_
            rintro e w4 ⟨rfl, ys4, vy4, hg4, hk4⟩
            have HG4 : Hid (HgS X0 w4 b rb mb w.heap.size L vz ys4 vy4 (.slice lo (lnkL L).length lc)) := HG3.out.1.keeps hg4 hk4
            rw [← HQ.out]
            clear hg4 hk4 HG3 x0 x1 y0 y1 u0 u1 v0 v1
            cases res with
            | true =>
              go_wp2
              go_ret
              exact ⟨rfl, _, _, HG4.out.1, HKw.out.trans HG4.out.2.2⟩
            | false =>
              go_wp2
              go_ret
              exact ⟨rfl, _, _, HG4.out.1, HKw.out.trans HG4.out.2.2⟩
        · have dz : (z == 1000) = false := beq_eq_false_iff_ne.2 hz
          rw [if_neg hz] at hR
          have HQ : Hid (res = fileR L M z) := hR.symm
          clear hR hz
          go_wp2_with fail
          refine (fileHangs_is L M b rb mb ys vy _ _ z _ HG3.out.1.1 HM.out.1 H.out.1 hn H.out.2.2 ⟨by omega, HM.out.2⟩).mono ?_
          rintro e w4 ⟨rfl, ys4, vy4, hg4, hk4⟩
          have HG4 : Hid (HgS X0 w4 b rb mb w.heap.size L vz ys4 vy4 (.slice lo (lnkL L).length lc)) := HG3.out.1.keeps hg4 hk4
          rw [← HQ.out]
          clear hg4 hk4 HG3 x0 x1 y0 y1 u0 u1 v0 v1
          go_wp2
          go_ret
          exact ⟨rfl, _, _, HG4.out.1, HKw.out.trans HG4.out.2.2⟩
end Go.Proofs.YtnchaccgenfhoaaGreat

namespace Go.Proofs.YtnchaccgenfhoaaGreat
open Go.RowKit

theorem all_toL (L : Prs) (r dir : Bool) (a : Int) : ∀ T : Prs, (T.all fun e => !(badE L r dir a e)) = ((toL (lnkL T) a).all fun l => !(!r || (!(dirB L l.1) || (dir && decide (l.1 ≥ a)))))
  | [] => rfl
  | e :: t => by
    rw [List.all_cons, all_toL L r dir a t, lnkL]
    unfold toL
    rw [List.filter_append, List.all_append]
    congr 1
    unfold badE
    by_cases h : partK e.1 = 2
    · rw [if_pos h, h]
      by_cases h2 : e.2 = a
      · simp [h2]
      · simp [h2]
    · rw [if_neg h, beq_eq_false_iff_ne.2 h]
      simp
theorem all_noI : ∀ T : Prs, (T.all fun e => !(noInode e)) = !((lnkL T).any fun l => !(decide (0 ≤ l.2 ∧ l.2 ≤ 9)))
  | [] => rfl
  | e :: t => by
    rw [List.all_cons, all_noI t, lnkL, List.any_append, Bool.not_or]
    congr 1
    unfold noInode
    by_cases h : partK e.1 = 2
    · rw [if_pos h, h]; simp
    · rw [if_neg h, beq_eq_false_iff_ne.2 h]; simp
theorem hangs_eq (L : Prs) (r : Bool) (z : Int) (s : Bool) (nx a : Int) : hangsR L (toL (lnkL L) a) r z s nx a = inodeV L r z (linkN L a) s nx a := by
  unfold inodeV
  rw [all_toL L r _ a L]
  unfold linkN
  generalize toL (lnkL L) a = M
  unfold hangsR
  cases r with
  | false =>
    rw [if_pos rfl]
    cases M with
    | nil => cases s <;> simp [dirV, fileV]
    | cons x t =>
      rw [beq_eq_false_iff_ne.2 (by simp only [List.length_cons]; omega)]
      cases s <;> simp [dirV, fileV]
  | true =>
    rw [if_neg (by simp)]
    by_cases hnx : a ≥ nx
    · rw [if_pos hnx]; simp [hnx]
    · rw [if_neg hnx, decide_eq_false hnx]
      by_cases hz : z = 1000
      · rw [if_pos hz]
        subst hz
        have hfv : fileV true 1000 ((M.length : Nat) : Int) = false := by
          unfold fileV
          rw [beq_eq_false_iff_ne.2 (show (1000 : Int) ≠ 2000 + ((M.length : Nat) : Int) by omega)]; simp
        have hdv : dirV true 1000 = true := by unfold dirV; simp
        rw [hfv, hdv]
        unfold dirR
        by_cases ha : a = 0
        · rw [if_pos ha]
          cases M with
          | nil => cases s <;> simp [ha]
          | cons x t =>
            have h1 : ((((x :: t).length : Nat) : Int) != 0) = true := bne_iff_ne.2 (by simp only [List.length_cons]; omega)
            have h2 : ((x :: t).length == 0) = false := by simp
            rw [h1, h2]
            simp [ha]
        · rw [if_neg ha]
          have h0 : (a == 0) = false := beq_eq_false_iff_ne.2 ha
          have h0' : (a != 0) = true := bne_iff_ne.2 ha
          rw [h0, h0']
          match M with
          | [] => simp
          | [x] =>
            have hd : decide (x.1 < a) = !(decide (x.1 ≥ a)) := by
              by_cases h : x.1 < a
              · rw [decide_eq_true h, decide_eq_false (by omega)]; rfl
              · rw [decide_eq_false h, decide_eq_true (by omega)]; rfl
            simp only [List.length_cons, List.length_nil, List.getD_cons_zero, List.all_cons, List.all_nil, hd]
            cases s <;> cases dirB L x.1 <;> cases decide (x.1 ≥ a) <;> decide
          | x :: y :: t =>
            have h1 : ((((x :: y :: t).length : Nat) : Int) != 1) = true := bne_iff_ne.2 (by simp only [List.length_cons]; omega)
            have h2 : ((x :: y :: t).length == 1) = false := by simp
            rw [h1, h2]
            simp
      · rw [if_neg hz]
        have hdv : dirV true z = false := by unfold dirV; simp [hz]
        rw [hdv]
        unfold fileR fileV anyH
        have hany : (M.all fun l => !(!true || (!(dirB L l.1) || (false && decide (l.1 ≥ a))))) = !(M.any fun l => !(dirB L l.1)) := by
          rw [List.not_any_eq_all_not]
          simp
        rw [hany]
        by_cases hm : M.length = 0
        · rw [beq_iff_eq.2 (show ((M.length : Nat) : Int) = 0 by omega), decide_eq_false (show ¬ ((M.length : Nat) : Int) > 0 by omega)]
          simp
        · rw [beq_eq_false_iff_ne.2 (show ((M.length : Nat) : Int) ≠ 0 by omega), decide_eq_true (show ((M.length : Nat) : Int) > 0 by omega)]
          cases s <;> cases (z == 2000 + ((M.length : Nat) : Int)) <;> simp
theorem lookF_val {L : Prs} (hv : ∀ e ∈ L, 0 ≤ e.2 ∧ e.2 ≤ 9999) (k : Int) : 0 ≤ (lookF L k).2 ∧ (lookF L k).2 ≤ 9999 := by
  unfold lookF
  split
  · rename_i e he
    exact hv e (List.mem_of_find?_eq_some he)
  · exact ⟨Int.le_refl _, by decide⟩
theorem lookF_zero {L : Prs} {k : Int} (h : (lookF L k).1 = false) : (lookF L k).2 = 0 := by
  unfold lookF at h ⊢
  split at h
  · simp at h
  · rfl
theorem pairs_vals {F : Nat → Int} {n : Nat} (h : pairsF F n 0 = 0) : ∀ e ∈ listOf F n, 0 ≤ e.2 ∧ e.2 ≤ 9999 := by
  intro e he
  unfold listOf at he
  obtain ⟨k, hk, rfl⟩ := List.mem_map.1 he
  have := pairsF_all h k (List.mem_range.1 hk)
  rw [Nat.zero_add] at this
  exact (pairF_zero this).2.1
/-- The program's way to ask whether all hangs together. -/
theorem whole_eq (L : Prs) : wholeB L = (dirB L 0 && (decide (1 ≤ (lookF L 0).2 ∧ (lookF L 0).2 ≤ 10) && ((List.range 10).all (fun a => inodeB L (lookF L 0).2 (a : Nat)) && !((lnkL L).any fun l => !(decide (0 ≤ l.2 ∧ l.2 ≤ 9)))))) := by
  unfold wholeB
  rw [all_noI]
  cases h : (lookF L 0).1 with
  | false =>
    rw [decide_eq_false (show ¬ (1 ≤ (lookF L 0).2 ∧ (lookF L 0).2 ≤ 10) by rw [lookF_zero h]; omega)]
    simp
  | true =>
    cases dirB L 0 <;> cases decide (1 ≤ (lookF L 0).2 ∧ (lookF L 0).2 ≤ 10) <;> simp
set_option maxRecDepth 100000 in
set_option maxHeartbeats 4000000 in
theorem isWhole_is (L : Prs) (b rb mb : Nat) (zs : List Int) (vz lv : Value) (w : World) (h : Hung w b rb mb L zs vz lv) (hrs : Rises L) (hn : L.length ≤ 800) (hv : ∀ k, 0 ≤ (lookF L k).2 ∧ (lookF L k).2 ≤ 9999) :
    Calls Tryz.prog 29 #[.agg #[.pointer (some ⟨b, 0, none⟩), lv]] w (LookRes w b rb mb L vz lv (.bool (wholeB L))) := by
  obtain ⟨lo, lc, rfl⟩ := h.2.row.form
  have HG : Hid (HgS (w.alloc (.cells #[.pointer (some ⟨b, 0, none⟩), .slice lo (lnkL L).length lc] 57)) (w.alloc (.cells #[.pointer (some ⟨b, 0, none⟩), .slice lo (lnkL L).length lc] 57)) b rb mb w.heap.size L vz zs vz (.slice lo (lnkL L).length lc)) := ⟨h.later (below_alloc _ _), h.box, Keeps.below _ _ _ (Below.refl _ _)⟩
  have HKw : Hid (Keeps w (w.alloc (.cells #[.pointer (some ⟨b, 0, none⟩), .slice lo (lnkL L).length lc] 57)) b mb vz vz) := Keeps.below b mb vz (below_alloc w _)
  have H : Hid (Rises L ∧ ∀ k, 0 ≤ (lookF L k).2 ∧ (lookF L k).2 ≤ 9999) := ⟨hrs, hv⟩
  have fs1 := fun h v w => field_sight1 h v w
  have hlk := lnkL_len L
  obtain ⟨res, hres⟩ : ∃ res, wholeB L = res := ⟨_, rfl⟩
  have hR := (whole_eq L).symm.trans hres
  obtain ⟨t, ht⟩ : ∃ t, lookF L 0 = t := ⟨_, rfl⟩
  obtain ⟨h0, nx⟩ := t
  have HV : Hid (lookF L 0 = (h0, nx)) := ht
  have hnx := hv 0
  rw [ht] at hR hnx
  simp only at hR hnx
  rw [hres]
  clear h hrs hv hres ht
  go_enter Tryz.func29, Tryz.ntmps29
  go_upto_region 1 with fail
  generalize w.alloc (.cells #[.pointer (some ⟨b, 0, none⟩), .slice lo (lnkL L).length lc] 57) = X0 at HG HKw ⊢
  refine wp_region_held_drew (S := fun X => X.cell? ⟨w.heap.size, 0, none⟩ = some (.pointer (some ⟨b, 0, none⟩))) (by kernel_rfl) HG.out.2.1.1.1.1 (fun hS => ?_)
  have HG1 : Hid (HgS X0 X0.drew b rb mb w.heap.size L vz zs vz (.slice lo (lnkL L).length lc)) := HG.out.later (below_drewT _)
  clear HG
  generalize X0.drew = z0 at hS HG1 ⊢
  refine tkH 0 ?_ hS (fun wx hx => ?_) ?_; rotate_left
  · go_simp; try with_reducible rfl
  refine tkH 1 ?_ hS (fun wx hx => ?_) ?_; rotate_left
  · go_simp; try with_reducible rfl
  refine rdH 2 (fun K hK => ?_)
  go_simp
  go_wp2_with fail
  refine (nextKey_is _).mono ?_
  rintro e z1 ⟨rfl, q1⟩
  have HG2 : Hid (HgS X0 z1 b rb mb w.heap.size L vz zs vz (.slice lo (lnkL L).length lc)) := HG1.out.later q1
  clear q1 HG1 hS
  go_wp2_with fail
  refine hK.out _ _ HG2.out.2.1.1.1.1 (fun hS => ?_)
  clear hK K
  refine rdH 3 (fun K hK => ?_)
  go_simp
  go_wp2_with fail
  refine (look_h L b rb mb zs vz _ 0 _ HG2.out.1 H.out.1 hn (by omega)).mono ?_
  rintro e z2 ⟨rfl, ys, vy, hg, hk⟩
  rw [HV.out]
  have HG3 : Hid (HgS X0 z2 b rb mb w.heap.size L vz ys vy (.slice lo (lnkL L).length lc)) := HG2.out.keeps hg hk
  clear hg hk HG2 hS
  go_wp2_with fail
  refine hK.out _ _ HG3.out.2.1.1.1.1 (fun hS => ?_)
  clear hK K
  refine tkH 4 ?_ hS (fun wx hx => ?_) ?_; rotate_left
  · go_simp; try with_reducible rfl
  refine tkH 5 ?_ hS (fun wx hx => ?_) ?_; rotate_left
  · go_simp; try with_reducible rfl
  refine wpAnyH_done (by kernel_rfl) ?_ _
  go_simp
  clear hS
  obtain ⟨⟨x0, x1⟩, y0, y1⟩ := HG3.out.2.1.1
  go_wp2_with fail
  refine (isDir_h L b rb mb ys vy _ 0 _ HG3.out.1 H.out.1 hn (by omega)).mono ?_
  rintro e z3 ⟨rfl, ys3, vy3, hg3, hk3⟩
  have HG4 : Hid (HgS X0 z3 b rb mb w.heap.size L vz ys3 vy3 (.slice lo (lnkL L).length lc)) := HG3.out.keeps hg3 hk3
  clear hg3 hk3 HG3 x0 x1 y0 y1
  obtain ⟨⟨x0, x1⟩, y0, y1⟩ := HG4.out.2.1.1
  cases hd : dirB L 0 with
  | false =>
    have HQ : Hid (res = false) := by unfold Hid; rw [← hR, hd]; rfl
    clear hR hd
    go_wp2
    go_ret
    exact ⟨by rw [HQ.out]; rfl, _, _, HG4.out.1, HKw.out.trans HG4.out.2.2⟩
  | true =>
  rw [hd] at hR
  clear hd
  by_cases h1 : nx < 1
  · have d1 : decide (nx < 1) = true := decide_eq_true h1
    have HQ : Hid (res = false) := by unfold Hid; rw [← hR, decide_eq_false (show ¬ (1 ≤ nx ∧ nx ≤ 10) by omega)]; rfl
    clear hR h1
    go_wp2
    go_ret
    exact ⟨by rw [HQ.out]; rfl, _, _, HG4.out.1, HKw.out.trans HG4.out.2.2⟩
  have d1 : decide (nx < 1) = false := decide_eq_false h1
  by_cases h2 : nx > 10
  · have d2 : decide (nx > 10) = true := decide_eq_true h2
    have HQ : Hid (res = false) := by unfold Hid; rw [← hR, decide_eq_false (show ¬ (1 ≤ nx ∧ nx ≤ 10) by omega)]; rfl
    clear hR h1 h2
    go_wp2
    go_ret
    exact ⟨by rw [HQ.out]; rfl, _, _, HG4.out.1, HKw.out.trans HG4.out.2.2⟩
  have d2 : decide (nx > 10) = false := decide_eq_false h2
  rw [decide_eq_true (show 1 ≤ nx ∧ nx ≤ 10 by omega)] at hR
  obtain ⟨ba, hba⟩ : ∃ ba, ((lnkL L).any fun l => !(decide (0 ≤ l.2 ∧ l.2 ≤ 9))) = ba := ⟨_, rfl⟩
  have HBA : Hid (((lnkL L).any fun l => !(decide (0 ≤ l.2 ∧ l.2 ≤ 9))) = ba) := hba
  rw [hba] at hR
  have HN1 : Hid (∀ k : Nat, k < 10 → inodeB L nx k = false → res = false) := fun k hk e => by rw [← hR, range_no hk e]; rfl
  have HOK : Hid ((∀ k : Nat, k < 10 → inodeB L nx k = true) → res = !ba) := fun e => by rw [← hR, range_ok e]; rfl
  clear hR hba h1 h2
  go_wp2
  go_loopw [22] (fun i wr => ∃ k : Nat, k ≤ 10 ∧ i = .int .i64 k ∧ Hid (∀ j : Nat, j < k → inodeB L nx j = true) ∧ ∃ ys vy, Hid (HgS X0 wr b rb mb w.heap.size L vz ys vy (.slice lo (lnkL L).length lc))) (fun i _ => 10 - (intOf i).toNat)
  case atStart => exact ⟨0, Nat.zero_le _, rfl, fun j hj => absurd hj (Nat.not_lt_zero j), ys3, vy3, HG4⟩
  case round =>
    obtain ⟨k, hk, rfl, HS, ys5, vy5, HG5⟩ := hrel
    clear HG4 x0 x1 y0 y1
    obtain ⟨⟨x0, x1⟩, y0, y1⟩ := HG5.out.2.1.1
    by_cases hlt : k < 10
    · have dk : decide ((k : Int) < 10) = true := decide_eq_true (by omega)
      obtain ⟨t, ht⟩ : ∃ t, lookF L (kI k) = t := ⟨_, rfl⟩
      obtain ⟨r, z⟩ := t
      obtain ⟨t, hu⟩ : ∃ t, lookF L (kB k) = t := ⟨_, rfl⟩
      obtain ⟨s, sz⟩ := t
      obtain ⟨q, hq⟩ : ∃ q, inodeB L nx k = q := ⟨_, rfl⟩
      have HI : Hid (inodeB L nx k = q) := hq
      have HE : Hid (hangsR L (toL (lnkL L) k) r z s nx k = q) := by
        unfold Hid
        rw [hangs_eq, ← hq]
        unfold inodeB
        rw [ht, hu]
      have HT : Hid (lookF L (kI k) = (r, z) ∧ lookF L (kB k) = (s, sz) ∧ (0 ≤ z ∧ z ≤ 9999)) := ⟨ht, hu, by have := H.out.2 (kI k); rw [ht] at this; exact this⟩
      clear hq ht hu
      go_wp2_with fail
      refine (hangs_is L b rb mb ys5 vy5 _ k nx _ r z s sz HG5.out.1 H.out.1 hn (by omega) HT.out.1 HT.out.2.1 HT.out.2.2).mono ?_
      rintro e z5 ⟨rfl, ys6, vy6, hg6, hk6⟩
      rw [HE.out]
      have HG6 : Hid (HgS X0 z5 b rb mb w.heap.size L vz ys6 vy6 (.slice lo (lnkL L).length lc)) := HG5.out.keeps hg6 hk6
      clear hg6 hk6 HG5 x0 x1 y0 y1
      cases q with
      | false =>
        have HQ : Hid (res = false) := HN1.out k hlt HI.out
        go_wp2
        go_ret
        exact ⟨by rw [HQ.out]; rfl, _, _, HG6.out.1, HKw.out.trans HG6.out.2.2⟩
      | true =>
        have HS2 : Hid (∀ j : Nat, j < k + 1 → inodeB L nx j = true) := fun j hj => by
          rcases Nat.eq_or_lt_of_le (Nat.lt_succ_iff.1 hj) with rfl | qq
          · exact HI.out
          · exact HS.out j qq
        go_wp2
        go_roundw
        case rel => exact ⟨k + 1, by omega, by go_num, HS2, ys6, vy6, HG6⟩
        case measure => simp [intOf]; omega
    · have dk : decide ((k : Int) < 10) = false := decide_eq_false (by omega)
      have HQ : Hid (res = !ba) := HOK.out fun j hj => HS.out j (by omega)
      clear HS HN1 HOK HV
      go_wp2_with fail
      refine (containsW_is (lnkL L) _ 0 ba HBA.out _ HG5.out.1.2.row (by omega)).mono ?_
      rintro e z6 ⟨rfl, q6⟩
      have HG6 : Hid (HgS X0 z6 b rb mb w.heap.size L vz ys5 vy5 (.slice lo (lnkL L).length lc)) := HG5.out.later q6
      clear q6 HG5 x0 x1 y0 y1
      go_wp2
      go_ret
      exact ⟨by rw [HQ.out]; rfl, _, _, HG6.out.1, HKw.out.trans HG6.out.2.2⟩
end Go.Proofs.YtnchaccgenfhoaaGreat

namespace Go.Proofs.YtnchaccgenfhoaaGreat
open Go.RowKit

set_option maxRecDepth 100000 in
set_option maxHeartbeats 2000000 in
theorem implFs_is (y : Value) (B n : Nat) (F : Nat → Int) (w : World) (h : Row w B 2 n F y) (hn : n ≤ 1048576) :
    Calls Tryz.prog 10 #[y] w fun e w' => e = .returned (.int .i64 (fsF n F)) ∧ Below w.heap.size w w' := by
  have H : Hid (Row w B 2 n F y) := h
  clear h
  by_cases h1 : pairsF F n 0 = 0
  case neg =>
    obtain ⟨f, hf⟩ : ∃ f, pairsF F n 0 = f := ⟨_, rfl⟩
    have HF : Hid (pairsF F n 0 = f) := hf
    have HQ : Hid (fsF n F = f) := (fsF_bad h1).trans hf
    have dd : (f != 0) = true := bne_iff_ne.2 (by rw [← hf]; exact h1)
    rw [HQ.out]
    clear h1 hf
    go_enter Tryz.func10, Tryz.ntmps10
    go_wp2_with fail
    refine (implPairs_any _ B n F _ H.out hn).mono ?_
    rintro e w1 ⟨rfl, q1⟩
    rw [HF.out]
    have HB : Hid (Below w.heap.size w w1) := q1
    clear q1
    go_wp2
    go_ret
    exact ⟨rfl, HB.out⟩
  have HF : Hid (pairsF F n 0 = 0) := h1
  obtain ⟨q, hq⟩ : ∃ q, wholeB (listOf F n) = q := ⟨_, rfl⟩
  have HW : Hid (wholeB (listOf F n) = q) := hq
  have HQ : Hid (fsF n F = if q = true then 0 else 1) := by
    cases q with
    | true => exact fsF_ok h1 hq
    | false => exact fsF_no h1 hq
  have hn2 := (pairs_rise h1).2
  rw [HQ.out]
  clear h1 hq
  go_enter Tryz.func10, Tryz.ntmps10
  go_wp2_with fail
  refine (implPairs_any _ B n F _ H.out hn).mono ?_
  rintro e w1 ⟨rfl, q1⟩
  rw [HF.out]
  have HB : Hid (Below w.heap.size w w1) := q1
  clear q1
  go_wp2_with fail
  refine (hangingIn_is (listOf F n) _ B _ (row_list (H.out.later HB.out)) (pairs_rise HF.out).1 (by rw [listOf_length]; omega) (pairs_keys HF.out)).mono ?_
  rintro e w2 ⟨b, rb, mb, lv, rfl, hl, ho, hrb, q2⟩
  have HH : Hid (Hung w2 b rb mb (listOf F n) [] (.slice none 0 0) lv ∧ w1.heap.size ≤ mb ∧ w1.heap.size ≤ b) := ⟨Hung.new hl ho, by have := hl.2.2.2.2; omega, by have := hl.2.2.2.2; omega⟩
  have HB2 : Hid (Below w.heap.size w w2 ∧ w1.heap.size ≤ w2.heap.size) := ⟨HB.out.trans (q2.mono HB.out.size), q2.size⟩
  clear hl ho hrb q2
  go_wp2_with fail
  refine (isWhole_is (listOf F n) b rb mb [] (.slice none 0 0) lv _ HH.out.1 (pairs_rise HF.out).1 (by rw [listOf_length]; omega) (lookF_val (pairs_vals HF.out))).mono ?_
  rintro e w3 ⟨rfl, ys, vy, hg, hk⟩
  have HB3 : Hid (Below w.heap.size w w3) := HB2.out.1.trans (hk.toBelow HB2.out.1.size (Nat.le_trans HB.out.size HH.out.2.2) (Nat.le_trans HB.out.size HH.out.2.1) (fun k hk => by cases hk))
  rw [HW.out]
  clear hg hk HH HB HB2
  cases q with
  | true =>
    go_wp2
    go_ret
    exact ⟨rfl, HB3.out⟩
  | false =>
    go_wp2
    go_ret
    exact ⟨rfl, HB3.out⟩
end Go.Proofs.YtnchaccgenfhoaaGreat

namespace Go.Proofs.YtnchaccgenfhoaaGreat
open Go.RowKit

/-- What is told of an item that is applied. -/
def appF (k kd v : Int) : Int := if faultOf k ≠ 0 then faultOf k else if ¬ (1 ≤ kd ∧ kd ≤ 3) ∨ ¬ (0 ≤ v ∧ v ≤ 9999) then 3 else 0
def appsF (G : Nat → Int) : Nat → Nat → Int
  | 0, _ => 0
  | m + 1, k => if appF (G (k * 3)) (G (k * 3 + 1)) (G (k * 3 + 2)) ≠ 0 then appF (G (k * 3)) (G (k * 3 + 1)) (G (k * 3 + 2)) else appsF G m (k + 1)
theorem appsF_bad {G : Nat → Int} {m k : Nat} {f : Int} (hm : 0 < m) (h : appF (G (k * 3)) (G (k * 3 + 1)) (G (k * 3 + 2)) = f) (h0 : f ≠ 0) : appsF G m k = f := by
  obtain ⟨m, rfl⟩ : ∃ q, m = q + 1 := ⟨m - 1, by omega⟩
  rw [appsF, if_pos (by rw [h]; exact h0), h]
theorem appsF_on {G : Nat → Int} {m k : Nat} (hm : 0 < m) (h : appF (G (k * 3)) (G (k * 3 + 1)) (G (k * 3 + 2)) = 0) : appsF G m k = appsF G (m - 1) (k + 1) := by
  obtain ⟨m, rfl⟩ : ∃ q, m = q + 1 := ⟨m - 1, by omega⟩
  rw [appsF, if_neg (fun q => q h)]; rfl
theorem appsF_all {G : Nat → Int} : ∀ {m k : Nat}, appsF G m k = 0 → ∀ j, j < m → appF (G ((k + j) * 3)) (G ((k + j) * 3 + 1)) (G ((k + j) * 3 + 2)) = 0
  | 0, _, _, j, hj => absurd hj (Nat.not_lt_zero j)
  | m + 1, k, h, j, hj => by
    by_cases h0 : appF (G (k * 3)) (G (k * 3 + 1)) (G (k * 3 + 2)) = 0
    · rw [appsF, if_neg (fun q => q h0)] at h
      cases j with
      | zero => exact h0
      | succ j =>
        have := appsF_all h j (by omega)
        rwa [show k + 1 + j = k + (j + 1) by omega] at this
    · rw [appsF, if_pos h0] at h
      exact absurd h h0
theorem appF_zero {k kd v : Int} (h : appF k kd v = 0) : faultOf k = 0 ∧ (1 ≤ kd ∧ kd ≤ 3) ∧ (0 ≤ v ∧ v ≤ 9999) := by
  unfold appF at h
  by_cases h1 : faultOf k = 0
  · rw [if_neg (fun q => q h1)] at h
    by_cases h2 : ¬ (1 ≤ kd ∧ kd ≤ 3) ∨ ¬ (0 ≤ v ∧ v ≤ 9999)
    · rw [if_pos h2] at h; omega
    · exact ⟨h1, by omega, by omega⟩
  · rw [if_pos h1] at h; exact absurd h h1
/-- What is told of items that are applied. -/
def appliedF (m : Nat) (G : Nat → Int) : Int := if 12 < m then 2 else appsF G m 0
def ItmE (w : World) (g o i : Nat) (n0 n1 n2 : Int) (X : World) : Prop := (X.cell? ⟨g, o + i * 3, none⟩ = some (.int .i64 n0) ∧ X.cell? ⟨g, o + i * 3 + 1, none⟩ = some (.int .i64 n1) ∧ X.cell? ⟨g, o + i * 3 + 2, none⟩ = some (.int .i64 n2)) ∧ Below w.heap.size w X
theorem ItmE.later {w X X' : World} {g o i : Nat} {n0 n1 n2 : Int} (h : ItmE w g o i n0 n1 n2 X) (hb : Below X.heap.size X X') : ItmE w g o i n0 n1 n2 X' := by
  obtain ⟨⟨h0, h1, h2⟩, hy⟩ := h
  exact ⟨⟨(hb.cell (lt_cellP h0)).trans h0, (hb.cell (lt_cellP h1)).trans h1, (hb.cell (lt_cellP h2)).trans h2⟩, hy.trans (hb.mono hy.size)⟩
set_option maxRecDepth 100000 in
set_option maxHeartbeats 4000000 in
theorem l11Apply_any (L : Prs) (G : Nat → Int) (m : Nat) (v y : Value) (B B' : Nat) (w : World) (h : Row w B 2 L.length (rowL L) v) (hi' : Row w B' 3 m G y) (hn : L.length ≤ 800) (hm : m ≤ 12) (hk : ∀ i, i < m → 1 ≤ G (i * 3 + 1) ∧ G (i * 3 + 1) ≤ 3) :
    Calls Tryz.prog 61 #[v, y] w fun e w' => ∃ ao cp, e = .returned (.slice ao (applyN L G m).length cp) ∧ Own w' w.heap.size 61 2 (applyN L G m).length (rowL (applyN L G m)) (.slice ao (applyN L G m).length cp) ∧ Below w.heap.size w w' := by
  obtain ⟨ao0, cp0, rfl⟩ := h.form
  obtain ⟨bo0, bp0, rfl⟩ := hi'.form
  have H : Hid (Row w B 2 L.length (rowL L) (.slice ao0 L.length cp0) ∧ Row w B' 3 m G (.slice bo0 m bp0)) := ⟨h, hi'⟩
  clear h hi'
  obtain ⟨i0, hi, iz0, iz1, iz2⟩ := info_parts infoz_Pair
  go_enter Tryz.func61, Tryz.ntmps61
  go_wp2_with (at_builtin; refine wpList_app 61 i0 (.agg #[.int .i64 0, .int .i64 0]) 2 16 rfl _ _ 24 rfl Tryz.underlying24 hi iz0 iz1 iz2 rfl (by omega) (by omega) _ w.heap.size 0 [] (.slice (some ⟨w.heap.size, 0, none⟩) 0 0) rfl (OwnM.lit0 _ _ _ _ rfl) B L.length (rowL L) (.slice ao0 L.length cp0) rfl (H.out.1.alloc _) (by omega) (by simp) ?_; intro ao1 cp1 w2 O2 G2)
  have HS2 : Hid (Own w2 w.heap.size 61 2 L.length (rowL L) (.slice ao1 L.length cp1) ∧ Below w.heap.size w w2) := by
    rw [Nat.zero_add, List.nil_append] at O2
    exact ⟨own_eqP (O2.own (nums_length _ _)) (fun p hp => by simp [nums, hp]), (below_alloc w _).grown G2 (by simp) (fun r e => by simp [Value.ownBlock] at e; omega)⟩
  clear O2 G2
  go_wp2
  go_loopw [5, 6] (fun out i wr => ∃ (j : Nat) (ao : Option Addr) (cp : Nat), j ≤ m ∧ i = .int .i64 j ∧ out = .slice ao (applyN L G j).length cp ∧ Hid (Own wr w.heap.size 61 2 (applyN L G j).length (rowL (applyN L G j)) (.slice ao (applyN L G j).length cp) ∧ Below w.heap.size w wr)) (fun _ i _ => m - (intOf i).toNat)
  case atStart => exact ⟨0, ao1, cp1, Nat.zero_le _, rfl, rfl, HS2⟩
  case round =>
    obtain ⟨j, ao, cp, hj, rfl, rfl, HS⟩ := hrel
    by_cases hlt : j < m
    case neg =>
      obtain rfl : j = m := by omega
      go_wp2
      exact bodyPost_ret (v := .slice ao (applyN L G j).length cp) (by simp [results, Tryz.results61, go_sem]) rfl ⟨ao, cp, rfl, HS.out⟩
    have hlen : (applyN L G j).length ≤ 812 := Nat.le_trans (applyN_len L G j) (by omega)
    have hkj := hk j hlt
    obtain ⟨g, o, hbo, _, hg, y0, y1, y2⟩ := (H.out.2.later HS.out.2).at3 hlt
    subst hbo
    obtain ⟨n0, N0⟩ : ∃ x, G (j * 3) = x := ⟨_, rfl⟩
    rw [N0] at y0
    obtain ⟨n1, N1⟩ : ∃ x, G (j * 3 + 1) = x := ⟨_, rfl⟩
    rw [N1] at y1 hkj
    obtain ⟨n2, N2⟩ : ∃ x, G (j * 3 + 2) = x := ⟨_, rfl⟩
    rw [N2] at y2
    have HP : Hid (applyN L G (j + 1) = stepA (applyN L G j) n0 n1 n2) := by
      unfold Hid
      rw [← N0, ← N1, ← N2]
      rfl
    clear N0 N1 N2 HS2
    obtain ⟨A, hA⟩ : ∃ A, applyN L G j = A := ⟨_, rfl⟩
    rw [hA] at hlen HS HP
    rw [hA]
    clear hA
    by_cases k3 : n1 = 3
    · have HE : Hid (applyN L G (j + 1) = A) := by unfold Hid; rw [HP.out, stepA, if_neg (by omega), if_neg (by omega)]
      subst k3
      clear HP hkj
      go_wp2
      go_roundw
      case rel =>
        refine ⟨j + 1, ao, cp, by omega, by go_num, by rw [HE.out], ?_⟩
        rw [HE.out]
        exact HS
      case measure => simp [intOf]; omega
    have d3 : (n1 != 3) = true := bne_iff_ne.2 k3
    by_cases k1 : n1 = 1
    · have HE : Hid (applyN L G (j + 1) = setS A n0 n2 true) := by unfold Hid; rw [HP.out, stepA, if_pos k1, setS_put]
      subst k1
      clear HP hkj k3 d3
      go_wp2_with fail
      refine wp_region_held_drew (S := ItmE w g o j n0 1 n2) (by kernel_rfl) ⟨⟨y0, y1, y2⟩, HS.out.2.drew⟩ (fun hS => ?_)
      refine tkH 0 ?_ hS (fun wx hx => ?_) ?_; rotate_left
      · obtain ⟨⟨hx0, hx1, hx2⟩, _⟩ := hx; go_simp; try with_reducible rfl
      refine tkH 1 ?_ hS (fun wx hx => ?_) ?_; rotate_left
      · obtain ⟨⟨hx0, hx1, hx2⟩, _⟩ := hx; go_simp; try with_reducible rfl
      refine tkH 2 ?_ hS (fun wx hx => ?_) ?_; rotate_left
      · obtain ⟨⟨hx0, hx1, hx2⟩, _⟩ := hx; go_simp; try with_reducible rfl
      try simp only [Act.put, List.getElem_toArray, List.getElem_cons_zero, List.getElem_cons_succ, List.setIfInBounds_toArray, List.set_cons_succ, List.set_cons_zero]
      refine tkH 3 ?_ hS (fun wx hx => ?_) ?_; rotate_left
      · obtain ⟨⟨hx0, hx1, hx2⟩, _⟩ := hx; go_simp; try with_reducible rfl
      refine tkH 4 ?_ hS (fun wx hx => ?_) ?_; rotate_left
      · obtain ⟨⟨hx0, hx1, hx2⟩, _⟩ := hx; go_simp; try with_reducible rfl
      refine tkH 5 ?_ hS (fun wx hx => ?_) ?_; rotate_left
      · obtain ⟨⟨hx0, hx1, hx2⟩, _⟩ := hx; go_simp; try with_reducible rfl
      try simp only [Act.put, List.getElem_toArray, List.getElem_cons_zero, List.getElem_cons_succ, List.setIfInBounds_toArray, List.set_cons_succ, List.set_cons_zero]
      refine tkH 6 ?_ hS (fun wx hx => ?_) ?_; rotate_left
      · obtain ⟨⟨hx0, hx1, hx2⟩, _⟩ := hx; go_simp; try with_reducible rfl
      refine tkH 7 ?_ hS (fun wx hx => ?_) ?_; rotate_left
      · obtain ⟨⟨hx0, hx1, hx2⟩, _⟩ := hx; go_simp; try with_reducible rfl
      refine tkH 8 ?_ hS (fun wx hx => ?_) ?_; rotate_left
      · obtain ⟨⟨hx0, hx1, hx2⟩, _⟩ := hx; go_simp; try with_reducible rfl
      try simp only [Act.put, List.getElem_toArray, List.getElem_cons_zero, List.getElem_cons_succ, List.setIfInBounds_toArray, List.set_cons_succ, List.set_cons_zero]
      refine tkH 9 ?_ hS (fun wx hx => ?_) ?_; rotate_left
      · obtain ⟨⟨hx0, hx1, hx2⟩, _⟩ := hx; go_simp; try with_reducible rfl
      refine tkH 10 ?_ hS (fun wx hx => ?_) ?_; rotate_left
      · obtain ⟨⟨hx0, hx1, hx2⟩, _⟩ := hx; go_simp; try with_reducible rfl
      refine tkH 11 ?_ hS (fun wx hx => ?_) ?_; rotate_left
      · obtain ⟨⟨hx0, hx1, hx2⟩, _⟩ := hx; go_simp; try with_reducible rfl
      try simp only [Act.put, List.getElem_toArray, List.getElem_cons_zero, List.getElem_cons_succ, List.setIfInBounds_toArray, List.set_cons_succ, List.set_cons_zero]
      refine tkH 12 ?_ hS (fun wx hx => ?_) ?_; rotate_left
      · obtain ⟨⟨hx0, hx1, hx2⟩, _⟩ := hx; go_simp; try with_reducible rfl
      refine tkH 13 ?_ hS (fun wx hx => ?_) ?_; rotate_left
      · obtain ⟨⟨hx0, hx1, hx2⟩, _⟩ := hx; go_simp; try with_reducible rfl
      refine tkH 14 ?_ hS (fun wx hx => ?_) ?_; rotate_left
      · obtain ⟨⟨hx0, hx1, hx2⟩, _⟩ := hx; go_simp; try with_reducible rfl
      try simp only [Act.put, List.getElem_toArray, List.getElem_cons_zero, List.getElem_cons_succ, List.setIfInBounds_toArray, List.set_cons_succ, List.set_cons_zero]
      refine tkH 15 ?_ hS (fun wx hx => ?_) ?_; rotate_left
      · obtain ⟨⟨hx0, hx1, hx2⟩, _⟩ := hx; go_simp; try with_reducible rfl
      refine tkH 16 ?_ hS (fun wx hx => ?_) ?_; rotate_left
      · obtain ⟨⟨hx0, hx1, hx2⟩, _⟩ := hx; go_simp; try with_reducible rfl
      refine tkH 17 ?_ hS (fun wx hx => ?_) ?_; rotate_left
      · obtain ⟨⟨hx0, hx1, hx2⟩, _⟩ := hx; go_simp; try with_reducible rfl
      try simp only [Act.put, List.getElem_toArray, List.getElem_cons_zero, List.getElem_cons_succ, List.setIfInBounds_toArray, List.set_cons_succ, List.set_cons_zero]
      refine rdH 18 (fun K hK => ?_)
      go_simp
      go_wp2_with fail
      refine (l11Set_any A _ w.heap.size n0 n2 true _ (HS.out.1.later (Below.drew (Below.refl _ _))).row.1 (by omega)).mono ?_
      rintro e w1 ⟨ao1, cp1, rfl, o1, q1⟩
      have hS1 := hS.later q1
      have HS1 : Hid (Own w1 w.heap.size 61 2 (setS A n0 n2 true).length (rowL (setS A n0 n2 true)) (.slice ao1 (setS A n0 n2 true).length cp1) ∧ Below w.heap.size w w1) := ⟨o1.mono hS.2.size, hS1.2⟩
      clear hS q1 o1
      go_wp2_with fail
      refine hK.out _ _ hS1 (fun hS => ?_)
      clear hK K hS1
      refine tkH 19 ?_ hS (fun wx hx => ?_) ?_; rotate_left
      · obtain ⟨⟨hx0, hx1, hx2⟩, _⟩ := hx; go_simp; try with_reducible rfl
      refine wpAnyH_done (by kernel_rfl) ?_ _
      obtain ⟨LEN, hLEN⟩ : ∃ LEN, LEN = (setS A n0 n2 true).length := ⟨_, rfl⟩
      rw [← hLEN]
      have HLEN : Hid (LEN = (setS A n0 n2 true).length) := hLEN
      clear hLEN
      go_simp
      go_wp2
      go_roundw
      case rel =>
        refine ⟨j + 1, ao1, cp1, by omega, by go_num, by rw [HE.out, HLEN.out], ?_⟩
        rw [HE.out]
        exact HS1
      case measure => simp [intOf]; omega
    · have HE : Hid (applyN L G (j + 1) = setS A n0 n2 false) := by unfold Hid; rw [HP.out, stepA, if_neg k1, if_pos (by omega), setS_gone]
      obtain rfl : n1 = 2 := by omega
      clear HP hkj k3 k1 d3
      go_wp2_with fail
      refine wp_region_held_drew (S := ItmE w g o j n0 2 n2) (by kernel_rfl) ⟨⟨y0, y1, y2⟩, HS.out.2.drew⟩ (fun hS => ?_)
      refine tkH 0 ?_ hS (fun wx hx => ?_) ?_; rotate_left
      · obtain ⟨⟨hx0, hx1, hx2⟩, _⟩ := hx; go_simp; try with_reducible rfl
      refine tkH 1 ?_ hS (fun wx hx => ?_) ?_; rotate_left
      · obtain ⟨⟨hx0, hx1, hx2⟩, _⟩ := hx; go_simp; try with_reducible rfl
      refine tkH 2 ?_ hS (fun wx hx => ?_) ?_; rotate_left
      · obtain ⟨⟨hx0, hx1, hx2⟩, _⟩ := hx; go_simp; try with_reducible rfl
      try simp only [Act.put, List.getElem_toArray, List.getElem_cons_zero, List.getElem_cons_succ, List.setIfInBounds_toArray, List.set_cons_succ, List.set_cons_zero]
      refine tkH 3 ?_ hS (fun wx hx => ?_) ?_; rotate_left
      · obtain ⟨⟨hx0, hx1, hx2⟩, _⟩ := hx; go_simp; try with_reducible rfl
      refine tkH 4 ?_ hS (fun wx hx => ?_) ?_; rotate_left
      · obtain ⟨⟨hx0, hx1, hx2⟩, _⟩ := hx; go_simp; try with_reducible rfl
      refine tkH 5 ?_ hS (fun wx hx => ?_) ?_; rotate_left
      · obtain ⟨⟨hx0, hx1, hx2⟩, _⟩ := hx; go_simp; try with_reducible rfl
      try simp only [Act.put, List.getElem_toArray, List.getElem_cons_zero, List.getElem_cons_succ, List.setIfInBounds_toArray, List.set_cons_succ, List.set_cons_zero]
      refine tkH 6 ?_ hS (fun wx hx => ?_) ?_; rotate_left
      · obtain ⟨⟨hx0, hx1, hx2⟩, _⟩ := hx; go_simp; try with_reducible rfl
      refine tkH 7 ?_ hS (fun wx hx => ?_) ?_; rotate_left
      · obtain ⟨⟨hx0, hx1, hx2⟩, _⟩ := hx; go_simp; try with_reducible rfl
      refine tkH 8 ?_ hS (fun wx hx => ?_) ?_; rotate_left
      · obtain ⟨⟨hx0, hx1, hx2⟩, _⟩ := hx; go_simp; try with_reducible rfl
      try simp only [Act.put, List.getElem_toArray, List.getElem_cons_zero, List.getElem_cons_succ, List.setIfInBounds_toArray, List.set_cons_succ, List.set_cons_zero]
      refine tkH 9 ?_ hS (fun wx hx => ?_) ?_; rotate_left
      · obtain ⟨⟨hx0, hx1, hx2⟩, _⟩ := hx; go_simp; try with_reducible rfl
      refine tkH 10 ?_ hS (fun wx hx => ?_) ?_; rotate_left
      · obtain ⟨⟨hx0, hx1, hx2⟩, _⟩ := hx; go_simp; try with_reducible rfl
      refine tkH 11 ?_ hS (fun wx hx => ?_) ?_; rotate_left
      · obtain ⟨⟨hx0, hx1, hx2⟩, _⟩ := hx; go_simp; try with_reducible rfl
      try simp only [Act.put, List.getElem_toArray, List.getElem_cons_zero, List.getElem_cons_succ, List.setIfInBounds_toArray, List.set_cons_succ, List.set_cons_zero]
      refine tkH 12 ?_ hS (fun wx hx => ?_) ?_; rotate_left
      · obtain ⟨⟨hx0, hx1, hx2⟩, _⟩ := hx; go_simp; try with_reducible rfl
      refine tkH 13 ?_ hS (fun wx hx => ?_) ?_; rotate_left
      · obtain ⟨⟨hx0, hx1, hx2⟩, _⟩ := hx; go_simp; try with_reducible rfl
      refine tkH 14 ?_ hS (fun wx hx => ?_) ?_; rotate_left
      · obtain ⟨⟨hx0, hx1, hx2⟩, _⟩ := hx; go_simp; try with_reducible rfl
      try simp only [Act.put, List.getElem_toArray, List.getElem_cons_zero, List.getElem_cons_succ, List.setIfInBounds_toArray, List.set_cons_succ, List.set_cons_zero]
      refine tkH 15 ?_ hS (fun wx hx => ?_) ?_; rotate_left
      · obtain ⟨⟨hx0, hx1, hx2⟩, _⟩ := hx; go_simp; try with_reducible rfl
      refine tkH 16 ?_ hS (fun wx hx => ?_) ?_; rotate_left
      · obtain ⟨⟨hx0, hx1, hx2⟩, _⟩ := hx; go_simp; try with_reducible rfl
      refine tkH 17 ?_ hS (fun wx hx => ?_) ?_; rotate_left
      · obtain ⟨⟨hx0, hx1, hx2⟩, _⟩ := hx; go_simp; try with_reducible rfl
      try simp only [Act.put, List.getElem_toArray, List.getElem_cons_zero, List.getElem_cons_succ, List.setIfInBounds_toArray, List.set_cons_succ, List.set_cons_zero]
      refine rdH 18 (fun K hK => ?_)
      go_simp
      go_wp2_with fail
      refine (l11Set_any A _ w.heap.size n0 n2 false _ (HS.out.1.later (Below.drew (Below.refl _ _))).row.1 (by omega)).mono ?_
      rintro e w1 ⟨ao1, cp1, rfl, o1, q1⟩
      have hS1 := hS.later q1
      have HS1 : Hid (Own w1 w.heap.size 61 2 (setS A n0 n2 false).length (rowL (setS A n0 n2 false)) (.slice ao1 (setS A n0 n2 false).length cp1) ∧ Below w.heap.size w w1) := ⟨o1.mono hS.2.size, hS1.2⟩
      clear hS q1 o1
      go_wp2_with fail
      refine hK.out _ _ hS1 (fun hS => ?_)
      clear hK K hS1
      refine tkH 19 ?_ hS (fun wx hx => ?_) ?_; rotate_left
      · obtain ⟨⟨hx0, hx1, hx2⟩, _⟩ := hx; go_simp; try with_reducible rfl
      refine wpAnyH_done (by kernel_rfl) ?_ _
      obtain ⟨LEN, hLEN⟩ : ∃ LEN, LEN = (setS A n0 n2 false).length := ⟨_, rfl⟩
      rw [← hLEN]
      have HLEN : Hid (LEN = (setS A n0 n2 false).length) := hLEN
      clear hLEN
      go_simp
      go_wp2
      go_roundw
      case rel =>
        refine ⟨j + 1, ao1, cp1, by omega, by go_num, by rw [HE.out, HLEN.out], ?_⟩
        rw [HE.out]
        exact HS1
      case measure => simp [intOf]; omega
end Go.Proofs.YtnchaccgenfhoaaGreat

namespace Go.Proofs.YtnchaccgenfhoaaGreat
open Go.RowKit

theorem appF_key {k kd v : Int} (h : faultOf k ≠ 0) : appF k kd v = faultOf k := by unfold appF; rw [if_pos h]
theorem appF_kind {k kd v : Int} (h : faultOf k = 0) (h2 : ¬ (1 ≤ kd ∧ kd ≤ 3)) : appF k kd v = 3 := by unfold appF; rw [if_neg (fun q => q h), if_pos (Or.inl h2)]
theorem appF_val {k kd v : Int} (h : faultOf k = 0) (h2 : ¬ (0 ≤ v ∧ v ≤ 9999)) : appF k kd v = 3 := by unfold appF; rw [if_neg (fun q => q h), if_pos (Or.inr h2)]
theorem appF_ok {k kd v : Int} (h : faultOf k = 0) (h1 : 1 ≤ kd ∧ kd ≤ 3) (h2 : 0 ≤ v ∧ v ≤ 9999) : appF k kd v = 0 := by unfold appF; rw [if_neg (fun q => q h), if_neg (by omega)]
set_option maxRecDepth 100000 in
set_option maxHeartbeats 4000000 in
theorem appliedFault_is (y : Value) (B m : Nat) (G : Nat → Int) (w : World) (h : Row w B 3 m G y) (hm : m ≤ 1048576) :
    Calls Tryz.prog 80 #[y] w fun e w' => e = .returned (.int .i64 (appliedF m G)) ∧ Below w.heap.size w w' := by
  obtain ⟨ao, cp, rfl⟩ := h.form
  have H : Hid (Row w B 3 m G (.slice ao m cp)) := h
  clear h
  by_cases h12 : 12 < m
  · have E : Hid (appliedF m G = 2) := by unfold Hid; unfold appliedF; rw [if_pos h12]
    have d : decide ((m : Int) > 12) = true := decide_eq_true (by omega)
    go_enter Tryz.func80, Tryz.ntmps80
    go_wp2
    go_ret
    exact ⟨by rw [E.out]; rfl, Below.refl _ _⟩
  have d : decide ((m : Int) > 12) = false := decide_eq_false (by omega)
  obtain ⟨f, hf⟩ : ∃ f, appliedF m G = f := ⟨_, rfl⟩
  have HF : Hid (appsF G m 0 = f) := by unfold Hid; rw [← hf]; unfold appliedF; rw [if_neg h12]
  rw [hf]
  clear hf
  go_enter Tryz.func80, Tryz.ntmps80
  go_wp2
  go_loopw [11] (fun i wr => ∃ k : Nat, k ≤ m ∧ i = .int .i64 k ∧ Hid (appsF G (m - k) k = f) ∧ Hid (Below w.heap.size w wr)) (fun i _ => m - (intOf i).toNat)
  case atStart => exact ⟨0, Nat.zero_le _, rfl, HF, Below.refl _ _⟩
  case round =>
    obtain ⟨k, hk, rfl, HS, HB⟩ := hrel
    by_cases hlt : k < m
    case neg =>
      have E : Hid (f = 0) := by
        have := HS.out
        rw [show m - k = 0 by omega, appsF] at this
        exact this.symm
      clear HS HF
      go_wp2
      go_ret
      exact ⟨by rw [E.out]; rfl, HB.out⟩
    obtain ⟨g, o, hao, _, hg, x0, x1, x2⟩ := (H.out.later HB.out).at3 hlt
    subst hao
    have hm' : Hid (0 < m - k ∧ m - k - 1 = m - (k + 1)) := ⟨by omega, by omega⟩
    obtain ⟨n0, N0⟩ : ∃ x, G (k * 3) = x := ⟨_, rfl⟩
    rw [N0] at x0
    obtain ⟨n1, N1⟩ : ∃ x, G (k * 3 + 1) = x := ⟨_, rfl⟩
    rw [N1] at x1
    obtain ⟨n2, N2⟩ : ∃ x, G (k * 3 + 2) = x := ⟨_, rfl⟩
    rw [N2] at x2
    have HBAD : Hid (∀ q, appF n0 n1 n2 = q → q ≠ 0 → f = q) := fun q h1 h2 => by
      have E0 := HS.out
      rw [appsF_bad hm'.out.1 (by rw [N0, N1, N2]; exact h1) h2] at E0
      exact E0.symm
    have HGO : Hid (appF n0 n1 n2 = 0 → appsF G (m - (k + 1)) (k + 1) = f) := fun h1 => by
      have E0 := HS.out
      rw [appsF_on hm'.out.1 (by rw [N0, N1, N2]; exact h1), hm'.out.2] at E0
      exact E0
    clear N0 N1 N2 HS HF
    by_cases h5 : faultOf n0 = 0
    case neg =>
      obtain ⟨q, hq⟩ : ∃ q, faultOf n0 = q := ⟨_, rfl⟩
      have HQ : Hid (faultOf n0 = q) := hq
      have E : Hid (f = q) := HBAD.out q (by rw [appF_key h5]; exact hq) (by rw [← hq]; exact h5)
      have d' : (q != 0) = true := bne_iff_ne.2 (by rw [← hq]; exact h5)
      clear h5 hq HGO HBAD
      go_wp2_with fail
      refine (keyFault_any _ _).mono ?_
      rintro e w9 ⟨rfl, hw9⟩
      obtain rfl := hw9.symm
      rw [HQ.out]
      go_wp2
      go_ret
      refine ⟨by rw [E.out]; rfl, ?_⟩
      repeat (first | exact Below.refl _ _ | exact HB.out | refine Below.setCell ?_ (by first | omega | (simp <;> omega) | (have := HB.out.size; simp <;> omega)) _ | refine Below.alloc ?_ (by first | omega | (simp <;> omega) | (have := HB.out.size; simp <;> omega)) _)
    have HK : Hid (faultOf n0 = 0) := h5
    clear h5
    by_cases h6 : 1 ≤ n1 ∧ n1 ≤ 3
    case neg =>
      have E : Hid (f = 3) := HBAD.out 3 (appF_kind HK.out h6) (by omega)
      have HV : Hid (decide (1 ≤ n1 ∧ n1 ≤ 3) = false) := decide_eq_false h6
      clear h6 HGO HBAD
      go_wp2_with fail
      refine (keyFault_any _ _).mono ?_
      rintro e w9 ⟨rfl, hw9⟩
      obtain rfl := hw9.symm
      rw [HK.out]
      go_wp2_with fail
      refine (isLockKind_is _ false HV.out _).mono ?_
      rintro e w9 ⟨rfl, hw9⟩
      obtain rfl := hw9.symm
      go_wp2
      go_ret
      refine ⟨by rw [E.out]; rfl, ?_⟩
      repeat (first | exact Below.refl _ _ | exact HB.out | refine Below.setCell ?_ (by first | omega | (simp <;> omega) | (have := HB.out.size; simp <;> omega)) _ | refine Below.alloc ?_ (by first | omega | (simp <;> omega) | (have := HB.out.size; simp <;> omega)) _)
    have HV : Hid (decide (1 ≤ n1 ∧ n1 ≤ 3) = true) := decide_eq_true h6
    by_cases h7 : 0 ≤ n2 ∧ n2 ≤ 9999
    case neg =>
      have E : Hid (f = 3) := HBAD.out 3 (appF_val HK.out h7) (by omega)
      have HW : Hid (decide (0 ≤ n2 ∧ n2 ≤ 9999) = false) := decide_eq_false h7
      clear h6 h7 HGO HBAD
      go_wp2_with fail
      refine (keyFault_any _ _).mono ?_
      rintro e w9 ⟨rfl, hw9⟩
      obtain rfl := hw9.symm
      rw [HK.out]
      go_wp2_with fail
      refine (isLockKind_is _ true HV.out _).mono ?_
      rintro e w9 ⟨rfl, hw9⟩
      obtain rfl := hw9.symm
      go_wp2_with fail
      refine (isValueT_is _ false HW.out _).mono ?_
      rintro e w9 ⟨rfl, hw9⟩
      obtain rfl := hw9.symm
      go_wp2
      go_ret
      refine ⟨by rw [E.out]; rfl, ?_⟩
      repeat (first | exact Below.refl _ _ | exact HB.out | refine Below.setCell ?_ (by first | omega | (simp <;> omega) | (have := HB.out.size; simp <;> omega)) _ | refine Below.alloc ?_ (by first | omega | (simp <;> omega) | (have := HB.out.size; simp <;> omega)) _)
    have E : Hid (appsF G (m - (k + 1)) (k + 1) = f) := HGO.out (appF_ok HK.out h6 h7)
    have HW : Hid (decide (0 ≤ n2 ∧ n2 ≤ 9999) = true) := decide_eq_true h7
    clear h6 h7 HGO HBAD
    go_wp2_with fail
    refine (keyFault_any _ _).mono ?_
    rintro e w9 ⟨rfl, hw9⟩
    obtain rfl := hw9.symm
    rw [HK.out]
    go_wp2_with fail
    refine (isLockKind_is _ true HV.out _).mono ?_
    rintro e w9 ⟨rfl, hw9⟩
    obtain rfl := hw9.symm
    go_wp2_with fail
    refine (isValueT_is _ true HW.out _).mono ?_
    rintro e w9 ⟨rfl, hw9⟩
    obtain rfl := hw9.symm
    go_wp2
    go_roundw
    case rel =>
      refine ⟨k + 1, by omega, by go_num, E, ?_⟩
      show Below _ _ _
      repeat (first | exact Below.refl _ _ | exact HB.out | refine Below.setCell ?_ (by first | omega | (simp <;> omega) | (have := HB.out.size; simp <;> omega)) _ | refine Below.alloc ?_ (by first | omega | (simp <;> omega) | (have := HB.out.size; simp <;> omega)) _)
    case measure => simp [intOf]; omega
/-- What ApplyItems answers: a code, or the pairs. -/
def AppAns (n : Nat) (F : Nat → Int) (m : Nat) (G : Nat → Int) (c : Int) (R : Prs) : Prop :=
  (pairsF F n 0 ≠ 0 ∧ c = pairsF F n 0 ∧ R = []) ∨ (pairsF F n 0 = 0 ∧ appliedF m G ≠ 0 ∧ c = appliedF m G ∧ R = []) ∨ (pairsF F n 0 = 0 ∧ appliedF m G = 0 ∧ c = 0 ∧ R = applyN (listOf F n) G m)
theorem AppAns.get (n : Nat) (F : Nat → Int) (m : Nat) (G : Nat → Int) : ∃ c R, R.length ≤ 1048576 ∧ AppAns n F m G c R := by
  by_cases h : pairsF F n 0 = 0
  · by_cases h2 : appliedF m G = 0
    · refine ⟨0, applyN (listOf F n) G m, ?_, Or.inr (Or.inr ⟨h, h2, rfl, rfl⟩)⟩
      have h3 := (pairs_rise h).2
      have h4 := applyN_len (listOf F n) G m
      rw [listOf_length] at h4
      have h5 : m ≤ 12 := by
        unfold appliedF at h2
        by_cases q : 12 < m
        · rw [if_pos q] at h2; omega
        · omega
      omega
    · exact ⟨_, [], by simp, Or.inr (Or.inl ⟨h, h2, rfl, rfl⟩)⟩
  · exact ⟨_, [], by simp, Or.inl ⟨h, rfl, rfl⟩⟩
theorem appliedF_zero {m : Nat} {G : Nat → Int} (h : appliedF m G = 0) : m ≤ 12 ∧ appsF G m 0 = 0 ∧ ∀ i, i < m → 1 ≤ G (i * 3 + 1) ∧ G (i * 3 + 1) ≤ 3 := by
  unfold appliedF at h
  by_cases q : 12 < m
  · rw [if_pos q] at h; omega
  · rw [if_neg q] at h
    exact ⟨by omega, h, fun i hi => by have := appsF_all h i hi; rw [Nat.zero_add] at this; exact (appF_zero this).2.1⟩
theorem res_none {w w' : World} {c : Int} {e : Ending} (he : e = .returned (.agg #[.int .i64 c, .slice none 0 0])) (hb : Below w.heap.size w w') : ResRow 2 w c ([] : Prs).length (rowL []) e w' :=
  ⟨none, 0, he, ⟨_, _, rfl, fun q => absurd q (Nat.lt_irrefl 0)⟩, by rw [show ([] : Prs).length * 2 = 0 from rfl]; exact Free.of0 _ _, hb⟩
set_option maxRecDepth 100000 in
set_option maxHeartbeats 4000000 in
theorem implApply_is (v y : Value) (B B' n m : Nat) (F G : Nat → Int) (c : Int) (R : Prs) (w : World) (h : Row w B 2 n F v) (h' : Row w B' 3 m G y) (hn : n ≤ 1048576) (hm : m ≤ 1048576) (hA : AppAns n F m G c R) :
    Calls Tryz.prog 51 #[v, y] w (ResRow 2 w c R.length (rowL R)) := by
  have H : Hid (Row w B 2 n F v ∧ Row w B' 3 m G y) := ⟨h, h'⟩
  clear h h'
  rcases hA with ⟨h1, rfl, rfl⟩ | ⟨h1, h2, rfl, rfl⟩ | ⟨h1, h2, rfl, rfl⟩
  · obtain ⟨f, hf⟩ : ∃ f, pairsF F n 0 = f := ⟨_, rfl⟩
    have HF : Hid (pairsF F n 0 = f) := hf
    have d : (f != 0) = true := bne_iff_ne.2 (by rw [← hf]; exact h1)
    rw [hf]
    clear h1 hf
    go_enter Tryz.func51, Tryz.ntmps51
    go_wp2_with fail
    refine (implPairs_any _ B n F _ (H.out.1.alloc _) hn).mono ?_
    rintro e w1 ⟨rfl, q1⟩
    rw [HF.out]
    have hb := (Blk2.new w (.int .i64 0) (.slice none 0 0) 84).later q1
    have HB : Hid (Below w.heap.size w w1) := (below_alloc w _).trans (q1.mono (by simp))
    obtain ⟨⟨x0, x1⟩, y0, y1⟩ := hb
    clear q1
    go_wp2
    refine bodyPost_ret (v := .agg #[.int .i64 f, .slice none 0 0]) (by simp [results, Tryz.results51, go_sem, x0, x1]) rfl (res_none rfl ?_)
    exact (HB.out.setCell (by simp) _).setCell (by simp) _
  · obtain ⟨f, hf⟩ : ∃ f, appliedF m G = f := ⟨_, rfl⟩
    have HF : Hid (appliedF m G = f ∧ pairsF F n 0 = 0) := ⟨hf, h1⟩
    have d : (f != 0) = true := bne_iff_ne.2 (by rw [← hf]; exact h2)
    rw [hf]
    clear h1 h2 hf
    go_enter Tryz.func51, Tryz.ntmps51
    go_wp2_with fail
    refine (implPairs_any _ B n F _ (H.out.1.alloc _) hn).mono ?_
    rintro e w1 ⟨rfl, q1⟩
    rw [HF.out.2]
    have hb := (Blk2.new w (.int .i64 0) (.slice none 0 0) 84).later q1
    have HB1 : Hid (Below w.heap.size w w1) := (below_alloc w _).trans (q1.mono (by simp))
    clear q1
    go_wp2_with fail
    refine (appliedFault_is _ B' m G _ (H.out.2.later HB1.out) hm).mono ?_
    rintro e w2 ⟨rfl, q2⟩
    rw [HF.out.1]
    have HB : Hid (Below w.heap.size w w2) := HB1.out.trans (q2.mono HB1.out.size)
    obtain ⟨⟨x0, x1⟩, y0, y1⟩ := hb.later q2
    clear q2 hb HB1
    go_wp2
    refine bodyPost_ret (v := .agg #[.int .i64 f, .slice none 0 0]) (by simp [results, Tryz.results51, go_sem, x0, x1]) rfl (res_none rfl ?_)
    exact (HB.out.setCell (by simp) _).setCell (by simp) _
  · have HF : Hid (appliedF m G = 0 ∧ pairsF F n 0 = 0) := ⟨h2, h1⟩
    clear h1 h2
    go_enter Tryz.func51, Tryz.ntmps51
    go_wp2_with fail
    refine (implPairs_any _ B n F _ (H.out.1.alloc _) hn).mono ?_
    rintro e w1 ⟨rfl, q1⟩
    rw [HF.out.2]
    have hb := (Blk2.new w (.int .i64 0) (.slice none 0 0) 84).later q1
    have HB1 : Hid (Below w.heap.size w w1) := (below_alloc w _).trans (q1.mono (by simp))
    clear q1
    go_wp2_with fail
    refine (appliedFault_is _ B' m G _ (H.out.2.later HB1.out) hm).mono ?_
    rintro e w2 ⟨rfl, q2⟩
    rw [HF.out.1]
    have HB2 : Hid (Below w.heap.size w w2) := HB1.out.trans (q2.mono HB1.out.size)
    have hb2 := hb.later q2
    clear q2 hb HB1
    go_wp2_with fail
    refine (filled_any (listOf F n) _ B _ (row_list (H.out.1.later HB2.out)) (pairs_rise HF.out.2).1 (by rw [listOf_length]; have := (pairs_rise HF.out.2).2; omega)).mono ?_
    rintro e w3 ⟨b, rfl, hbb, hris, q3⟩
    have HI : Hid (Ris w3 b (listOf F n) ∧ Below w2.heap.size w2 w3) := ⟨hris, q3⟩
    clear hris q3
    go_wp2_with fail
    refine (applyTo_any (listOf F n) G m b _ B' w2 _ (H.out.2.later HB2.out) HI.out.2 hbb HI.out.1 (pairs_rise HF.out.2).1 (by rw [listOf_length]; have := (pairs_rise HF.out.2).2; omega) (appliedF_zero HF.out.1).1).mono ?_
    rintro e w4 ⟨rfl, hris, q4⟩
    obtain ⟨rv, hr1, hr2⟩ := hris
    obtain ⟨ro, rc, rfl⟩ := hr2.form
    have hbw : w.heap.size < b := Nat.lt_of_lt_of_le hb2.lt hbb
    obtain ⟨⟨x0, x1⟩, y0, y1⟩ := hb2.later q4
    obtain ⟨⟨r0, r1⟩, _, _⟩ := hr1
    have HR : Hid (Own w4 (b + 1) 61 2 (applyN (listOf F n) G m).length (rowL (applyN (listOf F n) G m)) (.slice ro (applyN (listOf F n) G m).length rc) ∧ Below w.heap.size w w4) := ⟨hr2, HB2.out.trans (q4.mono HB2.out.size)⟩
    clear hr2 q4 hb2
    obtain ⟨A, hA⟩ : ∃ A, applyN (listOf F n) G m = A := ⟨_, rfl⟩
    have HAA : Hid (applyN (listOf F n) G m = A) := hA
    rw [hA] at HR r0
    clear hA
    go_wp2
    refine bodyPost_ret (v := .agg #[.int .i64 0, .slice ro A.length rc]) (by simp [results, Tryz.results51, go_sem, x0, x1]) rfl ?_
    rw [HAA.out]
    refine ⟨ro, rc, rfl, ?_, ?_, ?_⟩
    · exact ((HR.out.1.row.1.far (Or.inl (by simp; omega)) _).far (Or.inl (by simp; omega)) _).mono (by omega)
    · exact (HR.out.1.row.2.far _ _).far _ _
    · exact (HR.out.2.setCell (by simp) _).setCell (by simp) _
end Go.Proofs.YtnchaccgenfhoaaGreat

namespace Go.Proofs.YtnchaccgenfhoaaGreat
open Go.RowKit

theorem kI_ok {a : Int} (h : 0 ≤ a ∧ a ≤ 9) : faultOf (kI a) = 0 := faultOf_ok (by unfold kI; omega)
theorem kB_ok {a : Int} (h : 0 ≤ a ∧ a ≤ 9) : faultOf (kB a) = 0 := faultOf_ok (by unfold kB; omega)
theorem appsF_of {G : Nat → Int} : ∀ {m k : Nat}, (∀ j, j < m → appF (G ((k + j) * 3)) (G ((k + j) * 3 + 1)) (G ((k + j) * 3 + 2)) = 0) → appsF G m k = 0
  | 0, _, _ => rfl
  | m + 1, k, h => by
    rw [appsF, if_neg (by have := h 0 (Nat.succ_pos _); simpa using this)]
    exact appsF_of fun j hj => by
      have := h (j + 1) (by omega)
      rwa [show k + (j + 1) = k + 1 + j by omega] at this
/-- What is written, and how many: items without a fault. -/
def ItemsOk (m : Nat) (W : List Int) : Prop := appliedF m (fun p => W.getD p 0) = 0 ∧ W.length = m * 3
theorem items0 : ItemsOk 0 [] := ⟨rfl, rfl⟩
theorem items1 {a0 a1 a2 : Int} (h0 : appF a0 a1 a2 = 0) : ItemsOk 1 [a0, a1, a2] := by
  refine ⟨?_, rfl⟩
  unfold appliedF
  rw [if_neg (by omega)]
  exact appsF_of fun j hj => by
    match j, hj with
    | 0, _ => exact h0
theorem items2 {a0 a1 a2 b0 b1 b2 : Int} (h0 : appF a0 a1 a2 = 0) (h1 : appF b0 b1 b2 = 0) : ItemsOk 2 [a0, a1, a2, b0, b1, b2] := by
  refine ⟨?_, rfl⟩
  unfold appliedF
  rw [if_neg (by omega)]
  exact appsF_of fun j hj => by
    match j, hj with
    | 0, _ => exact h0
    | 1, _ => exact h1
theorem items3 {a0 a1 a2 b0 b1 b2 c0 c1 c2 : Int} (h0 : appF a0 a1 a2 = 0) (h1 : appF b0 b1 b2 = 0) (h2 : appF c0 c1 c2 = 0) : ItemsOk 3 [a0, a1, a2, b0, b1, b2, c0, c1, c2] := by
  refine ⟨?_, rfl⟩
  unfold appliedF
  rw [if_neg (by omega)]
  exact appsF_of fun j hj => by
    match j, hj with
    | 0, _ => exact h0
    | 1, _ => exact h1
    | 2, _ => exact h2
theorem op_value {kd d n td tn vv : Int} (h : opF kd d n td tn vv = 0) : 0 ≤ vv ∧ vv ≤ 9999 := by
  unfold opF at h
  cases h1 : suitsB kd td tn vv with
  | false => rw [h1] at h; simp at h
  | true =>
    cases h2 : boundsB d n td tn vv with
    | false => rw [h1, h2] at h; simp at h
    | true =>
      have b := of_decide_eq_true h2
      exact b.2.2.2.2
/-- Whatever an operation finds: with a reply nothing is written; what is written has no fault. -/
theorem reply_items {L : Prs} (hv : ∀ k, 0 ≤ (lookF L k).2 ∧ (lookF L k).2 ≤ 9999) {kd d n td tn vv : Int} (ho : opF kd d n td tn vv = 0) :
    ItemsOk (replyP L kd d n td tn vv).2.2.2.1 (replyP L kd d n td tn vv).2.2.2.2 ∧ ((replyP L kd d n td tn vv).1 ≠ 0 → (replyP L kd d n td tn vv).2.2.2.1 = 0) ∧ (0 ≤ (replyP L kd d n td tn vv).2.1 ∧ (replyP L kd d n td tn vv).2.1 ≤ 9999) := by
  obtain ⟨hkd, hd, hn, htd, htn⟩ := op_bounds ho
  have hvv := op_value ho
  have hc : 0 ≤ minC (lookF L (kE d n)).2 ∧ minC (lookF L (kE d n)).2 ≤ 9 := minC_in (hv _).1
  have hcv := hv (kI (minC (lookF L (kE d n)).2))
  have hbv := hv (kB (minC (lookF L (kE d n)).2))
  have h0v := hv 0
  have e0 : faultOf (0 : Int) = 0 := by decide
  unfold replyP
  split
  · split
    · split
      · exact ⟨items0, fun _ => rfl, by simp only; omega⟩
      · unfold makeP
        split
        · rename_i hnx
          exact ⟨items3 (appF_ok e0 (by omega) (by omega)) (appF_ok (kI_ok (by omega)) (by omega) (by split <;> omega)) (appF_ok (kE_ok hd hn) (by omega) (by omega)), fun h => absurd rfl h, by simp only; omega⟩
        · exact ⟨items0, fun _ => rfl, by simp only; omega⟩
    · split
      · unfold childP
        generalize minC (lookF L (kE d n)).2 = c at hc hcv hbv ⊢
        generalize (lookF L (kI c)).2 = cv at hcv ⊢
        split
        · unfold removeP
          split
          · split
            · exact ⟨items2 (appF_ok (kE_ok hd hn) (by omega) (by omega)) (appF_ok (kI_ok hc) (by omega) (by omega)), fun h => absurd rfl h, by simp only; omega⟩
            · exact ⟨items0, fun _ => rfl, by simp only; omega⟩
          · split
            · exact ⟨items2 (appF_ok (kE_ok hd hn) (by omega) (by omega)) (appF_ok (kI_ok hc) (by omega) (by omega)), fun h => absurd rfl h, by simp only; omega⟩
            · exact ⟨items3 (appF_ok (kE_ok hd hn) (by omega) (by omega)) (appF_ok (kI_ok hc) (by omega) (by omega)) (appF_ok (kB_ok hc) (by omega) (by omega)), fun h => absurd rfl h, by simp only; omega⟩
        · split
          · unfold moveP
            split
            · exact ⟨items0, fun _ => rfl, by simp only; omega⟩
            · split
              · exact ⟨items2 (appF_ok (kE_ok hd hn) (by omega) (by omega)) (appF_ok (kE_ok htd htn) (by omega) (by omega)), fun h => absurd rfl h, by simp only; omega⟩
              · exact ⟨items0, fun _ => rfl, by simp only; omega⟩
          · split
            · unfold linkP
              split
              · exact ⟨items0, fun _ => rfl, by simp only; omega⟩
              · split
                · split
                  · exact ⟨items0, fun _ => rfl, by simp only; omega⟩
                  · exact ⟨items2 (appF_ok (kI_ok hc) (by omega) (by omega)) (appF_ok (kE_ok htd htn) (by omega) (by omega)), fun h => absurd rfl h, by simp only; omega⟩
                · exact ⟨items0, fun _ => rfl, by simp only; omega⟩
            · split
              · exact ⟨items0, fun h => absurd rfl h, by simp only; omega⟩
              · split
                · exact ⟨items0, fun _ => rfl, by simp only; omega⟩
                · split
                  · exact ⟨items1 (appF_ok (kB_ok hc) (by omega) (by omega)), fun h => absurd rfl h, by simp only; omega⟩
                  · exact ⟨items0, fun _ => rfl, by simp only; omega⟩
      · exact ⟨items0, fun _ => rfl, by simp only; omega⟩
  · exact ⟨items0, fun _ => rfl, by simp only; omega⟩
/-- A list of pairs that has no fault. -/
def GoodP (L : Prs) : Prop := Rises L ∧ ∀ e ∈ L, faultOf e.1 = 0 ∧ 0 ≤ e.2 ∧ e.2 ≤ 9999
theorem good_of_pairs {F : Nat → Int} {n : Nat} (h : pairsF F n 0 = 0) : GoodP (listOf F n) := by
  refine ⟨(pairs_rise h).1, fun e he => ⟨?_, pairs_vals h e he⟩⟩
  unfold listOf at he
  obtain ⟨k, hk, rfl⟩ := List.mem_map.1 he
  have := pairsF_all h k (List.mem_range.1 hk)
  rw [Nat.zero_add] at this
  exact (pairF_zero this).1
theorem pairsF_of {F : Nat → Int} : ∀ {m k : Nat}, (∀ j, j < m → pairF F (k + j) = 0) → pairsF F m k = 0
  | 0, _, _ => rfl
  | m + 1, k, h => by
    rw [pairsF, if_neg (by have := h 0 (Nat.succ_pos _); simpa using this)]
    exact pairsF_of fun j hj => by
      have := h (j + 1) (by omega)
      rwa [show k + (j + 1) = k + 1 + j by omega] at this
theorem pairs_of_good {L : Prs} (h : GoodP L) : pairsF (rowL L) L.length 0 = 0 := by
  refine pairsF_of fun j hj => ?_
  rw [Nat.zero_add]
  have hm : L.getD j (0, 0) ∈ L := by
    rw [List.getD_eq_getElem?_getD, List.getElem?_eq_getElem hj]
    exact List.getElem_mem hj
  have he := h.2 _ hm
  refine pairF_ok (rowL_key L j) (rowL_val L j) rfl he.1 he.2 (fun q => ?_)
  have hr := List.pairwise_iff_getElem.1 h.1 (j - 1) j (by omega) hj (by omega)
  rw [rowL_key] at q
  rw [List.getD_eq_getElem?_getD, List.getElem?_eq_getElem hj, List.getD_eq_getElem?_getD, List.getElem?_eq_getElem (show j - 1 < L.length by omega)] at q
  simp only [Option.getD_some] at q
  omega
theorem listOf_rowL (L : Prs) : listOf (rowL L) L.length = L := by
  apply List.ext_getElem
  · rw [listOf_length]
  · intro i h1 h2
    have := listOf_get (F := rowL L) h2
    rw [List.getD_eq_getElem?_getD, List.getElem?_eq_getElem h1, Option.getD_some, rowL_key, rowL_val, List.getD_eq_getElem?_getD, List.getElem?_eq_getElem h2] at this
    simpa using this
theorem GoodP.step {L : Prs} (h : GoodP L) {k kd v : Int} (hi : appF k kd v = 0) : GoodP (stepA L k kd v) := by
  have h3 := appF_zero hi
  refine ⟨stepA_rises h.1 k kd v, fun e he => ?_⟩
  unfold stepA at he
  split at he
  · rcases putPr_mem he with rfl | q
    · exact ⟨h3.1, h3.2.2⟩
    · exact h.2 e q
  · split at he
    · exact h.2 e (List.mem_filter.1 he).1
    · exact h.2 e he
theorem GoodP.apply {L : Prs} (h : GoodP L) {G : Nat → Int} : ∀ {m : Nat}, (∀ i, i < m → appF (G (i * 3)) (G (i * 3 + 1)) (G (i * 3 + 2)) = 0) → GoodP (applyN L G m)
  | 0, _ => h
  | m + 1, hi => (GoodP.apply h (m := m) (fun i him => hi i (by omega))).step (hi m (Nat.lt_succ_self _))
theorem ItemsOk.all {m : Nat} {W : List Int} (h : ItemsOk m W) : ∀ i, i < m → appF (W.getD (i * 3) 0) (W.getD (i * 3 + 1) 0) (W.getD (i * 3 + 2) 0) = 0 := fun i hi => by
  have := appsF_all (appliedF_zero h.1).2.1 i hi
  rwa [Nat.zero_add] at this
theorem GoodP.vals {L : Prs} (h : GoodP L) : ∀ k, 0 ≤ (lookF L k).2 ∧ (lookF L k).2 ≤ 9999 := lookF_val fun e he => (h.2 e he).2
theorem GoodP.len {L : Prs} (h : GoodP L) : L.length ≤ 200 := by
  have := (pairs_rise (pairs_of_good h)).2
  exact this
/-- What an operation comes to: its reply, its value, the view behind it. -/
def applyP (L : Prs) (kd d n td tn vv : Int) : Int × Int × Prs :=
  ((replyP L kd d n td tn vv).1, (replyP L kd d n td tn vv).2.1, applyN L (fun p => (replyP L kd d n td tn vv).2.2.2.2.getD p 0) (replyP L kd d n td tn vv).2.2.2.1)
theorem GoodP.applyOp {L : Prs} (h : GoodP L) {kd d n td tn vv : Int} (ho : opF kd d n td tn vv = 0) : GoodP (applyP L kd d n td tn vv).2.2 :=
  h.apply ((reply_items h.vals ho).1.all)
end Go.Proofs.YtnchaccgenfhoaaGreat

namespace Go.Proofs.YtnchaccgenfhoaaGreat
open Go.RowKit

theorem look_mem {L : Prs} {k : Int} (h : (lookF L k).1 = true) : (k, (lookF L k).2) ∈ L := by
  unfold lookF at h ⊢
  split
  · rename_i e he
    have h1 := List.mem_of_find?_eq_some he
    have h2 := List.find?_some he
    have h3 : e.1 = k := by simpa using h2
    rw [← h3]
    exact h1
  · rename_i he
    rw [he] at h
    cases h
theorem parts_entry {d i : Int} (hd : 0 ≤ d ∧ d ≤ 9) (hi : 0 ≤ i ∧ i ≤ 5) : partK (kE d i) = 2 ∧ partA (kE d i) = d := by
  have hf := kE_ok hd hi
  rcases parts_ways (kE d i) with ⟨h, _⟩ | ⟨h1, _⟩ | ⟨h1, h2, _⟩ | ⟨_, _, _, _, e1, e2, _⟩ | ⟨h1, _⟩
  · exact absurd hf h
  · unfold kE at h1; omega
  · unfold kE at h2; omega
  · exact ⟨e1, by rw [e2]; unfold kE; omega⟩
  · unfold kE at h1; omega
theorem linkN_filter (a : Int) : ∀ L : Prs, linkN L a = (L.filter fun e => partK e.1 == 2 && e.2 == a).length
  | [] => rfl
  | e :: t => by
    have ih := linkN_filter a t
    unfold linkN toL at ih ⊢
    rw [lnkL, List.filter_append, List.length_append, ih]
    by_cases h : partK e.1 = 2
    · rw [if_pos h]
      by_cases h2 : e.2 = a
      · simp [h, h2]; omega
      · simp [h2]
    · rw [if_neg h]
      simp [h]
theorem all_of {L : Prs} {p : Int × Int → Bool} (h : (L.all fun e => !(p e)) = true) {e : Int × Int} (he : e ∈ L) : p e = false := by
  have := List.all_eq_true.1 h e he
  simpa using this
def pw (c : Int) : Nat := 6 * 2 ^ (9 - c).toNat
end Go.Proofs.YtnchaccgenfhoaaGreat

namespace Go.Proofs.YtnchaccgenfhoaaGreat
open Go.RowKit

/-- A source at block b: the bytes that it draws from, and how often it drew. -/
structure Src (w : World) (b : Nat) (o : Option Addr) (len cap : Nat) (at' : Int) : Prop where
  code : w.cell? ⟨b, 0, none⟩ = some (.slice o len cap)
  count : w.cell? ⟨b, 1, none⟩ = some (.int .i64 at')
  live : w.frozen? ⟨b, 1, none⟩ = false
  pos : 0 ≤ at'
  bytes : ∀ j, j < len → ∃ (g off : Nat) (n : Int), o = some ⟨g, off, none⟩ ∧ g ≠ b ∧ w.cell? ⟨g, off + j, none⟩ = some (.int .u8 n) ∧ 0 ≤ n ∧ n < 256

theorem Src.next {w : World} {b : Nat} {o : Option Addr} {len cap : Nat} {a : Int} (h : Src w b o len cap a) : Src (w.setCell ⟨b, 1, none⟩ (.int .i64 (a + 1))) b o len cap (a + 1) where
  code := (World.cell?_setCell_other _ _ _ _ (by simp)).trans h.code
  count := World.cell?_setCell_same _ _ _ h.count
  live := (World.frozen?_setCell _ _ _ _).trans h.live
  pos := by have := h.pos; omega
  bytes := fun j hj => by
    obtain ⟨g, off, n, e1, e2, e3, e4⟩ := h.bytes j hj
    exact ⟨g, off, n, e1, e2, (World.cell?_setCell_other _ _ _ _ (fun e => e2 (congrArg Addr.block e).symm)).trans e3, e4⟩
theorem Src.drewN {w : World} {b : Nat} {o : Option Addr} {len cap : Nat} {a : Int} (h : Src w b o len cap a) (n : Nat) : Src (w.drewN n) b o len cap a := ⟨h.code, h.count, h.live, h.pos, h.bytes⟩
/-- The world but for block b is as it was. -/
def But (b : Nat) (w w' : World) : Prop := w.grownBy w' (some b)
theorem But.next (w : World) (b : Nat) (v : Value) : But b w (w.setCell ⟨b, 1, none⟩ v) :=
  ⟨rfl, rfl, rfl, by simp [World.setCell], fun k _ hk => Below.heap_setCell w ⟨b, 1, none⟩ v k (fun e => hk (by simp [e]))⟩

set_option maxHeartbeats 400000 in
theorem l1Next_less (w : World) (b : Nat) (o : Option Addr) (len cap : Nat) (a n : Int) (h : Src w b o len cap a) (ha : a ≤ 1000000) (hn : n < 1) :
    Calls Tryz.prog 42 #[.pointer (some ⟨b, 0, none⟩), .int .i64 n] w fun e w' => e = .returned (.int .i64 0) ∧ w' = w.setCell ⟨b, 1, none⟩ (.int .i64 (a + 1)) := by
  have h1 := h.count
  have h2 := h.live
  have h3 := h.pos
  clear h
  go_enter Tryz.func42, Tryz.ntmps42
  go_wp2
  go_ret
  exact ⟨rfl, rfl⟩
set_option maxHeartbeats 400000 in
theorem l1Next_none (w : World) (b : Nat) (o : Option Addr) (cap : Nat) (a n : Int) (h : Src w b o 0 cap a) (ha : a ≤ 1000000) (hn : 1 ≤ n) :
    Calls Tryz.prog 42 #[.pointer (some ⟨b, 0, none⟩), .int .i64 n] w fun e w' => e = .returned (.int .i64 ((a * 7) % n)) ∧ w' = w.setCell ⟨b, 1, none⟩ (.int .i64 (a + 1)) := by
  have g0 := h.next.code
  have g1 := h.next.count
  have h1 := h.count
  have h2 := h.live
  have h3 := h.pos
  clear h
  go_enter Tryz.func42, Tryz.ntmps42
  go_wp2
  go_ret
  exact ⟨rfl, rfl⟩
set_option maxHeartbeats 400000 in
theorem l1Next_some (w : World) (b g off : Nat) (len cap : Nat) (a n x : Int) (h : Src w b (some ⟨g, off, none⟩) len cap a) (ha : a ≤ 1000000) (hl : 0 < len) (hl2 : len ≤ 1048576) (hn : 1 ≤ n) (hn2 : n ≤ 200)
    (hc : w.cell? ⟨g, off + (a % len).toNat, none⟩ = some (.int .u8 x)) (hg : g ≠ b) (x0 : 0 ≤ x) (x1 : x < 256) :
    Calls Tryz.prog 42 #[.pointer (some ⟨b, 0, none⟩), .int .i64 n] w fun e w' => e = .returned (.int .i64 ((x + a / len * 37) % n)) ∧ ∃ m, w' = (w.setCell ⟨b, 1, none⟩ (.int .i64 (a + 1))).drewN m := by
  have g0 := h.next.code
  have g1 := h.next.count
  have gc : (w.setCell ⟨b, 1, none⟩ (.int .i64 (a + 1))).cell? ⟨g, off + (a % len).toNat, none⟩ = some (.int .u8 x) := (World.cell?_setCell_other _ _ _ _ (fun e => hg (congrArg Addr.block e).symm)).trans hc
  have h1 := h.count
  have h2 := h.live
  have h3 := h.pos
  clear h hc
  have q0 : 0 ≤ a / len := Int.ediv_nonneg h3 (by omega)
  have q1 : a / len ≤ a := Int.ediv_le_self _ h3
  have r0 : 0 ≤ a % len := Int.emod_nonneg _ (by omega)
  have r1 : a % len < len := Int.emod_lt_of_pos _ (by omega)
  have hl0 : ((len : Int) == 0) = false := beq_eq_false_iff_ne.2 (by omega)
  go_enter Tryz.func42, Tryz.ntmps42
  go_wp2
  go_quiet (fail)
  go_wp2
  go_ret
  exact ⟨rfl, _, rfl⟩
set_option maxHeartbeats 400000 in
theorem l1Next_big (w : World) (b g off : Nat) (len cap : Nat) (a n x y : Int) (h : Src w b (some ⟨g, off, none⟩) len cap a) (ha : a ≤ 1000000) (hl : 0 < len) (hl2 : len ≤ 1048576) (hn : 200 < n)
    (hc : w.cell? ⟨g, off + (a % len).toNat, none⟩ = some (.int .u8 x)) (hd : w.cell? ⟨g, off + ((a + 1) % len).toNat, none⟩ = some (.int .u8 y)) (hg : g ≠ b) (x0 : 0 ≤ x) (x1 : x < 256) (y0 : 0 ≤ y) (y1 : y < 256) :
    Calls Tryz.prog 42 #[.pointer (some ⟨b, 0, none⟩), .int .i64 n] w fun e w' => e = .returned (.int .i64 (((x + a / len * 37) * 251 + y * 13 + a) % n)) ∧ ∃ m, w' = (w.setCell ⟨b, 1, none⟩ (.int .i64 (a + 1))).drewN m := by
  have g0 := h.next.code
  have g1 := h.next.count
  have gc : (w.setCell ⟨b, 1, none⟩ (.int .i64 (a + 1))).cell? ⟨g, off + (a % len).toNat, none⟩ = some (.int .u8 x) := (World.cell?_setCell_other _ _ _ _ (fun e => hg (congrArg Addr.block e).symm)).trans hc
  have gd : (w.setCell ⟨b, 1, none⟩ (.int .i64 (a + 1))).cell? ⟨g, off + ((a + 1) % len).toNat, none⟩ = some (.int .u8 y) := (World.cell?_setCell_other _ _ _ _ (fun e => hg (congrArg Addr.block e).symm)).trans hd
  have h1 := h.count
  have h2 := h.live
  have h3 := h.pos
  clear h hc hd
  have q0 : 0 ≤ a / len := Int.ediv_nonneg h3 (by omega)
  have q1 : a / len ≤ a := Int.ediv_le_self _ h3
  have r0 : 0 ≤ a % len := Int.emod_nonneg _ (by omega)
  have r1 : a % len < len := Int.emod_lt_of_pos _ (by omega)
  have s0 : 0 ≤ (a + 1) % len := Int.emod_nonneg _ (by omega)
  have s1 : (a + 1) % len < len := Int.emod_lt_of_pos _ (by omega)
  have hl0 : ((len : Int) == 0) = false := beq_eq_false_iff_ne.2 (by omega)
  go_enter Tryz.func42, Tryz.ntmps42
  go_wp2
  go_quiet (fail)
  go_wp2
  go_quiet (fail)
  go_wp2
  go_ret
  exact ⟨rfl, _, rfl⟩

theorem But.drewN {b : Nat} {w w' : World} (h : But b w w') (n : Nat) : But b w (w'.drewN n) := ⟨h.os, h.tape, h.output, h.size, h.block⟩
/-- Whatever it draws from: a number in its bounds; its count goes on by one; all else stays. -/
theorem l1Next_any (w : World) (b : Nat) (o : Option Addr) (len cap : Nat) (a n : Int) (h : Src w b o len cap a) (ha : a ≤ 1000000) (hl : len ≤ 1048576) :
    Calls Tryz.prog 42 #[.pointer (some ⟨b, 0, none⟩), .int .i64 n] w fun e w' => ∃ r : Int, e = .returned (.int .i64 r) ∧ 0 ≤ r ∧ (1 ≤ n → r < n) ∧ Src w' b o len cap (a + 1) ∧ But b w w' := by
  by_cases hn : n < 1
  · exact (l1Next_less w b o len cap a n h ha hn).mono fun e w' ⟨he, hw⟩ => ⟨0, he, Int.le_refl _, fun h1 => by omega, hw ▸ h.next, hw ▸ But.next _ _ _⟩
  by_cases h0 : len = 0
  · subst h0
    exact (l1Next_none w b o cap a n h ha (by omega)).mono fun e w' ⟨he, hw⟩ => ⟨_, he, Int.emod_nonneg _ (by omega), fun _ => Int.emod_lt_of_pos _ (by omega), hw ▸ h.next, hw ▸ But.next _ _ _⟩
  · have h3 := h.pos
    have r0 : 0 ≤ a % len := Int.emod_nonneg _ (by omega)
    have r1 : a % len < len := Int.emod_lt_of_pos _ (by omega)
    have s0 : 0 ≤ (a + 1) % len := Int.emod_nonneg _ (by omega)
    have s1 : (a + 1) % len < len := Int.emod_lt_of_pos _ (by omega)
    obtain ⟨g, off, x, rfl, hg, hx, x0, x1⟩ := h.bytes (a % len).toNat (by omega)
    obtain ⟨g', off', y, he', hg', hy, y0, y1⟩ := h.bytes ((a + 1) % len).toNat (by omega)
    simp only [Option.some.injEq, Addr.mk.injEq, and_true] at he'
    obtain ⟨rfl, rfl⟩ := he'
    by_cases h2 : 200 < n
    · exact (l1Next_big w b g off len cap a n x y h ha (by omega) hl h2 hx hy hg x0 x1 y0 y1).mono fun e w' ⟨he, m, hw⟩ => ⟨_, he, Int.emod_nonneg _ (by omega), fun _ => Int.emod_lt_of_pos _ (by omega), hw ▸ h.next.drewN m, hw ▸ (But.next _ _ _).drewN m⟩
    · exact (l1Next_some w b g off len cap a n x h ha (by omega) hl (by omega) (by omega) hx hg x0 x1).mono fun e w' ⟨he, m, hw⟩ => ⟨_, he, Int.emod_nonneg _ (by omega), fun _ => Int.emod_lt_of_pos _ (by omega), hw ▸ h.next.drewN m, hw ▸ (But.next _ _ _).drewN m⟩
end Go.Proofs.YtnchaccgenfhoaaGreat

