/-
  Own text. The program's scan and ScanAt: a code, and a new row of pairs.
-/
import Derived.Test.YtjhloobjbbdmcaiGreatDoorStorM
import Derived.Test.YtjhloobjbbdmcaiGreatDoorStorQ
namespace Go.Proofs.YtjhloobjbbdmcaiGreatDoor
open Go.RowKit

set_option maxHeartbeats 400000 in
theorem boundsFit_yes (a b : Int) (w : World) (ha : 0 ≤ a) (ha2 : a ≤ 200) (hb : 0 ≤ b) (hb2 : b ≤ 200) :
    Calls Tryz.prog 61 #[.int .i64 a, .int .i64 b] w fun e w' => e = .returned (.bool true) ∧ w' = w := by
  have d2 : decide (b ≤ 200) = true := decide_eq_true hb2
  go_enter Tryz.func61, Tryz.ntmps61
  go_wp2
  go_ret
  exact ⟨rfl, rfl⟩
set_option maxHeartbeats 400000 in
theorem boundsFit_no (a b : Int) (w : World) (h : (a < 0 ∨ 200 < a) ∨ (b < 0 ∨ 200 < b)) :
    Calls Tryz.prog 61 #[.int .i64 a, .int .i64 b] w fun e w' => e = .returned (.bool false) ∧ w' = w := by
  by_cases ha : a < 0
  · clear h
    have d0 : decide (0 ≤ a) = false := decide_eq_false (by omega)
    go_enter Tryz.func61, Tryz.ntmps61
    go_wp2
    go_ret
    exact ⟨rfl, rfl⟩
  by_cases ha2 : 200 < a
  · clear h
    have d1 : decide (a ≤ 200) = false := decide_eq_false (by omega)
    go_enter Tryz.func61, Tryz.ntmps61
    go_wp2
    go_ret
    exact ⟨rfl, rfl⟩
  have d1 : decide (a ≤ 200) = true := decide_eq_true (by omega)
  by_cases hb : b < 0
  · clear h
    have d0 : decide (0 ≤ b) = false := decide_eq_false (by omega)
    go_enter Tryz.func61, Tryz.ntmps61
    go_wp2
    go_ret
    exact ⟨rfl, rfl⟩
  have d2 : decide (b ≤ 200) = false := decide_eq_false (by omega)
  clear h
  go_enter Tryz.func61, Tryz.ntmps61
  go_wp2
  go_ret
  exact ⟨rfl, rfl⟩
theorem info_Pair : (Tryz.prog.info? 89).map (fun i => (i.zero, i.size, i.bytes)) = some (some (.agg #[.int .i64 0, .int .i64 0]), 2, 16) := by kernel_rfl
/-- What scan tells: an error where a key is blocked, else the pairs. -/
def ScanTold (S : Sto) (ts a : Int) (m B : Nat) (w' : World) (v er : Value) : Prop :=
  (anyBlocks S ts a m ∧ v = .slice none 0 0 ∧ er = .iface 125 (.agg #[.int .i64 1])) ∨ (¬ anyBlocks S ts a m ∧ er = .nilIface ∧ OwnL w' B 89 v (scanN S ts a m) (scanL S ts a m))
set_option maxRecDepth 100000 in
set_option maxHeartbeats 4000000 in
theorem scan_any (S : Sto) (B b g : Nat) (u1 u2 : Value) (fr to ts : Int) (w : World) (h : Cols w B b S.nc (cellM S S.nc) S.nl S.l S.nw S.k g u1 u2) (hz : storeF S = 0) (ha : 0 ≤ fr) (ha2 : fr ≤ 200) (hb : 0 ≤ to) (hb2 : to ≤ 200) :
    Calls Tryz.prog 62 #[.pointer (some ⟨b, 0, none⟩), .int .i64 fr, .int .i64 to, .int .i64 ts] w fun e w' => ∃ v er, e = .returned (.tuple #[v, er]) ∧ ScanTold S ts fr (to - fr).toNat w.heap.size w' v er ∧ Below w.heap.size w w' := by
  have Z := storeF_zero hz
  have H : Hid (Cols w B b S.nc (cellM S S.nc) S.nl S.l S.nw S.k g u1 u2) := h
  have HZ : Hid (scan (cellF S.c) S.nc = 0 ∧ (S.nc ≤ 200 ∧ S.nl ≤ 200 ∧ S.nw ≤ 200)) := ⟨Z.2.1, Z.1⟩
  have HW : Hid (∀ i, i < S.nw → 1 ≤ S.k (i * 4 + 3) ∧ Wf (S.k (i * 4 + 2))) := fun i hi => by have := writeF_zero (scan_zero Z.2.2.2.1 i hi); exact ⟨by omega, wf_small (by omega) (by omega)⟩
  have HN : Hid (needs S) := Z.2.2.2.2.1
  clear h hz Z
  obtain ⟨i0, hi, hz0, hz1, hz2⟩ := info_parts info_Pair
  go_enter Tryz.func62, Tryz.ntmps62
  go_wp2
  go_loopw [10, 11] (fun v k wr => ∃ m : Nat, k = .int .i64 (fr + m) ∧ m ≤ (to - fr).toNat ∧ Hid (OwnL wr w.heap.size 89 v (scanN S ts fr m) (scanL S ts fr m)) ∧ Hid (∀ q, q < m → ¬ blocks S.l S.nl (fr + q) ts) ∧ Hid (Below w.heap.size w wr)) (fun _ k _ => (to - intOf k).toNat)
  case atStart => exact ⟨0, by go_num, by omega, OwnL.nil _ _ _, fun q hq => absurd hq (Nat.not_lt_zero q), Below.refl _ _⟩
  case round =>
    obtain ⟨m, rfl, hm, HO, HS, HB⟩ := hrel
    obtain ⟨ao, cp, rfl⟩ := HO.out.form
    by_cases hlt : fr + m < to
    case neg =>
      have em : (to - fr).toNat = m := by omega
      have E : Hid (ScanTold S ts fr (to - fr).toNat w.heap.size wr (.slice ao (scanN S ts fr m) cp) .nilIface) := by
        unfold Hid
        rw [em]
        exact Or.inr ⟨fun ⟨q, hq, hk⟩ => HS.out q hq hk, rfl, HO.out⟩
      clear em HS HO
      go_wp2
      go_ret2
      exact ⟨_, _, rfl, E.out, HB.out⟩
    have hC : Hid (Cols wr B b S.nc (cellM S S.nc) S.nl S.l S.nw S.k g u1 u2) := H.out.later HB.out
    obtain ⟨key, hkey⟩ : ∃ key, fr + (m : Int) = key := ⟨_, rfl⟩
    have hk0 : 0 ≤ key := by omega
    have hk1 : key ≤ 200 := by omega
    have hw0 : Wf key := wf_small hk0 (by omega)
    by_cases hbk : blocks S.l S.nl key ts
    · have E : Hid (∀ W, ScanTold S ts fr (to - fr).toNat w.heap.size W (.slice none 0 0) (.iface 125 (.agg #[.int .i64 1]))) := fun W => Or.inl ⟨⟨m, by omega, by rw [hkey]; exact hbk⟩, rfl, rfl⟩
      have HK : Hid (blocks S.l S.nl key ts) := hbk
      rw [hkey]
      rw [hkey] at hlt
      clear hbk HS HO
      go_wp2_with fail
      refine (get_blocked B b _ _ S.nl S.l _ _ g u1 u2 key ts _ hC.out HZ.out.2.2.1 HK.out).mono ?_
      rintro e w1 ⟨rfl, q1⟩
      have HB1 : Hid (Below w.heap.size w w1) := HB.out.trans (q1.mono HB.out.size)
      clear q1
      go_wp2
      go_ret2
      exact ⟨_, _, rfl, E.out _, HB1.out⟩
    have HNB : Hid (∀ q, q < m + 1 → ¬ blocks S.l S.nl (fr + q) ts) := all_next HS.out (by rw [hkey]; exact hbk)
    have HK : Hid (¬ blocks S.l S.nl key ts) := hbk
    have hwrap : IntKind.i64.wrap (key + 1) = key + 1 := by
      have e0 : IntKind.i64.wrap (key + 1) = key + 1 := by
        simp [IntKind.wrap, IntKind.bits, IntKind.signed]
        omega
      exact e0
    rcases reads_or HN.out key ts with hno | ⟨i, j, hr⟩
    · have hrv := rv_none hno
      have E : Hid (OwnL wr w.heap.size 89 (.slice ao (scanN S ts fr m) cp) (scanN S ts fr (m + 1)) (scanL S ts fr (m + 1))) := by
        unfold Hid
        rw [(scanL_no (a := fr) (m := m) (by rw [hkey]; exact hrv)).1, (scanL_no (a := fr) (m := m) (by rw [hkey]; exact hrv)).2]
        exact HO.out
      have HNo : Hid (∀ i, lastW S.k S.nw key ts i → S.k (i * 4 + 3) ≠ 1) := hno
      obtain ⟨nn, hnn⟩ : ∃ nn, scanN S ts fr m = nn := ⟨_, rfl⟩
      rw [hnn] at E
      rw [hnn, hkey]
      rw [hkey] at hlt
      clear hbk HS HO hno hrv hnn
      go_wp2_with fail
      refine (get_none B b _ _ S.nl S.l S.nw S.k g u1 u2 key ts _ hC.out HZ.out.2.2.1 HZ.out.2.2.2 (fun i hi => (HW.out i hi).1) HK.out HNo.out).mono ?_
      rintro e w1 ⟨rfl, q1⟩
      have HB1 : Hid (Below w.heap.size w w1) := HB.out.trans (q1.mono HB.out.size)
      have E1 : Hid (OwnL w1 w.heap.size 89 (.slice ao nn cp) (scanN S ts fr (m + 1)) (scanL S ts fr (m + 1))) := E.out.later q1
      clear q1 E
      go_wp2
      go_roundw
      case rel => exact ⟨m + 1, by rw [← hkey]; go_num, by omega, E1, HNB, HB1⟩
      case measure => simp [intOf]; omega
    · have hrv := rv_some HZ.out.1 hr
      obtain ⟨v, hv⟩ : ∃ v, S.c (j * 3 + 2) = v := ⟨_, rfl⟩
      rw [hv] at hrv
      have hcm := cellM_at HZ.out.1 hr.2.2.1 hr.2.2.2
      rw [hv] at hcm
      have HL : Hid (scanL S ts fr (m + 1) = scanL S ts fr m ++ [key, v] ∧ scanN S ts fr (m + 1) = scanN S ts fr m + 1) := by
        have := scanL_yes (a := fr) (m := m) (by rw [hkey]; exact hrv)
        rw [hkey] at this
        exact this
      have HR : Hid (lastW S.k S.nw key ts i ∧ S.k (i * 4 + 3) = 1) := ⟨hr.1, hr.2.1⟩
      have hw1 := (HW.out i hr.1.1).2
      have HM : Hid (cellM S S.nc key (S.k (i * 4 + 2)) = some v) := hcm
      have hnle := scanN_le S ts fr m
      obtain ⟨nn, hnn⟩ : ∃ nn, scanN S ts fr m = nn := ⟨_, rfl⟩
      have HO2 : Hid (OwnL wr w.heap.size 89 (.slice ao nn cp) nn (scanL S ts fr m)) := by unfold Hid; rw [← hnn]; exact HO.out
      rw [hnn] at hnle HL
      rw [hnn, hkey]
      rw [hkey] at hlt
      clear hbk HS HO hr hrv hv hcm hnn
      go_wp2_with fail
      refine (get_some B b _ _ S.nl S.l S.nw S.k g u1 u2 key ts i v _ hC.out HZ.out.2.2.1 HZ.out.2.2.2 (fun i hi => (HW.out i hi).1) HK.out HR.out.1 HR.out.2 hw0 hw1 HM.out).mono ?_
      rintro e w1 ⟨rfl, q1⟩
      have HB1 : Hid (Below w.heap.size w (w1.alloc (.cells #[.int .i64 key, .int .i64 v] 89))) := (HB.out.trans (q1.mono HB.out.size)).alloc (by have := HB.out.size; have := q1.size; omega) _
      have hown := (HO2.out.later q1).later (below_alloc w1 (.cells #[.int .i64 key, .int .i64 v] 89))
      clear q1 HO2
      go_wp2_with (at_builtin; refine wpList_append_own _ rfl _ _ 46 rfl w.heap.size 89 i0 (.agg #[.int .i64 0, .int .i64 0]) 2 16 Tryz.underlying46 hi hz0 hz1 hz2 rfl (by decide) _ _ _ rfl hown ⟨_, 0, none⟩ 1 1 [.int .i64 key, .int .i64 v] rfl rfl ?c1 ?c2 ?c3 ?c4 ?c5 ?_)
      case c1 =>
        intro q u hq
        match q, hq with
        | 0, hq => simp at hq; subst hq; simp [Addr.add]
        | 1, hq => simp at hq; subst hq; simp [Addr.add]
      case c2 =>
        intro u hu
        simp at hu
        rcases hu with rfl | rfl <;> rfl
      case c3 => unfold maxLen; omega
      case c4 => omega
      case c5 => exact HB1.out.size
      intro v' w2 ho hg2 _
      have E2 : Hid (OwnL w2 w.heap.size 89 v' (scanN S ts fr (m + 1)) (scanL S ts fr (m + 1)) ∧ Below w.heap.size w w2) := by
        refine ⟨?_, below_grownBy HB1.out HB1.out.size (fun bb hbb => ?_) hg2⟩
        · unfold OwnL
          rw [HL.out.1, HL.out.2, List.map_append]
          exact ho
        · rcases hown.2 with ⟨e, _⟩ | ⟨gg, _, _, e, hge, _⟩
          · rw [e] at hbb; simp [Value.ownBlock] at hbb
          · rw [e] at hbb; simp [Value.ownBlock] at hbb; omega
      clear ho hg2 hown HB1
      go_wp2
      go_roundw
      case rel => exact ⟨m + 1, by rw [← hkey]; go_num, by omega, E2.out.1, HNB, E2.out.2⟩
      case measure => simp [intOf]; omega
end Go.Proofs.YtjhloobjbbdmcaiGreatDoor
