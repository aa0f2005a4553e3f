/-
  Own text. The walk of the law FnRanges, over whatever list and place are drawn.
-/
import Derived.Test.YtabenplbibhbiaaRngS
import Derived.Test.YtabenplbibhbiaaRngM
import Derived.Test.YtabenplbibhbiaaRngL
import Derived.Test.YtabenplbibhbiaaRngG
namespace Go.Proofs.Ytabenplbibhbiaa
open Go.RowKit

theorem field_ranges0 (c : Int) (o : Option Addr) (n k : Nat) (w : World) : (Instr.field 28 (.agg #[.int .i64 c, .slice o n k]) 0).run Try.prog w = .ok (.int .i64 c) w := by kernel_rfl
/-- The list, what the program's SplitRange answered (block b), and that nothing old has turned. -/
def FrA (w : World) (n : Nat) (F : Nat → Int) (lo : Option Addr) (lc b : Nat) (c : Int) (vg : Value) (X : World) : Prop := Blk2 X b (.int .i64 c) vg ∧ Row X 0 3 n F (.slice lo n lc) ∧ Below w.heap.size w X
theorem FrA.later {w X X' : World} {n : Nat} {F : Nat → Int} {lo : Option Addr} {lc b : Nat} {c : Int} {vg : Value} (h : FrA w n F lo lc b c vg X) (hb : Below X.heap.size X X') : FrA w n F lo lc b c vg X' := ⟨h.1.later hb, h.2.1.later hb, h.2.2.trans (hb.mono h.2.2.size)⟩
/-- What the loop stands on. -/
def FrB (w : World) (n : Nat) (F : Nat → Int) (lo : Option Addr) (lc b5 : Nat) (G : Nat → Int) (ro : Option Addr) (rc b6 : Nat) (i : Nat) (b7 : Nat) (cm : Int) (mo : Option Addr) (mm mc : Nat) (M : Nat → Int) (X : World) : Prop :=
  (Blk2 X b5 (.int .i64 0) (.slice ro (n + 1) rc) ∧ Blk2 X b6 (.int .i64 0) (.int .i64 ((i : Int) + 1)) ∧ Blk2 X b7 (.int .i64 cm) (.slice mo mm mc)) ∧ (Row X 0 3 n F (.slice lo n lc) ∧ Row X 0 3 (n + 1) G (.slice ro (n + 1) rc) ∧ Row X 0 3 mm M (.slice mo mm mc)) ∧ Below w.heap.size w X
theorem FrB.later {w X X' : World} {n : Nat} {F : Nat → Int} {lo : Option Addr} {lc b5 : Nat} {G : Nat → Int} {ro : Option Addr} {rc b6 i b7 : Nat} {cm : Int} {mo : Option Addr} {mm mc : Nat} {M : Nat → Int} (h : FrB w n F lo lc b5 G ro rc b6 i b7 cm mo mm mc M X) (hb : Below X.heap.size X X') : FrB w n F lo lc b5 G ro rc b6 i b7 cm mo mm mc M X' :=
  ⟨⟨h.1.1.later hb, h.1.2.1.later hb, h.1.2.2.later hb⟩, ⟨h.2.1.1.later hb, h.2.1.2.1.later hb, h.2.1.2.2.later hb⟩, h.2.2.trans (hb.mono h.2.2.size)⟩
theorem Row.cell3 {w : World} {B n g o : Nat} {F : Nat → Int} {cp : Nat} (h : Row w B 3 n F (.slice (some ⟨g, o, none⟩) n cp)) {k : Nat} (hk : k < n) : g < w.heap.size ∧ w.cell? ⟨g, o + k * 3, none⟩ = some (.int .i64 (F (k * 3))) ∧ w.cell? ⟨g, o + k * 3 + 1, none⟩ = some (.int .i64 (F (k * 3 + 1))) ∧ w.cell? ⟨g, o + k * 3 + 2, none⟩ = some (.int .i64 (F (k * 3 + 2))) := by
  obtain ⟨g', o', he, _, hg, h0, h1, h2⟩ := h.at3 hk
  simp only [Option.some.injEq, Addr.mk.injEq, and_true] at he
  obtain ⟨rfl, rfl⟩ := he
  exact ⟨hg, h0, h1, h2⟩
/-- What is drawn. -/
def Drawn (w : World) (e : Ending) (w' : World) : Prop := ∃ (n : Nat) (F : Nat → Int) (lo : Option Addr) (lc : Nat) (a : Int), e = .returned (.tuple #[.slice lo n lc, .int .i64 a]) ∧ Row w' w.heap.size 3 n F (.slice lo n lc) ∧ n ≤ 7 ∧ n ≤ lc ∧ Below w.heap.size w w'
set_option maxRecDepth 100000 in
set_option maxHeartbeats 4000000 in
theorem fnRanges_over (o : Option Addr) (len cap : Nat) (w : World) (hl0 : len ≤ maxLen) (hdraw : len ≤ 1048576 → Calls Try.prog 10 #[.slice o len cap] w (Drawn w)) :
    Calls Try.prog 3 #[.slice o len cap] w fun e w' => e = .returned (.bool true) ∧ Below w.heap.size w w' := by
  unfold maxLen at hl0
  have HD : Hid (len ≤ 1048576 → Calls Try.prog 10 #[.slice o len cap] w (Drawn w)) := hdraw
  clear hdraw
  by_cases hbig : 1048576 < (len : Int)
  · go_enter Try.func3, Try.ntmps3
    go_wp2_with (first | (go_at_call 9; go_in) | fail)
    go_ret
    exact ⟨rfl, Below.refl _ _⟩
  have hl : len ≤ 1048576 := by omega
  have d0 : decide (1048576 < (len : Int)) = false := decide_eq_false hbig
  go_enter Try.func3, Try.ntmps3
  go_wp2_with (first | (go_at_call 9; go_in) | fail)
  refine (HD.out hl).mono ?_
  rintro e w1 ⟨n, F, lo, lc, a, rfl, r1, hn7, hnc, q1⟩
  have B : Hid (Below w.heap.size w w1) := q1
  have R : Hid (Row w1 0 3 n F (.slice lo n lc)) := r1.mono (Nat.zero_le _)
  clear r1 q1 HD hl d0 hbig hl0
  obtain ⟨c, m, G, hm, hA⟩ := SplitAns.get n F a
  have HA : Hid (SplitAns n F a c m G) := hA
  clear hA
  have hn : n ≤ 1048576 := by omega
  go_wp2_with fail
  refine (implSplit_is lo lc 0 n F a c m G _ R.out hn HA.out).mono ?_
  rintro e w2 ⟨ro, rc, rfl, r2, _, q2⟩
  have B2 : Hid (Below w.heap.size w w2) := B.out.trans (q2.mono B.out.size)
  have R2 : Hid (Row w2 0 3 n F (.slice lo n lc)) := R.out.later q2
  have G2 : Hid (Row w2 0 3 m G (.slice ro m rc)) := r2.mono (Nat.zero_le _)
  clear r2 q2 B R
  by_cases hc : c = 0
  case neg =>
    have dc : (c == 0) = false := beq_eq_false_iff_ne.2 hc
    have A0 : FrA w n F lo lc w2.heap.size c (.slice ro m rc) (w2.alloc (.cells #[.int .i64 c, .slice ro m rc] 28)).drew := ⟨Blk2.new w2 _ _ _, R2.out.alloc _, (B2.out.alloc B2.out.size _).drew⟩
    go_wp2_with fail
    refine wp_region_held_drew (S := FrA w n F lo lc w2.heap.size c (.slice ro m rc)) (by kernel_rfl) A0 (fun hS => ?_)
    clear A0
    refine wpAnyH_take (i := 0) (v := ?_) rfl (by kernel_rfl) (by kernel_rfl) (by kernel_rfl) (fun _ _ _ h => h) (Or.inl ⟨by kernel_rfl, ?_⟩) hS ?_
    rotate_left
    · intro wx hx
      obtain ⟨⟨⟨hx0, hx1⟩, _⟩, _⟩ := hx
      go_simp
      try with_reducible rfl
    refine wpAnyH_take (i := 1) (v := ?_) rfl (by kernel_rfl) (by kernel_rfl) (by kernel_rfl) (fun _ _ _ h => h) (Or.inl ⟨by kernel_rfl, ?_⟩) hS ?_
    rotate_left
    · intro wx hx
      obtain ⟨⟨⟨hx0, hx1⟩, _⟩, _⟩ := hx
      go_simp
      try with_reducible rfl
    refine wpAnyH_take (i := 4) (v := ?_) rfl (by kernel_rfl) (by kernel_rfl) (by kernel_rfl) (fun _ _ _ h => h) (Or.inl ⟨by kernel_rfl, ?_⟩) hS ?_
    rotate_left
    · intro wx hx
      obtain ⟨⟨⟨hx0, hx1⟩, _⟩, _⟩ := hx
      go_simp
      try with_reducible rfl
    refine wpAnyH_take (i := 5) (v := ?_) rfl (by kernel_rfl) (by kernel_rfl) (by kernel_rfl) (fun _ _ _ h => h) (Or.inl ⟨by kernel_rfl, ?_⟩) hS ?_
    rotate_left
    · intro wx hx
      obtain ⟨⟨⟨hx0, hx1⟩, _⟩, _⟩ := hx
      go_simp
      try with_reducible rfl
    refine wpAnyH_ready (rs := [2]) (by kernel_rfl) (by simp) ?_
    refine AllReadyH.cons rfl (fun K hK => ?_) AllReadyH.nil
    go_simp
    go_wp2_with fail
    refine (specSplit_is lo lc 0 n F a c m G _ hS.2.1 hnc hn HA.out).mono ?_
    rintro e w3 ⟨so, sc, rfl, _, _, q3⟩
    have hS' := hS.later q3
    have ff := field_ranges0 c so m sc
    clear q3
    go_wp2_with fail
    refine hK.out _ _ hS' (fun hS => ?_)
    clear hK K hS'
    refine wpAnyH_take (i := 3) (v := ?_) rfl (by kernel_rfl) (by kernel_rfl) (by kernel_rfl) (fun _ _ _ h => h) (Or.inl ⟨by kernel_rfl, ?_⟩) hS ?_
    rotate_left
    · intro wx hx
      obtain ⟨⟨⟨hx0, hx1⟩, _⟩, _⟩ := hx
      go_simp
      try with_reducible rfl
    refine wpAnyH_take (i := 6) (v := ?_) rfl (by kernel_rfl) (by kernel_rfl) (by kernel_rfl) (fun _ _ _ h => h) (Or.inl ⟨by kernel_rfl, ?_⟩) hS ?_
    rotate_left
    · intro wx hx
      obtain ⟨⟨⟨hx0, hx1⟩, _⟩, _⟩ := hx
      go_simp
      try with_reducible rfl
    refine wpAnyH_take (i := 7) (v := ?_) rfl (by kernel_rfl) (by kernel_rfl) (by kernel_rfl) (fun _ _ _ h => h) (Or.inl ⟨by kernel_rfl, ?_⟩) hS ?_
    rotate_left
    · intro wx hx
      obtain ⟨⟨⟨hx0, hx1⟩, _⟩, _⟩ := hx
      go_simp
      try with_reducible rfl
    refine wpAnyH_done (by kernel_rfl) ?_ _
    go_simp
    go_wp2
    go_ret
    exact ⟨by simp, hS.2.2⟩
  subst hc
  obtain ⟨i, h0, h1, hi, h2, h5, ht, rfl, rfl⟩ : ∃ i, rangesF n F = 0 ∧ (1 ≤ a ∧ a ≤ 199) ∧ AtR n F a i ∧ F (i * 3) ≠ a ∧ n ≤ 5 ∧ topE F n ≠ 9999 ∧ m = n + 1 ∧ G = splitG F i a (topE F n + 1) := by
    rcases HA.out with ⟨q0, q1, _⟩ | ⟨_, _, q1, _⟩ | ⟨i, h0, h1, hi, q⟩
    · exact absurd q1.symm q0
    · omega
    · rcases q with ⟨_, q1, _⟩ | ⟨_, _, q1, _⟩ | ⟨h2, h5, ht, _, rfl, rfl⟩
      · omega
      · omega
      · exact ⟨i, h0, h1, hi, h2, h5, ht, rfl, rfl⟩
  have hg := good_of h0
  have hte := topE_bound n hg.ep
  have HTOP : Hid (∀ q, q < n → F (q * 3 + 2) < topE F n + 1) := fun q hq => by have := topE_top (F := F) n q hq; omega
  obtain ⟨ep, hep⟩ : ∃ e, e = topE F n + 1 := ⟨_, rfl⟩
  have hgg : Good (n + 1) (splitG F i a (topE F n + 1)) := hg.split (by omega) hi h2 h5 (by omega)
  rw [← hep] at hgg HTOP HA G2
  clear hte ht hep
  obtain ⟨G, hG⟩ : ∃ G, G = splitG F i a ep := ⟨_, rfl⟩
  have HSP : Hid (G = splitG F i a ep) := hG
  rw [← hG] at hgg HA G2
  clear hG
  have HAT : Hid (AtR n F a i ∧ F (i * 3) ≠ a) := ⟨hi, h2⟩
  have hin := hi.1
  have HG : Hid (Good n F ∧ Good (n + 1) G) := ⟨hg, hgg⟩
  have HRT : Hid (RouteAns (n + 1) G a 0 ((i + 1 : Nat) : Int)) := Or.inr (Or.inr ⟨hgg.zero, by omega, rfl, i + 1, by rw [HSP.out]; exact at_split_self hi, rfl⟩)
  obtain ⟨cm, mm, M, hmm, hM⟩ := MergeAns.get (n + 1) G i
  have HMA : Hid (MergeAns (n + 1) G i cm mm M) := hM
  have HMG : Hid (cm = 2 ∨ (cm = 0 ∧ mm = n ∧ Good n M)) := by
    rcases hM with ⟨q, _⟩ | ⟨_, q, _⟩ | ⟨i', q0, q1, q2, q⟩
    · exact absurd hgg.zero q
    · omega
    · obtain rfl : i' = i := by omega
      rcases q with ⟨_, rfl, _⟩ | ⟨q3, q4, q5, q6⟩
      · exact Or.inl rfl
      · have := topE_bound (n + 1) hgg.ep
        exact Or.inr ⟨q4, by omega, by rw [q6]; exact hgg.merge q2 (by omega)⟩
  clear hM hg hgg hi h0 h2 HA
  have hn' : n + 1 ≤ 1048576 := by omega
  obtain ⟨lg, lf, hlo, _⟩ := R2.out.at (k := 0) (by omega)
  obtain ⟨rg, rf, hro, _⟩ := G2.out.at (k := 0) (by omega)
  subst hlo hro
  have hw1 : IntKind.i64.wrap ((i : Int) + 1 - 1) = (i : Int) := by simp [IntKind.wrap, IntKind.bits, IntKind.signed]; omega
  go_wp2_with fail
  refine (implRoute_is (.slice (some ⟨rg, rf, none⟩) (n + 1) rc) 0 (n + 1) G a 0 ((i + 1 : Nat) : Int) _ (G2.out.alloc _) hn' HRT.out).mono ?_
  rintro e w3 ⟨rfl, q3⟩
  have q3' := (below_alloc w2 (.cells #[.int .i64 0, .slice (some ⟨rg, rf, none⟩) (n + 1) rc] 28)).trans (q3.mono (by simp))
  have B3 : Hid (Below w.heap.size w w3) := B2.out.trans (q3'.mono B2.out.size)
  have R3 : Hid (Row w3 0 3 n F (.slice (some ⟨lg, lf, none⟩) n lc) ∧ Row w3 0 3 (n + 1) G (.slice (some ⟨rg, rf, none⟩) (n + 1) rc)) := ⟨R2.out.later q3', G2.out.later q3'⟩
  have K3 : Hid (Blk2 w3 w2.heap.size (.int .i64 0) (.slice (some ⟨rg, rf, none⟩) (n + 1) rc)) := (Blk2.new w2 _ _ _).later q3
  obtain ⟨⟨k0, k1⟩, _⟩ := K3.out
  have hl3 := K3.out.lt
  clear q3 q3' B2 R2 G2
  go_wp2_with fail
  refine (implMerge_is (some ⟨rg, rf, none⟩) rc 0 (n + 1) G i cm mm M _ (R3.out.2.alloc _) hn' HMA.out).mono ?_
  rintro e w4 ⟨mo, mc, rfl, r4, _, q4⟩
  have q4' := (below_alloc w3 (.cells #[.int .i64 0, .int .i64 ((i : Int) + 1)] 31)).trans (q4.mono (by simp))
  have E4 : Hid (FrB w n F (some ⟨lg, lf, none⟩) lc w2.heap.size G (some ⟨rg, rf, none⟩) rc w3.heap.size i w4.heap.size cm mo mm mc M (w4.alloc (.cells #[.int .i64 cm, .slice mo mm mc] 28))) :=
    ⟨⟨(K3.out.later q4').alloc _, ((Blk2.new w3 _ _ _).later q4).alloc _, Blk2.new w4 _ _ _⟩, ⟨(R3.out.1.later q4').alloc _, (R3.out.2.later q4').alloc _, (r4.mono (Nat.zero_le _)).alloc _⟩, (B3.out.trans (q4'.mono B3.out.size)).alloc (B3.out.trans (q4'.mono B3.out.size)).size _⟩
  clear r4 q4 q4' K3 R3 B3 k0 k1 hl3 HRT HMA hw1
  go_wp2
  go_loopw [8] (fun k wr => ∃ t : Nat, t ≤ 29 ∧ k = .int .i64 (7 * (t : Int)) ∧ Hid (FrB w n F (some ⟨lg, lf, none⟩) lc w2.heap.size G (some ⟨rg, rf, none⟩) rc w3.heap.size i w4.heap.size cm mo mm mc M wr)) (fun k _ => 300 - (intOf k).toNat)
  case atStart => exact ⟨0, by omega, rfl, E4⟩
  case round =>
    obtain ⟨t, ht, rfl, HE⟩ := hrel
    by_cases hlt : t ≤ 28
    case neg =>
      obtain rfl : t = 29 := by omega
      have HZ : Hid (rangesF (n + 1) G = 0) := HG.out.2.zero
      have HGA : Hid (G ((i + 1) * 3) = a) := by
        unfold Hid
        rw [HSP.out, show (i + 1) * 3 = i * 3 + 3 by omega]
        exact splitG_in 3 (by omega)
      obtain ⟨⟨⟨⟨b50, b51⟩, _⟩, ⟨⟨b60, b61⟩, _⟩, ⟨⟨b70, b71⟩, _⟩⟩, _⟩ := HE.out
      go_wp2_with fail
      refine (implRanges_any (.slice (some ⟨rg, rf, none⟩) (n + 1) rc) 0 (n + 1) G _ HE.out.2.1.2.1 (by omega)).mono ?_
      rintro e w5 ⟨rfl, q5⟩
      rw [HZ.out]
      have E5 : Hid (FrB w n F (some ⟨lg, lf, none⟩) lc w2.heap.size G (some ⟨rg, rf, none⟩) rc w3.heap.size i w4.heap.size cm mo mm mc M w5) := HE.out.later q5
      clear q5 HE b50 b51 b60 b61 b70 b71
      obtain ⟨⟨⟨⟨b50, b51⟩, _⟩, ⟨⟨b60, b61⟩, _⟩, ⟨⟨b70, b71⟩, _⟩⟩, _⟩ := E5.out
      obtain ⟨hgr, v0, _, _⟩ := E5.out.2.1.2.1.cell3 (k := i + 1) (by omega)
      rw [HGA.out] at v0
      have hwn : IntKind.i64.wrap ((n : Int) + 1) = (n : Int) + 1 := by simp [IntKind.wrap, IntKind.bits, IntKind.signed]; omega
      have hi1 : i + 1 < n + 1 := by omega
      have hi2 : (0 : Int) ≤ (i : Int) + 1 := by omega
      have hi3 : (i : Int) + 1 < (n : Int) + 1 := by omega
      have hi4 : (0 : Int) ≤ (i : Int) + 1 ∧ (i : Int) + 1 < (n : Int) + 1 := ⟨hi2, hi3⟩
      rcases HMG.out with rfl | ⟨rfl, hmn, hgm⟩
      · go_wp2
        go_ret
        exact ⟨rfl, E5.out.2.2⟩
      · obtain rfl := hmn.symm
        have HZM : Hid (rangesF n M = 0) := hgm.zero
        clear hgm hmn HMG
        go_wp2_with fail
        refine (implRanges_any (.slice mo n mc) 0 n M _ E5.out.2.1.2.2 (by omega)).mono ?_
        rintro e w6 ⟨rfl, q6⟩
        rw [HZM.out]
        have B6 : Hid (Below w.heap.size w w6) := E5.out.2.2.trans (q6.mono E5.out.2.2.size)
        clear q6 E5
        go_wp2
        go_ret
        exact ⟨rfl, B6.out⟩
    obtain ⟨kk, hkk⟩ : ∃ k, k = 7 * (t : Int) := ⟨_, rfl⟩
    have hk0 : 0 ≤ kk ∧ kk ≤ 199 := by omega
    obtain ⟨j, hj⟩ := HG.out.1.at (key := kk) hk0.2
    obtain ⟨j', hj', hep⟩ := at_split_key (e := ep) HAT.out.1 hj
    rw [← HSP.out] at hj' hep
    have HJ : Hid (RouteAns n F kk 0 (j : Int)) := Or.inr (Or.inr ⟨HG.out.1.zero, by omega, rfl, j, hj, rfl⟩)
    have HJ' : Hid (RouteAns (n + 1) G kk 0 (j' : Int)) := Or.inr (Or.inr ⟨HG.out.2.zero, by omega, rfl, j', hj', rfl⟩)
    have hjn := hj.1
    have hjn' := hj'.1
    have HF : Hid (G (j' * 3) ≤ kk ∧ kk < G (j' * 3 + 1)) := ⟨HG.out.2.from hk0.1 hj', hj'.2.1⟩
    have HTU : Hid ((F (j * 3) < a ∧ a < F (j * 3 + 1)) ↔ j = i) := turned_is HG.out.1 (by omega) HAT.out.1 HAT.out.2 hjn
    have HEP : Hid ((j = i ∧ G (j' * 3 + 2) = ep) ∨ (j ≠ i ∧ G (j' * 3 + 2) = F (j * 3 + 2))) := hep
    rw [← hkk]
    have HKK : Hid (kk = 7 * (t : Int)) := hkk
    clear hj hj' hep hkk
    go_wp2_with fail
    refine (implRoute_is (.slice (some ⟨lg, lf, none⟩) n lc) 0 n F kk 0 (j : Int) _ HE.out.2.1.1 hn HJ.out).mono ?_
    rintro e w5 ⟨rfl, q5⟩
    have E5 : Hid (FrB w n F (some ⟨lg, lf, none⟩) lc w2.heap.size G (some ⟨rg, rf, none⟩) rc w3.heap.size i w4.heap.size cm mo mm mc M w5) := HE.out.later q5
    clear q5 HE
    obtain ⟨⟨⟨⟨b50, b51⟩, _⟩, _⟩, _⟩ := E5.out
    have hl5 := E5.out.1.1.lt
    go_wp2_with fail
    refine (implRoute_is (.slice (some ⟨rg, rf, none⟩) (n + 1) rc) 0 (n + 1) G kk 0 (j' : Int) _ (E5.out.2.1.2.1.alloc _) hn' HJ'.out).mono ?_
    rintro e w6 ⟨rfl, q6⟩
    have K6 : Hid (Blk2 w6 w5.heap.size (.int .i64 0) (.int .i64 (j : Int))) := (Blk2.new w5 _ _ _).later q6
    have E6 : Hid (FrB w n F (some ⟨lg, lf, none⟩) lc w2.heap.size G (some ⟨rg, rf, none⟩) rc w3.heap.size i w4.heap.size cm mo mm mc M w6) := (E5.out.later (below_alloc _ _)).later q6
    clear q6 E5 b50 b51 hl5
    obtain ⟨⟨⟨⟨b50, b51⟩, _⟩, _⟩, _⟩ := E6.out
    have hl5 := E6.out.1.1.lt
    obtain ⟨⟨c0, c1⟩, _⟩ := K6.out
    have hl6 := K6.out.lt
    obtain ⟨hgl, u0, u1, u2⟩ := E6.out.2.1.1.cell3 hjn
    obtain ⟨hgr, v0, v1, _⟩ := E6.out.2.1.2.1.cell3 hjn'
    obtain ⟨x0, X0⟩ : ∃ x, F (j * 3) = x := ⟨_, rfl⟩
    obtain ⟨x1, X1⟩ : ∃ x, F (j * 3 + 1) = x := ⟨_, rfl⟩
    obtain ⟨x2, X2⟩ : ∃ x, F (j * 3 + 2) = x := ⟨_, rfl⟩
    obtain ⟨y0, Y0⟩ : ∃ x, G (j' * 3) = x := ⟨_, rfl⟩
    obtain ⟨y1, Y1⟩ : ∃ x, G (j' * 3 + 1) = x := ⟨_, rfl⟩
    have hF := HF.out
    rw [X0] at u0
    rw [X1] at u1
    rw [X2] at u2
    rw [Y0] at v0 hF
    rw [Y1] at v1 hF
    have d1 : decide (kk < y0) = false := decide_eq_false (by omega)
    have d2 : decide (kk ≥ y1) = false := decide_eq_false (by omega)
    have HX : Hid (F (j * 3) = x0 ∧ F (j * 3 + 1) = x1 ∧ F (j * 3 + 2) = x2) := ⟨X0, X1, X2⟩
    have hwk : IntKind.i64.wrap (kk + 7) = kk + 7 := by simp [IntKind.wrap, IntKind.bits, IntKind.signed]; omega
    clear X0 X1 X2 Y0 Y1 hF HF
    have HFr : Hid (∀ r, (r = (G (j' * 3 + 2) == x2)) → FreshAns (n + 1) G (j' : Int) x2 kk r) := fun r hr => ⟨0, j', HJ'.out, Or.inr (Or.inr ⟨rfl, rfl, j', hjn', rfl, hr⟩)⟩
    have E7 : Hid (FrB w n F (some ⟨lg, lf, none⟩) lc w2.heap.size G (some ⟨rg, rf, none⟩) rc w3.heap.size i w4.heap.size cm mo mm mc M ((w6.alloc (.cells #[.int .i64 0, .int .i64 (j' : Int)] 31)).alloc (.cells #[.int .i64 x0, .int .i64 x1, .int .i64 x2] 34))) := (E6.out.later (below_alloc _ _)).later (below_alloc _ _)
    by_cases hji : j = i
    · have htu := HTU.out.2 hji
      rw [HX.out.1, HX.out.2.1] at htu
      have t1 : decide (a > x0) = true := decide_eq_true htu.1
      have t2 : decide (a < x1) = true := decide_eq_true htu.2
      have HR : Hid (FreshAns (n + 1) G (j' : Int) x2 kk false) := HFr.out false (by
        have h1 := HTOP.out j hjn
        rw [HX.out.2.2] at h1
        rcases HEP.out with ⟨_, q⟩ | ⟨q, _⟩
        · rw [q]; exact (beq_eq_false_iff_ne.2 (by omega)).symm
        · exact absurd hji q)
      clear HFr HTU HEP HX hji htu
      go_wp2_with fail
      refine (implFresh_is (.slice (some ⟨rg, rf, none⟩) (n + 1) rc) 0 (n + 1) G (j' : Int) x2 kk false _ E7.out.2.1.2.1 hn' HR.out).mono ?_
      rintro e w8 ⟨rfl, q8⟩
      have E8 : Hid (FrB w n F (some ⟨lg, lf, none⟩) lc w2.heap.size G (some ⟨rg, rf, none⟩) rc w3.heap.size i w4.heap.size cm mo mm mc M w8) := E7.out.later q8
      clear q8 E7 E6 K6 u0 u1 u2 v0 v1 b50 b51 c0 c1
      go_wp2
      go_roundw
      case rel => exact ⟨t + 1, by omega, congrArg (Value.int .i64) (by have := HKK.out; omega), E8⟩
      case measure => have := HKK.out; simp [intOf]; omega
    · have htu : ¬ (x0 < a ∧ a < x1) := fun q => hji (HTU.out.1 (by rw [HX.out.1, HX.out.2.1]; exact q))
      have HR : Hid (FreshAns (n + 1) G (j' : Int) x2 kk true) := HFr.out true (by
        rcases HEP.out with ⟨q, _⟩ | ⟨_, q⟩
        · exact absurd q hji
        · rw [q, HX.out.2.2]; simp)
      clear HFr HTU HEP HX
      by_cases hx0 : x0 < a
      · have t1 : decide (a > x0) = true := decide_eq_true hx0
        have t2 : decide (a < x1) = false := decide_eq_false (fun q => htu ⟨hx0, q⟩)
        go_wp2_with fail
        refine (implFresh_is (.slice (some ⟨rg, rf, none⟩) (n + 1) rc) 0 (n + 1) G (j' : Int) x2 kk true _ E7.out.2.1.2.1 hn' HR.out).mono ?_
        rintro e w8 ⟨rfl, q8⟩
        have E8 : Hid (FrB w n F (some ⟨lg, lf, none⟩) lc w2.heap.size G (some ⟨rg, rf, none⟩) rc w3.heap.size i w4.heap.size cm mo mm mc M w8) := E7.out.later q8
        clear q8 E7 E6 K6 u0 u1 u2 v0 v1 b50 b51 c0 c1
        go_wp2
        go_roundw
        case rel => exact ⟨t + 1, by omega, congrArg (Value.int .i64) (by have := HKK.out; omega), E8⟩
        case measure => have := HKK.out; simp [intOf]; omega
      · have t1 : decide (a > x0) = false := decide_eq_false hx0
        go_wp2_with fail
        refine (implFresh_is (.slice (some ⟨rg, rf, none⟩) (n + 1) rc) 0 (n + 1) G (j' : Int) x2 kk true _ E7.out.2.1.2.1 hn' HR.out).mono ?_
        rintro e w8 ⟨rfl, q8⟩
        have E8 : Hid (FrB w n F (some ⟨lg, lf, none⟩) lc w2.heap.size G (some ⟨rg, rf, none⟩) rc w3.heap.size i w4.heap.size cm mo mm mc M w8) := E7.out.later q8
        clear q8 E7 E6 K6 u0 u1 u2 v0 v1 b50 b51 c0 c1
        go_wp2
        go_roundw
        case rel => exact ⟨t + 1, by omega, congrArg (Value.int .i64) (by have := HKK.out; omega), E8⟩
        case measure => have := HKK.out; simp [intOf]; omega
end Go.Proofs.Ytabenplbibhbiaa
