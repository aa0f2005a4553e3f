/-
  Own text. What chapter 6 draws: spec.l6Right, spec.l6Bent, spec.DrawSplitRange: a row of at most seven ranges in memory of its own.
-/
import Derived.Test.YtabenplbibhbiaaRngR
import Derived.Test.YtabenplbibhbiaaDrawB
namespace Go.Proofs.Ytabenplbibhbiaa
open Go.RowKit

theorem Good.congr {n : Nat} {F G : Nat → Int} (h : Good n F) (e : ∀ p, p < n * 3 → F p = G p) : Good n G := by
  have h1 := h.n1
  refine ⟨h.n1, h.n6, fun i hi => ?_, fun i hi => ?_, ?_, fun i hi => ?_, ?_⟩
  · rw [← e (i * 3 + 2) (by omega)]; exact h.ep i hi
  · rw [← e (i * 3) (by omega), ← e (i * 3 + 1) (by omega)]; exact h.lt i hi
  · rw [← e 0 (by omega)]; exact h.first
  · rw [← e ((i + 1) * 3) (by omega), ← e (i * 3 + 1) (by omega)]; exact h.next i hi
  · rw [← e ((n - 1) * 3 + 1) (by omega)]; exact h.last
/-- Numbers of ranges without a fault. -/
def GoodL (n : Nat) (L : List Int) : Prop := L.length = n * 3 ∧ Good n (fun p => L.getD p 0)
theorem OwnM.cap {w : World} {B : Nat} {e : TypeId} {m n : Nat} {ao : Option Addr} {cp : Nat} {L : List Int} (h : OwnM w B e m (.slice ao n cp) n L) : n ≤ cp := by
  rcases h.2 with ⟨q, e⟩ | ⟨g, cap, cur, q, _, _, hn, _⟩
  · cases q; exact Nat.le_refl _
  · cases q; exact hn
theorem OwnM.rowL {w : World} {B : Nat} {n : Nat} {ao : Option Addr} {cp : Nat} {L : List Int} (h : OwnM w B 34 3 (.slice ao n cp) n L) (hl : L.length = n * 3) : Row w B 3 n (fun p => L.getD p 0) (.slice ao n cp) := (h.own hl).row.1
theorem wholeL_good {ep : Int} (h : 1 ≤ ep ∧ ep ≤ 9999) : GoodL 1 [0, 200, ep] := by
  refine ⟨rfl, by omega, by omega, fun i hi => ?_, fun i hi => ?_, rfl, fun i hi => by omega, rfl⟩
  · obtain rfl : i = 0 := by omega
    exact h
  · obtain rfl : i = 0 := by omega
    show (0 : Int) < 200
    omega
set_option maxRecDepth 100000 in
set_option maxHeartbeats 1000000 in
theorem specWhole_own (ep : Int) (h : 1 ≤ ep ∧ ep ≤ 9999) (w : World) : Calls Try.prog 21 #[.int .i64 ep] w fun e w' => ∃ ao cp, e = .returned (.agg #[.int .i64 0, .slice ao 1 cp]) ∧ OwnM w' w.heap.size 34 3 (.slice ao 1 cp) 1 [0, 200, ep] ∧ Below w.heap.size w w' := by
  have L0 : Hid (decide (1 ≤ ep ∧ ep ≤ 9999) = true) := decide_eq_true h
  go_enter Try.func21, Try.ntmps21
  go_wp2_with fail
  refine (l6Epoch_is _ _ L0.out _).mono ?_
  rintro e w1 ⟨rfl, rfl⟩
  go_wp2
  refine bodyPost_ret (v := .agg #[.int .i64 0, .slice (some ⟨w.heap.size + 1, 0, none⟩) 1 1]) (by simp [results, Try.results21, go_sem]) rfl ⟨_, _, rfl, ?_, (below_alloc _ _).alloc (by simp) _⟩
  have K := World.ownsRow_lit (base := w.heap.size) (e := 34) (size := 3) (w.alloc (.cells #[.int .i64 0, .slice (some ⟨w.heap.size + 1, 0, none⟩) 1 1] 28)) #[.int .i64 0, .int .i64 200, .int .i64 ep] 1 (by simp) (by decide) rfl
  rw [World.size_alloc] at K
  exact K
/-- What a split or a merge of ranges without a fault comes to. -/
def ResGood (w : World) (e : Ending) (w' : World) : Prop := ∃ c m ro rc L, e = .returned (.agg #[.int .i64 c, .slice ro m rc]) ∧ OwnM w' w.heap.size 34 3 (.slice ro m rc) m L ∧ (c = 0 → GoodL m L) ∧ Below w.heap.size w w'
theorem l6Split_good (w : World) (B n : Nat) (ao : Option Addr) (cp : Nat) (L : List Int) (a : Int) (h : OwnM w B 34 3 (.slice ao n cp) n L) (hg : GoodL n L) (h1 : 1 ≤ a ∧ a ≤ 199) :
    Calls Try.prog 41 #[.slice ao n cp, .int .i64 a] w (ResGood w) := by
  obtain ⟨hl, hg⟩ := hg
  obtain ⟨i, hi⟩ := hg.at (key := a) (by omega)
  have hte := topE_bound (F := fun p => L.getD p 0) n hg.ep
  have h6 := hg.n6
  have go : ∀ (c : Int) (m : Nat) (G : Nat → Int), ((L.getD (i * 3) 0 = a ∧ c = 6 ∧ m = 0) ∨ (L.getD (i * 3) 0 ≠ a ∧ (n = 6 ∨ topE (fun p => L.getD p 0) n = 9999) ∧ c = 2 ∧ m = 0) ∨ (L.getD (i * 3) 0 ≠ a ∧ n ≤ 5 ∧ topE (fun p => L.getD p 0) n ≠ 9999 ∧ c = 0 ∧ m = n + 1 ∧ G = splitG (fun p => L.getD p 0) i a (topE (fun p => L.getD p 0) n + 1))) → (c = 0 → Good m G) → Calls Try.prog 41 #[.slice ao n cp, .int .i64 a] w (ResGood w) := fun c m G hd hG =>
    (l6Split_is ao cp B n (fun p => L.getD p 0) a c m G i w (h.rowL hl) h.cap hg.n6 hg.ep hi hd).mono fun e w' ⟨ro, rc, L', e1, e2, e3, e4, e5⟩ => ⟨c, m, ro, rc, L', e1, e2, fun hc => ⟨e3, (hG hc).congr (fun p hp => (e4 p hp).symm)⟩, e5⟩
  by_cases h2 : L.getD (i * 3) 0 = a
  · exact go 6 0 (fun _ => 0) (Or.inl ⟨h2, rfl, rfl⟩) (fun q => by omega)
  · by_cases h3 : n = 6 ∨ topE (fun p => L.getD p 0) n = 9999
    · exact go 2 0 (fun _ => 0) (Or.inr (Or.inl ⟨h2, h3, rfl, rfl⟩)) (fun q => by omega)
    · exact go 0 (n + 1) _ (Or.inr (Or.inr ⟨h2, by omega, fun q => h3 (Or.inr q), rfl, rfl, rfl⟩)) (fun _ => hg.split (by omega) hi h2 (by omega) (by
        have : topE (fun p => L.getD p 0) n ≠ 9999 := fun q => h3 (Or.inr q)
        omega))
theorem specMerge_good (w : World) (B n : Nat) (ao : Option Addr) (cp : Nat) (L : List Int) (a : Int) (h : OwnM w B 34 3 (.slice ao n cp) n L) (hg : GoodL n L) :
    Calls Try.prog 29 #[.slice ao n cp, .int .i64 a] w (ResGood w) := by
  obtain ⟨hl, hg⟩ := hg
  have hte := topE_bound (F := fun p => L.getD p 0) n hg.ep
  have h6 := hg.n6
  obtain ⟨c, m, G, hm, hA⟩ := MergeAns.get n (fun p => L.getD p 0) a
  have hG : c = 0 → Good m G := fun hc => by
    rcases hA with ⟨q, _⟩ | ⟨_, _, q, _⟩ | ⟨i, _, _, hi, q⟩
    · exact absurd hg.zero q
    · omega
    · rcases q with ⟨_, q, _⟩ | ⟨q1, _, q3, q4⟩
      · omega
      · rw [q3, q4]; exact hg.merge hi (by omega)
  exact (specMerge_own ao cp B n (fun p => L.getD p 0) a c m G w (h.rowL hl) h.cap (by omega) hg.zero hA).mono fun e w' ⟨ro, rc, L', e1, e2, e3, e4, e5⟩ => ⟨c, m, ro, rc, L', e1, e2, fun hc => ⟨e3, (hG hc).congr (fun p hp => (e4 p hp).symm)⟩, e5⟩
set_option maxHeartbeats 1000000 in
theorem l1Chance_any (w : World) (b : Nat) (o : Option Addr) (len cap : Nat) (a n : Int) (h : Src w b o len cap a) (ha : a ≤ 1000000) (hl : len ≤ 1048576) :
    Calls Try.prog 51 #[.pointer (some ⟨b, 0, none⟩), .int .i64 n] w fun e w' => ∃ r : Bool, e = .returned (.bool r) ∧ Src w' b o len cap (a + 1) ∧ But b w w' := by
  have HN : Hid (Calls Try.prog 33 #[.pointer (some ⟨b, 0, none⟩), .int .i64 n] w fun e w' => ∃ r : Int, e = .returned (.int .i64 r) ∧ 0 ≤ r ∧ (1 ≤ n → r < n) ∧ Src w' b o len cap (a + 1) ∧ But b w w') := l1Next_any w b o len cap a n h ha hl
  clear h
  go_enter Try.func51, Try.ntmps51
  go_wp2_with fail
  refine HN.out.mono ?_
  rintro e w1 ⟨r, rfl, _, _, hS, hT⟩
  have HR : Hid (Src w1 b o len cap (a + 1) ∧ But b w w1) := ⟨hS, hT⟩
  clear hS hT
  go_wp2
  go_ret
  exact ⟨_, rfl, HR.out⟩
/-- Blocks from B on, but for those below it, are as they were. -/
theorem OwnM.but {w w' : World} {B b : Nat} {e : TypeId} {m : Nat} {v : Value} {n : Nat} {L : List Int} (h : OwnM w B e m v n L) (hT : But b w w') (hb : b < B) : OwnM w' B e m v n L :=
  h.kept (fun g hg hl => hT.block g hl (fun e => by have := Option.some.inj e; omega))
theorem Blk2.but {w w' : World} {b g : Nat} {a0 a1 : Value} (h : Blk2 w g a0 a1) (hT : But b w w') (hb : g ≠ b) : Blk2 w' g a0 a1 := h.kept (hT.block g h.lt (fun e => hb (Option.some.inj e)))
/-- What the rounds of l6Right keep. -/
def RightS (w : World) (b : Nat) (o : Option Addr) (len cap : Nat) (n : Nat) (ao : Option Addr) (cp : Nat) (L : List Int) (a : Int) (X : World) : Prop := (OwnM X w.heap.size 34 3 (.slice ao n cp) n L ∧ GoodL n L) ∧ Src X b o len cap a ∧ But b w X
theorem RightS.but {w X X' : World} {b : Nat} {o : Option Addr} {len cap n : Nat} {ao : Option Addr} {cp : Nat} {L : List Int} {a a' : Int} (h : RightS w b o len cap n ao cp L a X) (hb : b < w.heap.size) (hS : Src X' b o len cap a') (hT : But b X X') : RightS w b o len cap n ao cp L a' X' := ⟨⟨h.1.1.but hT hb, h.1.2⟩, hS, h.2.2.trans hT⟩
theorem RightS.later {w X X' : World} {b : Nat} {o : Option Addr} {len cap n : Nat} {ao : Option Addr} {cp : Nat} {L : List Int} {a : Int} (h : RightS w b o len cap n ao cp L a X) (hq : Below X.heap.size X X') : RightS w b o len cap n ao cp L a X' := ⟨⟨h.1.1.later hq, h.1.2⟩, h.2.1.later hq, h.2.2.below hq⟩
theorem Src.setR {w X : World} {b : Nat} {o : Option Addr} {len cap : Nat} {a a0 : Int} (h0 : Src w b o len cap a0) (h : Src X b o len cap a) (hT : But b w X) {c : Nat} (hc : w.heap.size ≤ c) (k : Nat) (v : Value) : Src (X.setCell ⟨c, k, none⟩ v) b o len cap a ∧ But b w (X.setCell ⟨c, k, none⟩ v) := by
  have hb := h0.lt
  refine ⟨⟨(World.cell?_setCell_other _ _ _ _ (fun e => by have := congrArg Addr.block e; simp at this; omega)).trans h.code, (World.cell?_setCell_other _ _ _ _ (fun e => by have := congrArg Addr.block e; simp at this; omega)).trans h.count, (World.frozen?_setCell _ _ _ _).trans h.live, h.pos, fun j hj => ?_⟩, ?_⟩
  · obtain ⟨g, off, n, e1, e2, e3, e4⟩ := h.bytes j hj
    obtain ⟨g', off', n', e1', _, e3', _⟩ := h0.bytes j hj
    rw [e1] at e1'
    simp only [Option.some.injEq, Addr.mk.injEq, and_true] at e1'
    have hl := lt_of_cell e3'
    exact ⟨g, off, n, e1, e2, (World.cell?_setCell_other _ _ _ _ (fun e => by have := congrArg Addr.block e; simp at this; omega)).trans e3, e4⟩
  · exact ⟨hT.os, hT.tape, hT.output, by simpa [World.setCell] using hT.size, fun i hi hne => (Below.heap_setCell X _ v i (by show i ≠ c; omega)).trans (hT.block i hi hne)⟩
theorem OwnM.keptB {w w' : World} {B : Nat} {e : TypeId} {m : Nat} {v : Value} {n : Nat} {L : List Int} (h : OwnM w B e m v n L) (hb : ∀ k, v.ownBlock = some k → w'.heap[k]? = w.heap[k]?) : OwnM w' B e m v n L := by
  obtain ⟨h1, h2⟩ := h
  refine ⟨h1, ?_⟩
  rcases h2 with q | ⟨g, cap, cur, rfl, q1, q2, q3⟩
  · exact Or.inl q
  · exact Or.inr ⟨g, cap, cur, rfl, q1, (hb g rfl).trans q2, q3⟩
theorem OwnM.set {w : World} {B : Nat} {e : TypeId} {m : Nat} {v : Value} {n : Nat} {L : List Int} (h : OwnM w B e m v n L) {c : Nat} (hc : ∀ k, v.ownBlock = some k → k ≠ c) (j : Nat) (u : Value) : OwnM (w.setCell ⟨c, j, none⟩ u) B e m v n L :=
  h.keptB (fun k hk => Below.heap_setCell w _ u k (hc k hk))
theorem field_ranges1 (c : Int) (o : Option Addr) (n k : Nat) (w : World) : (Instr.field 28 (.agg #[.int .i64 c, .slice o n k]) 1).run Try.prog w = .ok (.slice o n k) w := by kernel_rfl
set_option maxRecDepth 100000 in
set_option maxHeartbeats 4000000 in
theorem l6Right_any (w : World) (b : Nat) (o : Option Addr) (len cap : Nat) (a : Int) (h : Src w b o len cap a) (ha : a ≤ 900000) (hl : len ≤ 1048576) :
    Calls Try.prog 49 #[.pointer (some ⟨b, 0, none⟩)] w fun e w' => ∃ n ao cp L a', e = .returned (.slice ao n cp) ∧ a' ≤ a + 100 ∧ RightS w b o len cap n ao cp L a' w' := by
  have H : Hid (Src w b o len cap a) := h
  have hp := h.pos
  have hbw := h.lt
  clear h
  go_enter Try.func49, Try.ntmps49
  go_wp2_with fail
  refine (l1Next_any _ b o len cap a 9 H.out (by omega) hl).mono ?_
  rintro e w1 ⟨r0, rfl, hr0, hr1, hS1, hT1⟩
  have hr9 : r0 < 9 := hr1 (by omega)
  have H1 : Hid (Src w1 b o len cap (a + 1) ∧ But b w w1) := ⟨hS1, hT1⟩
  have hw0 : IntKind.i64.wrap (1 + r0) = 1 + r0 := by simp [IntKind.wrap, IntKind.bits, IntKind.signed]; omega
  clear hS1 hT1 hr1
  go_wp2_with fail
  refine (specWhole_own (1 + r0) (by omega) _).mono ?_
  rintro e w2 ⟨ao, cp, rfl, O2, q2⟩
  have H2 : Hid (RightS w b o len cap 1 ao cp [0, 200, 1 + r0] (a + 1) w2) := ⟨⟨World.ownsRow.mono O2 H1.out.2.size, wholeL_good (by omega)⟩, H1.out.1.later q2, H1.out.2.below q2⟩
  have ff := field_ranges1 0 ao 1 cp
  clear O2 q2 H1
  go_wp2_with fail
  refine (l1Next_any _ b o len cap (a + 1) 7 H2.out.2.1 (by omega) hl).mono ?_
  rintro e w3 ⟨k0, rfl, hk0, hk1, hS3, hT3⟩
  have hk7 : k0 < 7 := hk1 (by omega)
  have H3 : Hid (RightS w b o len cap 1 ao cp [0, 200, 1 + r0] (a + 2) w3) := H2.out.but hbw (by rw [show a + 2 = a + 1 + 1 by omega]; exact hS3) hT3
  clear hS3 hT3 H2 ff hk1
  obtain ⟨kn, rfl⟩ := Int.eq_ofNat_of_zero_le hk0
  go_wp2
  go_loopw [3, 4] (fun l k wr => ∃ (n : Nat) (ao : Option Addr) (cp : Nat) (L : List Int) (t : Nat) (a' : Int), l = .slice ao n cp ∧ k = .int .i64 (t : Int) ∧ t ≤ 6 ∧ Hid (a ≤ a' ∧ a' + 10 * t ≤ a + 100) ∧ Hid (RightS w b o len cap n ao cp L a' wr)) (fun _ k _ => (intOf k).toNat)
  case atStart => exact ⟨1, ao, cp, [0, 200, 1 + r0], kn, a + 2, rfl, rfl, by omega, ⟨by omega, by omega⟩, H3⟩
  case round =>
    obtain ⟨n, ao, cp, L, t, a', rfl, rfl, ht, HB, HR⟩ := hrel
    by_cases h0 : t = 0
    · subst h0
      go_wp2
      go_ret
      exact ⟨n, ao, cp, L, a', rfl, by have := HB.out; omega, HR.out⟩
    have hgt : decide ((t : Int) > 0) = true := decide_eq_true (by omega)
    have hbd := HB.out
    go_wp2_with fail
    refine (l1Next_any _ b o len cap a' 199 HR.out.2.1 (by omega) hl).mono ?_
    rintro e w4 ⟨r, rfl, hr0', hr1', hS4, hT4⟩
    have hr199 : r < 199 := hr1' (by omega)
    have H4 : Hid (RightS w b o len cap n ao cp L (a' + 1) w4) := HR.out.but hbw hS4 hT4
    have hwr : IntKind.i64.wrap (1 + r) = 1 + r := by simp [IntKind.wrap, IntKind.bits, IntKind.signed]; omega
    clear hS4 hT4 hr1' HR
    have hI : Hid (Ints (w4.alloc (.cells #[.int .i64 10, .int .i64 12, .int .i64 20, .int .i64 30, .int .i64 40, .int .i64 180, .int .i64 (1 + r)] 2)) w4.heap.size (.slice (some ⟨w4.heap.size, 0, none⟩) 7 7) [10, 12, 20, 30, 40, 180, 1 + r]) := World.ownsRow_lit w4 #[.int .i64 10, .int .i64 12, .int .i64 20, .int .i64 30, .int .i64 40, .int .i64 180, .int .i64 (1 + r)] 7 (Nat.le_refl _) (by decide) rfl
    go_wp2_with fail
    refine (l1Pick_any _ b o len cap (a' + 1) _ w4.heap.size [10, 12, 20, 30, 40, 180, 1 + r] (H4.out.2.1.alloc _) (by omega) hl hI.out H4.out.2.1.lt (by simp) (by simp)).mono ?_
    rintro e w5 ⟨at', rfl, hmem, hS5, hT5⟩
    have hat : 1 ≤ at' ∧ at' ≤ 199 := by
      simp only [List.mem_cons, List.not_mem_nil, or_false] at hmem
      omega
    have H5 : Hid (RightS w b o len cap n ao cp L (a' + 1 + 1) w5) := (H4.out.later (below_alloc _ _)).but hbw hS5 hT5
    clear hS5 hT5 hmem H4 hI
    go_wp2_with fail
    refine (l6Split_good w5 w.heap.size n ao cp L at' H5.out.1.1 H5.out.1.2 hat).mono ?_
    rintro e w6 ⟨c, m, ro, rc, L', rfl, O6, hgc, q6⟩
    have H6 : Hid (RightS w b o len cap n ao cp L (a' + 1 + 1) w6) := H5.out.later q6
    have hsz : w.heap.size ≤ w5.heap.size := H5.out.2.2.size
    have O6' : Hid (OwnM w6 w.heap.size 34 3 (.slice ro m rc) m L' ∧ (c = 0 → GoodL m L')) := ⟨World.ownsRow.mono O6 hsz, hgc⟩
    have HLO : Hid ((∀ k, (Value.slice ao n cp).ownBlock = some k → k < w6.heap.size) ∧ ∀ k, (Value.slice ro m rc).ownBlock = some k → k < w6.heap.size) := ⟨fun k hk => (H6.out.1.1.block k hk).2, fun k hk => (O6.block k hk).2⟩
    have hs6 : Hid (w.heap.size ≤ w6.heap.size) := Nat.le_trans hsz q6.size
    have H7 : Hid (RightS w b o len cap n ao cp L (a' + 1 + 1) (w6.alloc (.cells #[.int .i64 c, .slice ro m rc] 28))) := H6.out.later (below_alloc _ _)
    clear O6 hgc q6 H5 H6
    go_wp2_with fail
    refine (l1Chance_any _ b o len cap (a' + 1 + 1) 4 H7.out.2.1 (by omega) hl).mono ?_
    rintro e w7 ⟨ch, rfl, hS7, hT7⟩
    have H8 : Hid (RightS w b o len cap n ao cp L (a' + 1 + 1 + 1) w7) := H7.out.but hbw hS7 hT7
    have hbn : w6.heap.size ≠ b := by have := hs6.out; omega
    have K8 : Hid (Blk2 w7 w6.heap.size (.int .i64 c) (.slice ro m rc)) := (Blk2.new w6 _ _ _).but hT7 hbn
    have O8 : Hid (OwnM w7 w.heap.size 34 3 (.slice ro m rc) m L') := (O6'.out.1.later (below_alloc _ _)).but hT7 hbw
    clear hS7 hT7 H7
    obtain ⟨⟨b0, b1⟩, f0, f1⟩ := K8.out
    cases ch with
    | false =>
      by_cases hc : c = 0
      · have HGL : Hid (GoodL m L') := O6'.out.2 hc
        subst hc
        go_wp2
        go_roundw
        case rel => exact ⟨m, ro, rc, L', t - 1, a' + 1 + 1 + 1, rfl, by congr 1; omega, by omega, ⟨by omega, by omega⟩, ⟨O8.out, HGL.out⟩, H8.out.2⟩
        case measure => simp [intOf]; omega
      · have dc : (c == 0) = false := beq_eq_false_iff_ne.2 hc
        go_wp2
        go_roundw
        case rel => exact ⟨n, ao, cp, L, t - 1, a' + 1 + 1 + 1, rfl, by congr 1; omega, by omega, ⟨by omega, by omega⟩, H8⟩
        case measure => simp [intOf]; omega
    | true =>
      go_wp2_with fail
      refine (l1Next_any _ b o len cap (a' + 1 + 1 + 1) n H8.out.2.1 (by omega) hl).mono ?_
      rintro e w8 ⟨pl, rfl, _, _, hS9, hT9⟩
      have H9 : Hid (RightS w b o len cap n ao cp L (a' + 1 + 1 + 1 + 1) w8) := H8.out.but hbw hS9 hT9
      have K9 : Hid (Blk2 w8 w6.heap.size (.int .i64 c) (.slice ro m rc)) := K8.out.but hT9 hbn
      clear hS9 hT9 H8 K8 O8 b0 b1 f0 f1
      go_wp2_with fail
      refine (specMerge_good w8 w.heap.size n ao cp L pl H9.out.1.1 H9.out.1.2).mono ?_
      rintro e w9 ⟨c', m', so, sc, L2, rfl, OM, hgc, q9⟩
      have HA : Hid (RightS w b o len cap n ao cp L (a' + 1 + 1 + 1 + 1) w9) := H9.out.later q9
      have KA : Hid (Blk2 w9 w6.heap.size (.int .i64 c) (.slice ro m rc)) := K9.out.later q9
      have hs8 : w6.heap.size < w8.heap.size := K9.out.lt
      have hs68 := hs6.out
      have ON : Hid (OwnM ((w9.setCell ⟨w6.heap.size, 0, none⟩ (.int .i64 c')).setCell ⟨w6.heap.size, 1, none⟩ (.slice so m' sc)) w.heap.size 34 3 (.slice so m' sc) m' L2) :=
        (World.ownsRow.mono ((OM.set (fun k hk => by have := (OM.block k hk).1; omega) 0 (.int .i64 c')).set (fun k hk => by have := (OM.block k hk).1; omega) 1 (.slice so m' sc)) (by omega))
      have OO : Hid (OwnM ((w9.setCell ⟨w6.heap.size, 0, none⟩ (.int .i64 c')).setCell ⟨w6.heap.size, 1, none⟩ (.slice so m' sc)) w.heap.size 34 3 (.slice ao n cp) n L) :=
        (HA.out.1.1.set (fun k hk => by have := HLO.out.1 k hk; omega) 0 (.int .i64 c')).set (fun k hk => by have := HLO.out.1 k hk; omega) 1 (.slice so m' sc)
      have s1 := Src.setR H.out HA.out.2.1 HA.out.2.2 hs68 0 (.int .i64 c')
      have HSS : Hid (Src ((w9.setCell ⟨w6.heap.size, 0, none⟩ (.int .i64 c')).setCell ⟨w6.heap.size, 1, none⟩ (.slice so m' sc)) b o len cap (a' + 1 + 1 + 1 + 1) ∧ But b w ((w9.setCell ⟨w6.heap.size, 0, none⟩ (.int .i64 c')).setCell ⟨w6.heap.size, 1, none⟩ (.slice so m' sc))) := Src.setR H.out s1.1 s1.2 hs68 1 (.slice so m' sc)
      have HGC : Hid ((c' = 0 → GoodL m' L2) ∧ GoodL n L) := ⟨hgc, HA.out.1.2⟩
      obtain ⟨⟨b0, b1⟩, f0, f1⟩ := KA.out
      clear OM hgc q9 H9 K9 HA KA s1
      by_cases hc : c' = 0
      · have HGL : Hid (GoodL m' L2) := HGC.out.1 hc
        subst hc
        go_wp2
        go_roundw
        case rel => exact ⟨m', so, sc, L2, t - 1, a' + 1 + 1 + 1 + 1, rfl, by congr 1; omega, by omega, ⟨by omega, by omega⟩, ⟨ON.out, HGL.out⟩, HSS.out⟩
        case measure => simp [intOf]; omega
      · have dc : (c' == 0) = false := beq_eq_false_iff_ne.2 hc
        go_wp2
        go_roundw
        case rel => exact ⟨n, ao, cp, L, t - 1, a' + 1 + 1 + 1 + 1, rfl, by congr 1; omega, by omega, ⟨by omega, by omega⟩, ⟨OO.out, HGC.out.2⟩, HSS.out⟩
        case measure => simp [intOf]; omega
end Go.Proofs.Ytabenplbibhbiaa
