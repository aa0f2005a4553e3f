/-
  Own text, merged of FsR, PaiJ, PaiK, PaiL, ApyA, FsS, FsT.
-/
import Derived.Test.YtnchaccgenfhoaaGreatPk3
namespace Go.Proofs.YtnchaccgenfhoaaGreat
open Go.RowKit

theorem step_storeP {ops : Array Oper} {o : Oper} {a : Act} {w : World} {K : Act → World → Prop} {Q : Exit → Act → World → Prop} {E : Prop} (hgd : o.guard = none) (x y : Operand) (ho : o.op = .store 81 x y)
    (g : Nat) (a0 a1 a2 a3 a4 : Value) (hx : a.eval x = .pointer (some ⟨g, 0, none⟩)) (hy : a.eval y = .agg #[a0, a1, a2, a3, a4]) (hP : PBk w g) (h1 : (#[a0, a1, a2, a3, a4] : Array Value).all (·.oneCell') = true)
    (h : K (a.put o.dst undef) (w.setRow g #[a0, a1, a2, a3, a4])) : if Region.wanted o (yielded ops a.tmps) = true then Oper.wp Tryz.prog o a w K Q else E := by
  have hw : Region.wanted o (yielded ops a.tmps) = true := by simp [Region.wanted, hgd]
  rw [if_pos hw]
  obtain ⟨old, hg, hs⟩ := hP
  exact wp_store_row 81 x y ho g #[a0, a1, a2, a3, a4] hx hy 81 old hg (by kernel_rfl) hs h1 h
/-- The boxes of an operation, of a child, and of the plan that is told. -/
def Bxs (bo : Nat) (kd d n td tn vv c cv : Int) (X : World) : Prop := opB X bo kd d n td tn vv ∧ Blk2 X (bo + 1) (.int .i64 c) (.int .i64 cv) ∧ PBk X (bo + 2)
theorem Bxs.later {bo : Nat} {kd d n td tn vv c cv : Int} {X X' : World} (h : Bxs bo kd d n td tn vv c cv X) (hb : Below X.heap.size X X') : Bxs bo kd d n td tn vv c cv X' := ⟨h.1.later hb, h.2.1.later hb, h.2.2.later hb⟩
theorem Bxs.kept {bo : Nat} {kd d n td tn vv c cv : Int} {X X' : World} (h : Bxs bo kd d n td tn vv c cv X) (h0 : X'.heap[bo]? = X.heap[bo]?) (h1 : X'.heap[bo + 1]? = X.heap[bo + 1]?) (h2 : X'.heap[bo + 2]? = X.heap[bo + 2]?) : Bxs bo kd d n td tn vv c cv X' := ⟨h.1.kept h0, h.2.1.kept h1, h.2.2.kept h2⟩
theorem Bxs.drew {bo : Nat} {kd d n td tn vv c cv : Int} {X : World} (h : Bxs bo kd d n td tn vv c cv X) : Bxs bo kd d n td tn vv c cv X.drew := h.later ⟨rfl, rfl, rfl, Nat.le_refl _, fun _ _ => rfl⟩
theorem Bxs.alloc {bo : Nat} {kd d n td tn vv c cv : Int} {X : World} (h : Bxs bo kd d n td tn vv c cv X) (o : Obj) : Bxs bo kd d n td tn vv c cv (X.alloc o) := h.later (below_alloc _ _)
theorem Bxs.lt {bo : Nat} {kd d n td tn vv c cv : Int} {X : World} (h : Bxs bo kd d n td tn vv c cv X) : bo + 2 < X.heap.size := h.2.2.lt
theorem Bxs.row {bo : Nat} {kd d n td tn vv c cv : Int} {X : World} (h : Bxs bo kd d n td tn vv c cv X) (cs : Array Value) (hcs : cs.size = 5) : Bxs bo kd d n td tn vv c cv (X.setRow (bo + 2) cs) := by
  refine ⟨h.1.kept (heap_setRow _ _ _ _ (by omega)), h.2.1.kept (heap_setRow _ _ _ _ (by omega)), ?_⟩
  obtain ⟨old, hg, _⟩ := h.2.2
  exact ⟨cs, by simp [World.setRow, Array.getElem?_modify, hg], hcs⟩
abbrev opO (kd d n td tn vv : Int) : Obj := .cells #[.int .i64 kd, .int .i64 d, .int .i64 n, .int .i64 td, .int .i64 tn, .int .i64 vv] 26
abbrev chO (c cv : Int) : Obj := .cells #[.int .i64 c, .int .i64 cv] 155
theorem Bxs.new (w : World) (kd d n td tn vv c cv : Int) : Bxs w.heap.size kd d n td tn vv c cv (((w.alloc (opO kd d n td tn vv)).alloc (chO c cv)).alloc zeroPl) := by
  refine ⟨((Blk6.new w _ _ _ _ _ _ _).alloc _).alloc _, ?_, ?_⟩
  · have h := (Blk2.new (w.alloc (opO kd d n td tn vv)) (.int .i64 c) (.int .i64 cv) 155).alloc zeroPl
    rwa [World.size_alloc] at h
  · have h := PBk.new ((w.alloc (opO kd d n td tn vv)).alloc (chO c cv)) (.int .i64 0) (.int .i64 0) (.int .i64 0) (.slice none 0 0) (.slice none 0 0)
    rwa [World.size_alloc, World.size_alloc] at h
theorem below3 (w : World) (a b c : Obj) : Below w.heap.size w (((w.alloc a).alloc b).alloc c) := ((below_alloc _ _).alloc (by simp) _).alloc (by simp; omega) _
/-- How planWrite ends. -/
def WriteEnd (w : World) (c cv vv : Int) (e : Ending) (w' : World) : Prop :=
  Below w.heap.size w w' ∧ ((cv = 1000 ∧ e = .panicked (wrongs 9)) ∨ (cv ≠ 1000 ∧ ∃ vw, e = .returned (.agg #[.int .i64 0, .int .i64 0, .int .i64 0, .slice none 0 0, vw]) ∧ OwnM w' w.heap.size 132 3 vw 1 [kB c, 1, vv]))
set_option maxRecDepth 100000 in
set_option maxHeartbeats 4000000 in
theorem planWrite_is (kd d n td tn vv c cv : Int) (w : World) (hc : 0 ≤ c ∧ c ≤ 9) :
    Calls Tryz.prog 118 #[.agg #[.int .i64 kd, .int .i64 d, .int .i64 n, .int .i64 td, .int .i64 tn, .int .i64 vv], .agg #[.int .i64 c, .int .i64 cv]] w (WriteEnd w c cv vv) := by
  have HC : Hid (0 ≤ c ∧ c ≤ 9) := hc
  have HX : Hid (Bxs w.heap.size kd d n td tn vv c cv (((w.alloc (opO kd d n td tn vv)).alloc (chO c cv)).alloc zeroPl)) := Bxs.new _ _ _ _ _ _ _ _ _
  have HB : Hid (Below w.heap.size w (((w.alloc (opO kd d n td tn vv)).alloc (chO c cv)).alloc zeroPl)) := below3 _ _ _ _
  clear hc
  by_cases h1 : cv = 1000
  · subst h1
    go_enter Tryz.func118, Tryz.ntmps118
    go_wp2_with fail
    refine (childDir_is c 1000 _).mono ?_
    rintro e w1 ⟨rfl, q1⟩
    have HB1 : Hid (Below w.heap.size w w1) := HB.out.trans (q1.mono HB.out.size)
    clear q1
    go_wp2_with fail
    refine (wrongIf_so 9 _).mono ?_
    rintro e w9 ⟨rfl, hw9⟩
    obtain rfl := hw9.symm
    exact ⟨rfl, HB1.out, Or.inl ⟨rfl, rfl⟩⟩
  have HN : Hid (cv ≠ 1000) := h1
  have e1 : (cv == 1000) = false := beq_eq_false_iff_ne.2 h1
  have hit := fun a0 a1 a2 w => run_item1 a0 a1 a2 w
  clear h1
  go_enter Tryz.func118, Tryz.ntmps118
  go_wp2_with fail
  refine (childDir_is c cv _).mono ?_
  rintro e w1 ⟨rfl, q1⟩
  have H1 : Hid (Bxs w.heap.size kd d n td tn vv c cv w1 ∧ Below w.heap.size w w1) := ⟨HX.out.later q1, HB.out.trans (q1.mono HB.out.size)⟩
  clear q1 HX HB
  rw [e1]
  go_wp2_with fail
  refine (wrongIf_no 9 _).mono ?_
  rintro e w9 ⟨rfl, hw9⟩
  obtain rfl := hw9.symm
  go_upto_region 2 with fail
  refine wp_region_held_drew (S := Bxs w.heap.size kd d n td tn vv c cv) (by kernel_rfl) H1.out.1.drew (fun hS => ?_)
  refine tkH 0 ?_ hS (fun wx hx => ?_) ?_; rotate_left
  · obtain ⟨⟨⟨hx0, hx1, hx2, hx3, hx4, hx5⟩, _⟩, ⟨⟨hx6, hx7⟩, _⟩, _⟩ := hx; go_simp; try with_reducible rfl
  refine tkH 1 ?_ hS (fun wx hx => ?_) ?_; rotate_left
  · obtain ⟨⟨⟨hx0, hx1, hx2, hx3, hx4, hx5⟩, _⟩, ⟨⟨hx6, hx7⟩, _⟩, _⟩ := hx; go_simp; try with_reducible rfl
  refine tkH 3 ?_ hS (fun wx hx => ?_) ?_; rotate_left
  · obtain ⟨⟨⟨hx0, hx1, hx2, hx3, hx4, hx5⟩, _⟩, ⟨⟨hx6, hx7⟩, _⟩, _⟩ := hx; go_simp; try with_reducible rfl
  refine tkH 4 ?_ hS (fun wx hx => ?_) ?_; rotate_left
  · obtain ⟨⟨⟨hx0, hx1, hx2, hx3, hx4, hx5⟩, _⟩, ⟨⟨hx6, hx7⟩, _⟩, _⟩ := hx; go_simp; try with_reducible rfl
  have HB1 : Hid (Below w.heap.size w w1.drew) := H1.out.2.drew
  clear H1
  generalize w1.drew = w1 at HB1 hS ⊢
  refine rdH 2 (fun K hK => ?_)
  go_simp
  go_wp2_with fail
  refine (bytesKey_is c HC.out _).mono ?_
  rintro e w2 ⟨rfl, q2⟩
  have hS2 := hS.later q2
  have HB2 : Hid (Below w.heap.size w w2) := HB1.out.trans (q2.mono HB1.out.size)
  clear q2 HB1 hS
  go_wp2_with fail
  refine hK.out _ _ hS2 (fun hS => ?_)
  clear hK K
  refine rdH 5 (fun K hK => ?_)
  go_simp
  go_wp2_with fail
  refine (putTo_is (kB c) vv _).mono ?_
  rintro e w3 ⟨rfl, q3⟩
  have hS3 := hS.later q3
  have HB3 : Hid (Below w.heap.size w w3) := HB2.out.trans (q3.mono HB2.out.size)
  clear q3 HB2 hS hS2
  go_wp2_with fail
  refine hK.out _ _ hS3 (fun hS => ?_)
  clear hK K
  refine rdH 6 (fun K hK => ?_)
  go_simp
  have HW : Hid (OwnM (w3.alloc (.cells #[.int .i64 (kB c), .int .i64 1, .int .i64 vv] 132)) w3.heap.size 132 3 (.slice (some ⟨w3.heap.size, 0, none⟩) 1 1) 1 [kB c, 1, vv]) := OwnM.lit w3 132 3 1 [kB c, 1, vv] #[.int .i64 (kB c), .int .i64 1, .int .i64 vv] (by simp) rfl (by unfold maxLen; omega)
  have hlt := hS.lt
  have hS4 := hS.alloc (.cells #[.int .i64 (kB c), .int .i64 1, .int .i64 vv] 132)
  clear hS
  refine hK.out _ _ hS4 (fun hS => ?_)
  clear hK K
  refine tkH 7 ?_ hS (fun wx hx => ?_) ?_; rotate_left
  · obtain ⟨⟨⟨hx0, hx1, hx2, hx3, hx4, hx5⟩, _⟩, ⟨⟨hx6, hx7⟩, _⟩, _⟩ := hx; go_simp; try with_reducible rfl
  refine rdH 8 (fun K hK => ?_)
  refine step_storeP rfl _ _ rfl (w.heap.size + 2) _ _ _ _ _ rfl rfl hS.2.2 (by kernel_rfl) ?_
  have HS5 : Hid (PBk (w3.alloc (.cells #[.int .i64 (kB c), .int .i64 1, .int .i64 vv] 132)) (w.heap.size + 2)) := hS.2.2
  have hS5 := hS.row #[.int .i64 0, .int .i64 0, .int .i64 0, .slice none 0 0, .slice (some ⟨w3.heap.size, 0, none⟩) 1 1] rfl
  clear hS hS3 hS4
  refine hK.out _ _ hS5 (fun hS => ?_)
  clear hK K
  refine wpAnyH_done (by kernel_rfl) ?_ _
  go_simp
  go_wp2
  refine bodyPost_ret (v := .agg #[.int .i64 0, .int .i64 0, .int .i64 0, .slice none 0 0, .slice (some ⟨w3.heap.size, 0, none⟩) 1 1]) (results_pl Tryz.results118 _ _ _ _ _ _ _ _ rfl HS5.out) rfl ⟨?_, Or.inr ⟨HN.out, _, rfl, ?_⟩⟩
  · exact below_row (HB3.out.alloc HB3.out.size _) (by omega) _
  · exact OwnM.monoP (OwnM.kept HW.out fun g hg _ => heap_setRow _ _ _ _ (by omega)) (by omega)
/-- How a helper that tells a plan ends: it is told, or the reply is raised. -/
def PlanEnd (w : World) (b rb mb : Nat) (L : Prs) (vr : Value) (r v : Int) (ys : List Int) (m : Nat) (W : List Int) (e : Ending) (w' : World) : Prop :=
  ∃ vr', (Looks w' b rb mb L ys vr' ∧ Keeps w w' b mb vr vr') ∧ ((r = 0 ∧ ∃ vw, e = .returned (.agg #[.int .i64 0, .int .i64 0, .int .i64 v, .slice none 0 0, vw]) ∧ OwnM w' w.heap.size 132 3 vw m W ∧ ∀ k, vr'.ownBlock = some k → vw.ownBlock ≠ some k) ∨ (r ≠ 0 ∧ e = .panicked (wrongs r) ∧ v = 0 ∧ m = 0 ∧ W = []))
theorem Looks.off2 {w : World} {b rb mb : Nat} {L : Prs} {xs : List Int} {vr : Value} (h : Looks w b rb mb L xs vr) {k : Nat} {X : World} (hk : w.heap.size ≤ k) (hX : k < X.heap.size) : Off X b mb vr k := by
  have h1 := h.1.lt
  have h2 := h.2.2.1.lt
  exact ⟨hX, by omega, by omega, fun e => by have := (h.2.2.2.1.lt _ e).2; omega⟩
/-- Only a block of the caller's own has turned. -/
theorem Looks.offs {w w' : World} {b rb mb : Nat} {L : Prs} {xs : List Int} {vr : Value} {g : Nat} (h : Looks w b rb mb L xs vr) (ho : Off w b mb vr g) (hk : ∀ k, k ≠ g → w'.heap[k]? = w.heap[k]?) (hv : ¬ g < mb := by omega) : Looks w' b rb mb L xs vr := by
  have hi : OwnM w (b + 1) 2 1 vr xs.length xs := h.2.2.2.1
  exact ⟨h.1.kept (hk b (fun e => ho.2.1 e.symm)), h.2.1.kept (fun k _ hm => hk k (fun e => hv (by omega))) h.2.2.2.2.1, h.2.2.1.kept (hk mb (fun e => ho.2.2.1 e.symm)), OwnM.keptB hi (fun k hq => hk k (fun e => ho.2.2.2 (by rw [← e]; exact hq))), h.2.2.2.2⟩
theorem Keeps.offs {w w' w'' : World} {b mb : Nat} {vr vr' : Value} {g : Nat} (h : Keeps w w' b mb vr vr') (hs : w'.heap.size = w''.heap.size) (hk : ∀ k, k ≠ g → w''.heap[k]? = w'.heap[k]?) (ho : w''.os = w'.os ∧ w''.tape = w'.tape ∧ w''.output = w'.output) (hg : w.heap.size ≤ g) : Keeps w w'' b mb vr vr' :=
  ⟨⟨ho.1.trans h.1.1, ho.2.1.trans h.1.2.1, ho.2.2.trans h.1.2.2⟩, by rw [← hs]; exact h.2.1, fun k hk1 h1 h2 h3 => (hk k (by omega)).trans (h.2.2.1 k hk1 h1 h2 h3), h.2.2.2⟩
abbrev sightO (s : Bool) (z : Int) : Obj := .cells #[.bool s, .int .i64 z] 102
set_option maxRecDepth 100000 in
set_option maxHeartbeats 4000000 in
theorem lookChild_is (L : Prs) (b rb mb : Nat) (xs : List Int) (vr : Value) (s : Bool) (ch : Int) (w : World) (h : Looks w b rb mb L xs vr) (hrs : Rises L) (hn : L.length ≤ 1000) (hch : 0 ≤ ch) (hx : xs.length ≤ 1000) (c cv : Int) (hc : minC ch = c) (hcv : (lookF L (kI c)).2 = cv) :
    Calls Tryz.prog 114 #[.pointer (some ⟨b, 0, none⟩), .agg #[.bool s, .int .i64 ch]] w fun e w' => e = .returned (.agg #[.int .i64 c, .int .i64 cv]) ∧ ∃ vr', Looks w' b rb mb L (addR xs (kI c)) vr' ∧ Keeps w w' b mb vr vr' := by
  have hmb : mb < w.heap.size := h.2.2.1.lt
  have HC : Hid (minC ch = c ∧ (lookF L (kI c)).2 = cv ∧ (0 ≤ c ∧ c ≤ 9) ∧ Rises L) := ⟨hc, hcv, hc ▸ minC_in hch, hrs⟩
  have HB : Hid (Below w.heap.size w ((w.alloc (sightO s ch)).alloc (chO 0 0))) := (below_alloc _ _).alloc (by simp) _
  have HL : Hid (Looks ((w.alloc (sightO s ch)).alloc (chO 0 0)) b rb mb L xs vr ∧ Keeps w ((w.alloc (sightO s ch)).alloc (chO 0 0)) b mb vr vr) := ⟨(h.alloc _).alloc _, Keeps.below _ _ _ HB.out⟩
  have HO : Hid (Off ((w.alloc (sightO s ch)).alloc (chO 0 0)) b mb vr (w.heap.size + 1)) := h.off2 (Nat.le_succ _) (by simp)
  have HR : Hid (Blk2 ((w.alloc (sightO s ch)).alloc (chO 0 0)) (w.heap.size + 1) (.int .i64 0) (.int .i64 0)) := by
    have q := Blk2.new (w.alloc (sightO s ch)) (.int .i64 0) (.int .i64 0) 155
    rwa [World.size_alloc] at q
  have fs := fun h v w => field_sight1 h v w
  have hmin := fun w => run_min9 ch w
  rw [hc] at hmin
  clear h hrs hch hc hcv
  go_enter Tryz.func114, Tryz.ntmps114
  go_wp2_with fail
  refine (inodeKey_is c HC.out.2.2.1 _).mono ?_
  rintro e w1 ⟨rfl, q1⟩
  have H1 : Hid ((Looks w1 b rb mb L xs vr ∧ Keeps w w1 b mb vr vr) ∧ Off w1 b mb vr (w.heap.size + 1) ∧ Blk2 w1 (w.heap.size + 1) (.int .i64 0) (.int .i64 0)) := ⟨⟨HL.out.1.later q1, HL.out.2.trans (Keeps.below _ _ _ q1)⟩, ((Keeps.below b mb vr q1).off HO.out).1, HR.out.later q1⟩
  clear q1 HL HO HR
  go_wp2_with fail
  refine (look_is L b rb mb xs vr (kI c) _ H1.out.1.1 HC.out.2.2.2 hn (by have := HC.out.2.2.1; unfold kI; omega) hx).mono ?_
  rintro e w2 ⟨rfl, vr2, l2, k2⟩
  have H2 : Hid ((Looks w2 b rb mb L (addR xs (kI c)) vr2 ∧ Keeps w w2 b mb vr vr2) ∧ Off w2 b mb vr2 (w.heap.size + 1) ∧ Blk2 w2 (w.heap.size + 1) (.int .i64 0) (.int .i64 0)) := ⟨⟨l2, H1.out.1.2.trans k2⟩, (k2.off H1.out.2.1).1, H1.out.2.2.kept (k2.off H1.out.2.1).2⟩
  clear l2 k2 H1
  rw [HC.out.2.1]
  obtain ⟨⟨x0, x1⟩, y0, y1⟩ := H2.out.2.2
  have HP : Hid (_ ∧ _) := (Blk2.put H2.out.2.2 (.int .i64 c) (.int .i64 cv)).1
  go_wp2
  refine bodyPost_ret (v := .agg #[.int .i64 c, .int .i64 cv]) (by simp [results, Tryz.results114, go_sem, HP.out.1, HP.out.2]) rfl ⟨rfl, vr2, ?_, ?_⟩
  · exact H2.out.1.1.offs (H2.out.2.1) (fun k hk => (Below.heap_setCell _ _ _ _ (by simpa using hk)).trans (Below.heap_setCell _ _ _ _ (by simpa using hk)))
  · exact H2.out.1.2.offs (by simp) (fun k hk => (Below.heap_setCell _ _ _ _ (by simpa using hk)).trans (Below.heap_setCell _ _ _ _ (by simpa using hk))) ⟨rfl, rfl, rfl⟩ (by omega)
/-- Box of a child and box of a plan. -/
def Bx2 (bc : Nat) (c cv : Int) (X : World) : Prop := Blk2 X bc (.int .i64 c) (.int .i64 cv) ∧ PBk X (bc + 1)
theorem Bx2.later {bc : Nat} {c cv : Int} {X X' : World} (h : Bx2 bc c cv X) (hb : Below X.heap.size X X') : Bx2 bc c cv X' := ⟨h.1.later hb, h.2.later hb⟩
theorem Bx2.new (w : World) (c cv : Int) : Bx2 w.heap.size c cv ((w.alloc (chO c cv)).alloc zeroPl) := by
  refine ⟨(Blk2.new w _ _ _).alloc _, ?_⟩
  have h := PBk.new (w.alloc (chO c cv)) (.int .i64 0) (.int .i64 0) (.int .i64 0) (.slice none 0 0) (.slice none 0 0)
  rwa [World.size_alloc] at h
set_option maxRecDepth 100000 in
set_option maxHeartbeats 4000000 in
theorem planRead_is (L : Prs) (b rb mb : Nat) (xs : List Int) (vr : Value) (c cv : Int) (w : World) (h : Looks w b rb mb L xs vr) (hrs : Rises L) (hn : L.length ≤ 1000) (hc : 0 ≤ c ∧ c ≤ 9) (hx : xs.length ≤ 1000) (r v : Int) (ys : List Int) (m : Nat) (W : List Int) (hp : (if cv = 1000 then ((9 : Int), (0 : Int), xs, 0, ([] : List Int)) else (0, (lookF L (kB c)).2, addR xs (kB c), 0, [])) = (r, v, ys, m, W)) :
    Calls Tryz.prog 119 #[.pointer (some ⟨b, 0, none⟩), .agg #[.int .i64 c, .int .i64 cv]] w (PlanEnd w b rb mb L vr r v ys m W) := by
  have hmb : mb < w.heap.size := h.2.2.1.lt
  have HC : Hid ((0 ≤ c ∧ c ≤ 9) ∧ Rises L) := ⟨hc, hrs⟩
  have HB : Hid (Below w.heap.size w ((w.alloc (chO c cv)).alloc zeroPl)) := (below_alloc _ _).alloc (by simp) _
  have HL : Hid ((Looks ((w.alloc (chO c cv)).alloc zeroPl) b rb mb L xs vr ∧ Keeps w ((w.alloc (chO c cv)).alloc zeroPl) b mb vr vr) ∧ Bx2 w.heap.size c cv ((w.alloc (chO c cv)).alloc zeroPl) ∧ Off ((w.alloc (chO c cv)).alloc zeroPl) b mb vr w.heap.size ∧ Off ((w.alloc (chO c cv)).alloc zeroPl) b mb vr (w.heap.size + 1)) := ⟨⟨(h.alloc _).alloc _, Keeps.below _ _ _ HB.out⟩, Bx2.new _ _ _, h.off2 (Nat.le_refl _) (by simp; omega), h.off2 (Nat.le_succ _) (by simp)⟩
  have fs := fun h v w => field_sight1 h v w
  clear h hrs hc
  by_cases h1 : cv = 1000
  · subst h1
    rw [if_pos rfl] at hp
    simp only [Prod.mk.injEq] at hp
    obtain ⟨rfl, rfl, rfl, rfl, rfl⟩ := hp
    go_enter Tryz.func119, Tryz.ntmps119
    go_wp2_with fail
    refine (childDir_is c 1000 _).mono ?_
    rintro e w1 ⟨rfl, q1⟩
    have H1 : Hid (Looks w1 b rb mb L xs vr ∧ Keeps w w1 b mb vr vr) := ⟨HL.out.1.1.later q1, HL.out.1.2.trans (Keeps.below _ _ _ q1)⟩
    clear q1
    go_wp2_with fail
    refine (wrongIf_so 9 _).mono ?_
    rintro e w9 ⟨rfl, hw9⟩
    obtain rfl := hw9.symm
    exact ⟨rfl, vr, H1.out, Or.inr ⟨by decide, rfl, rfl, rfl, rfl⟩⟩
  rw [if_neg h1] at hp
  simp only [Prod.mk.injEq] at hp
  obtain ⟨rfl, hv, rfl, rfl, rfl⟩ := hp
  have HV : Hid ((lookF L (kB c)).2 = v) := hv
  have e1 : (cv == 1000) = false := beq_eq_false_iff_ne.2 h1
  clear h1 hv
  go_enter Tryz.func119, Tryz.ntmps119
  go_wp2_with fail
  refine (childDir_is c cv _).mono ?_
  rintro e w1 ⟨rfl, q1⟩
  have k1 := Keeps.below b mb vr q1
  have H1 : Hid ((Looks w1 b rb mb L xs vr ∧ Keeps w w1 b mb vr vr) ∧ Bx2 w.heap.size c cv w1 ∧ Off w1 b mb vr w.heap.size ∧ Off w1 b mb vr (w.heap.size + 1)) := ⟨⟨HL.out.1.1.later q1, HL.out.1.2.trans k1⟩, HL.out.2.1.later q1, (k1.off HL.out.2.2.1).1, (k1.off HL.out.2.2.2).1⟩
  clear q1 k1 HL HB
  rw [e1]
  go_wp2_with fail
  refine (wrongIf_no 9 _).mono ?_
  rintro e w9 ⟨rfl, hw9⟩
  obtain rfl := hw9.symm
  obtain ⟨⟨x0, x1⟩, _⟩ := H1.out.2.1.1
  go_wp2_with fail
  refine (bytesKey_is c HC.out.1 _).mono ?_
  rintro e w2 ⟨rfl, q2⟩
  have k2 := Keeps.below b mb vr q2
  have H2 : Hid ((Looks w2 b rb mb L xs vr ∧ Keeps w w2 b mb vr vr) ∧ Bx2 w.heap.size c cv w2 ∧ Off w2 b mb vr w.heap.size ∧ Off w2 b mb vr (w.heap.size + 1)) := ⟨⟨H1.out.1.1.later q2, H1.out.1.2.trans k2⟩, H1.out.2.1.later q2, (k2.off H1.out.2.2.1).1, (k2.off H1.out.2.2.2).1⟩
  clear q2 k2 H1 x0 x1
  go_wp2_with fail
  refine (look_is L b rb mb xs vr (kB c) _ H2.out.1.1 HC.out.2 hn (by have := HC.out.1; unfold kB; omega) hx).mono ?_
  rintro e w3 ⟨rfl, vr3, l3, k3⟩
  have H3 : Hid ((Looks w3 b rb mb L (addR xs (kB c)) vr3 ∧ Keeps w w3 b mb vr vr3) ∧ PBk w3 (w.heap.size + 1) ∧ Off w3 b mb vr3 (w.heap.size + 1)) := ⟨⟨l3, H2.out.1.2.trans k3⟩, H2.out.2.1.2.kept (k3.off H2.out.2.2.2).2, (k3.off H2.out.2.2.2).1⟩
  clear l3 k3 H2
  rw [HV.out]
  go_wp2_with (refine wpList_storeP rfl _ _ rfl (w.heap.size + 1) _ _ _ _ _ rfl rfl H3.out.2.1 (by kernel_rfl) ?_)
  refine bodyPost_ret (v := .agg #[.int .i64 0, .int .i64 0, .int .i64 v, .slice none 0 0, .slice none 0 0]) (results_pl Tryz.results119 _ _ _ _ _ _ _ _ rfl H3.out.2.1) rfl ⟨vr3, ⟨?_, ?_⟩, Or.inl ⟨rfl, _, rfl, OwnM.nil _ _ _ _, fun k _ e => by cases e⟩⟩
  · exact H3.out.1.1.offs H3.out.2.2 (fun k hk => heap_setRow _ _ _ _ hk)
  · exact H3.out.1.2.offs (by rw [size_setRow]) (fun k hk => heap_setRow _ _ _ _ hk) ⟨rfl, rfl, rfl⟩ (by omega)
end Go.Proofs.YtnchaccgenfhoaaGreat

namespace Go.Proofs.YtnchaccgenfhoaaGreat
open Go.RowKit

/-- The numbers of a list of pairs, as a list. -/
def flatL : Prs → List Int
  | [] => []
  | e :: t => e.1 :: e.2 :: flatL t
theorem flatL_length : ∀ L, (flatL L).length = L.length * 2
  | [] => rfl
  | e :: t => by simp only [flatL, List.length_cons, flatL_length t]; omega
theorem flatL_append : ∀ (L M : Prs), flatL (L ++ M) = flatL L ++ flatL M
  | [], _ => rfl
  | e :: t, M => by simp only [List.cons_append, flatL, flatL_append t M]
theorem flatL_get : ∀ (L : Prs) (p : Nat), (flatL L).getD p 0 = rowL L p
  | [], p => by simp [flatL, rowL]
  | e :: t, 0 => rfl
  | e :: t, 1 => rfl
  | e :: t, p + 2 => by
    simp only [flatL, List.getD_cons_succ]
    rw [flatL_get t p, rowL, rowL, show (p + 2) % 2 = p % 2 by omega, show (p + 2) / 2 = p / 2 + 1 by omega, List.getD_cons_succ]
theorem ownM_own {w : World} {B : Nat} {v : Value} {L : Prs} (h : OwnM w B 61 2 v L.length (flatL L)) : Own w B 61 2 L.length (rowL L) v := own_eqP (h.own (flatL_length L)) fun p _ => flatL_get L p
theorem own_ownP {w : World} {B : Nat} {v : Value} {L : Prs} (h : Own w B 61 2 L.length (rowL L) v) : OwnM w B 61 2 v L.length (flatL L) := by
  unfold OwnM
  unfold Own at h
  have e : (flatL L).map (Value.int .i64) = vals (rowL L) (L.length * 2) := by
    refine List.ext_getElem? fun p => ?_
    unfold vals
    rw [List.getElem?_map, List.getElem?_map]
    by_cases hp : p < L.length * 2
    · rw [List.getElem?_range hp]
      have h1 := flatL_get L p
      rw [List.getD_eq_getElem?_getD] at h1
      have hp' : p < (flatL L).length := by rw [flatL_length]; exact hp
      rw [List.getElem?_eq_getElem hp'] at h1 ⊢
      simp only [Option.getD_some] at h1
      simp [h1]
    · rw [List.getElem?_eq_none (by rw [flatL_length]; omega), List.getElem?_eq_none (by simp; omega)]
      rfl
  rwa [e]
theorem row_lit2 (w : World) (x0 x1 : Int) (t : TypeId) : Row (w.alloc (.cells #[.int .i64 x0, .int .i64 x1] t)) 0 2 1 (fun p => [x0, x1].getD p 0) (.slice (some ⟨w.heap.size, 0, none⟩) 1 1) := by
  refine ⟨_, _, rfl, fun _ => ⟨w.heap.size, 0, rfl, Nat.zero_le _, by simp, fun p hp => ?_⟩⟩
  rw [Nat.zero_add, World.cell?_alloc_mark]
  match p, hp with
  | 0, _ => rfl
  | 1, _ => rfl
/-- One round of the model's set. -/
def stepS (k x : Int) (q : Prs × Bool) (e : Int × Int) : Prs × Bool :=
  ((if q.2 = false ∧ k ≤ e.1 then q.1 ++ [(k, x)] else q.1) ++ (if e.1 = k then [] else [e]), if k ≤ e.1 then true else q.2)
def accS (L : Prs) (k x : Int) (has : Bool) : Nat → Prs × Bool
  | 0 => ([], !has)
  | i + 1 => stepS k x (accS L k x has i) (L.getD i (0, 0))
/-- What the model's set comes to. -/
def setS (L : Prs) (k x : Int) (has : Bool) : Prs := if (accS L k x has L.length).2 then (accS L k x has L.length).1 else (accS L k x has L.length).1 ++ [(k, x)]
theorem accS_foldl (L : Prs) (k x : Int) (has : Bool) : ∀ i, i ≤ L.length → accS L k x has i = (L.take i).foldl (stepS k x) ([], !has)
  | 0, _ => by simp [accS]
  | i + 1, h => by
    have hg : L.getD i (0, 0) = L[i] := by simp [List.getD, show i < L.length by omega]
    rw [accS, accS_foldl L k x has i (by omega), List.take_succ_eq_append_getElem (by omega), List.foldl_append, hg]
    rfl
theorem fold_done (k x : Int) : ∀ (L o : Prs), L.foldl (stepS k x) (o, true) = (o ++ gonePr L k, true)
  | [], o => by simp [gonePr]
  | e :: t, o => by
    rw [List.foldl_cons]
    have h1 : stepS k x (o, true) e = (o ++ (if e.1 = k then [] else [e]), true) := by simp [stepS]
    rw [h1, fold_done k x t, List.append_assoc]
    congr 2
    unfold gonePr
    by_cases he : e.1 = k
    · rw [if_pos he, List.filter_cons_of_neg (by simp [he])]; rfl
    · rw [if_neg he, List.filter_cons_of_pos (by simp [he])]; rfl
theorem fold_put (k x : Int) : ∀ (L o : Prs), (if (L.foldl (stepS k x) (o, false)).2 then (L.foldl (stepS k x) (o, false)).1 else (L.foldl (stepS k x) (o, false)).1 ++ [(k, x)]) = o ++ putPr L k x
  | [], o => by simp [putPr]
  | e :: t, o => by
    rw [List.foldl_cons]
    by_cases he : k ≤ e.1
    · have h1 : stepS k x (o, false) e = ((o ++ [(k, x)]) ++ (if e.1 = k then [] else [e]), true) := by simp [stepS, he]
      rw [h1, fold_done]
      simp only [if_true]
      rw [putPr, if_pos he]
      have h2 : gonePr (e :: t) k = (if e.1 = k then [] else [e]) ++ gonePr t k := by
        unfold gonePr
        by_cases hk : e.1 = k
        · rw [if_pos hk, List.filter_cons_of_neg (by simp [hk])]; rfl
        · rw [if_neg hk, List.filter_cons_of_pos (by simp [hk])]; rfl
      rw [h2]
      simp
    · have h1 : stepS k x (o, false) e = (o ++ [e], false) := by simp [stepS, he, show ¬ e.1 = k by omega]
      rw [h1, fold_put k x t (o ++ [e]), putPr, if_neg he]
      simp
theorem setS_put (L : Prs) (k x : Int) : setS L k x true = putPr L k x := by
  unfold setS
  rw [accS_foldl L k x true _ (Nat.le_refl _), List.take_length]
  exact fold_put k x L []
theorem setS_gone (L : Prs) (k x : Int) : setS L k x false = gonePr L k := by
  unfold setS
  rw [accS_foldl L k x false _ (Nat.le_refl _), List.take_length]
  show (if (L.foldl (stepS k x) ([], true)).2 = true then (L.foldl (stepS k x) ([], true)).1 else _) = _
  rw [fold_done]
  rfl
theorem accS_len (L : Prs) (k x : Int) (has : Bool) : ∀ i, (accS L k x has i).1.length ≤ i * 2
  | 0 => by simp [accS]
  | i + 1 => by
    have h := accS_len L k x has i
    rw [accS, stepS]
    simp only [List.length_append]
    have h1 : (if (accS L k x has i).2 = false ∧ k ≤ (L.getD i (0, 0)).1 then (accS L k x has i).1 ++ [(k, x)] else (accS L k x has i).1).length ≤ (accS L k x has i).1.length + 1 := by split <;> simp
    have h2 : (if (L.getD i (0, 0)).1 = k then [] else [L.getD i (0, 0)]).length ≤ 1 := by split <;> simp
    omega
/-- What stands while the model sets. -/
def SetE (w : World) (k x : Int) (v : Value) (o : Prs) (X : World) : Prop := OwnM X (w.heap.size + 1) 61 2 v o.length (flatL o) ∧ Blk2 X w.heap.size (.int .i64 k) (.int .i64 x) ∧ Below w.heap.size w X
theorem SetE.push {w X w2 : World} {k x a b : Int} {ao ao1 : Option Addr} {cp cp1 : Nat} {o : Prs} (h : SetE w k x (.slice ao o.length cp) o X) (O2 : OwnM w2 (w.heap.size + 1) 61 2 (.slice ao1 (o.length + 1) cp1) (o.length + 1) (flatL o ++ nums (fun p => [a, b].getD p 0) (1 * 2))) (G2 : (X.alloc (.cells #[.int .i64 a, .int .i64 b] 61)).grownBy w2 (Value.slice ao o.length cp).ownBlock) : SetE w k x (.slice ao1 (o ++ [(a, b)]).length cp1) (o ++ [(a, b)]) w2 := by
  refine ⟨?_, (h.2.1.alloc _).kept (G2.block _ (by have := h.2.1.lt; simp; omega) (fun e => by have := (h.1.block _ e.symm).1; omega)), (h.2.2.alloc h.2.2.size _).grown G2 (by have := h.2.2.size; simp; omega) (fun r e => by have := (h.1.block r e).1; omega)⟩
  rw [List.length_append, flatL_append]
  exact O2
set_option maxRecDepth 100000 in
set_option maxHeartbeats 4000000 in
theorem l11Set_any (L : Prs) (v : Value) (B : Nat) (k x : Int) (has : Bool) (w : World) (h : Row w B 2 L.length (rowL L) v) (hn : L.length ≤ 1000) :
    Calls Tryz.prog 76 #[v, .agg #[.int .i64 k, .int .i64 x], .bool has] w fun e w' => ∃ ao cp, e = .returned (.slice ao (setS L k x has).length cp) ∧ Own w' w.heap.size 61 2 (setS L k x has).length (rowL (setS L k x has)) (.slice ao (setS L k x has).length cp) ∧ Below w.heap.size w w' := by
  obtain ⟨ao0, cp0, rfl⟩ := h.form
  have H : Hid (Row w B 2 L.length (rowL L) (.slice ao0 L.length cp0)) := h
  clear h
  obtain ⟨i0, hi, iz0, iz1, iz2⟩ := info_parts infoz_Pair
  obtain ⟨R, hR⟩ : ∃ R, setS L k x has = R := ⟨_, rfl⟩
  have HR : Hid (setS L k x has = R) := hR
  rw [hR]
  clear hR
  go_enter Tryz.func76, Tryz.ntmps76
  go_wp2
  go_loopw [7, 8, 9] (fun out d i wr => ∃ (j : Nat) (ao : Option Addr) (cp : Nat) (o : Prs) (dn : Bool), j ≤ L.length ∧ i = .int .i64 j ∧ d = .bool dn ∧ out = .slice ao o.length cp ∧ Hid (accS L k x has j = (o, dn)) ∧ Hid (SetE w k x (.slice ao o.length cp) o wr)) (fun _ _ i _ => L.length - (intOf i).toNat)
  case atStart =>
    refine ⟨0, _, _, [], !has, Nat.zero_le _, rfl, rfl, rfl, rfl, OwnM.lit0 _ _ _ _ (by simp), (Blk2.new w _ _ _).alloc _, (below_alloc _ _).alloc (by simp) _⟩
  case round =>
    obtain ⟨j, ao, cp, o, dn, hj, rfl, rfl, rfl, HA, HS⟩ := hrel
    have hol : o.length ≤ 2000 := by
      have := accS_len L k x has j
      rw [HA.out] at this
      simp only at this
      omega
    have hz : w.heap.size < wr.heap.size := HS.out.2.1.lt
    obtain ⟨⟨c0, c1⟩, _, _⟩ := HS.out.2.1
    by_cases hlt : j < L.length
    case neg =>
      obtain rfl : j = L.length := by omega
      cases dn with
      | true =>
        have HE : Hid (R = o) := by
          have := HR.out
          unfold setS at this
          rw [HA.out] at this
          exact (by simpa using this.symm : R = o)
        clear HA HR
        go_wp2
        refine bodyPost_ret (v := .slice ao o.length cp) (by simp [results, Tryz.results76, go_sem]) rfl ?_
        rw [HE.out]
        exact ⟨ao, cp, rfl, (ownM_own HS.out.1).mono (by omega), HS.out.2.2⟩
      | false =>
        have HE : Hid (R = o ++ [(k, x)]) := by
          have := HR.out
          unfold setS at this
          rw [HA.out] at this
          exact (by simpa using this.symm : R = o ++ [(k, x)])
        clear HA HR
        go_wp2_with (at_builtin; refine wpList_app 61 i0 (.agg #[.int .i64 0, .int .i64 0]) 2 16 rfl _ _ 24 rfl Tryz.underlying24 hi iz0 iz1 iz2 rfl (by omega) (by omega) _ (w.heap.size + 1) o.length (flatL o) (.slice ao o.length cp) rfl (HS.out.1.later (below_alloc _ _)) 0 1 (fun p => [k, x].getD p 0) (.slice (some ⟨wr.heap.size, 0, none⟩) 1 1) rfl (row_lit2 wr k x 61) (by omega) (by simp; omega) ?_; intro ao1 cp1 w1 O2 G2)
        have HS1 : Hid (SetE w k x (.slice ao1 (o ++ [(k, x)]).length cp1) (o ++ [(k, x)]) w1) := HS.out.push O2 G2
        have hz1 : w.heap.size < w1.heap.size := HS1.out.2.1.lt
        clear O2 G2
        go_wp2
        refine bodyPost_ret (v := .slice ao1 (o ++ [(k, x)]).length cp1) (by simp [results, Tryz.results76, go_sem]) rfl ?_
        rw [HE.out]
        exact ⟨ao1, cp1, rfl, (ownM_own HS1.out.1).mono (by omega), HS1.out.2.2⟩
    obtain ⟨g, oo, hao, _, hg, yw0, yw1⟩ := H.out.at2 hlt
    subst hao
    obtain ⟨n0, N0⟩ : ∃ x, rowL L (j * 2) = x := ⟨_, rfl⟩
    rw [N0] at yw0
    obtain ⟨n1, N1⟩ : ∃ x, rowL L (j * 2 + 1) = x := ⟨_, rfl⟩
    rw [N1] at yw1
    have HN : Hid (accS L k x has (j + 1) = stepS k x (o, dn) (n0, n1)) := by
      unfold Hid
      rw [accS, HA.out, ← N0, ← N1, rowL_key, rowL_val]
    clear N0 N1 HA HR c0 c1
    have yr0 := (HS.out.2.2.cell (p := ⟨g, oo + j * 2, none⟩) hg).trans yw0
    have yr1 := (HS.out.2.2.cell (p := ⟨g, oo + j * 2 + 1, none⟩) hg).trans yw1
    obtain ⟨⟨cr0, cr1⟩, _, _⟩ := HS.out.2.1
    cases dn with
    | true =>
      by_cases he : n0 = k
      · have HE : Hid (accS L k x has (j + 1) = (o, true)) := by unfold Hid; rw [HN.out]; simp [stepS, he]
        subst he
        clear HN
        go_wp2_with fail
        go_quiet (fail)
        have HSa : Hid (SetE w n0 x (.slice ao (o).length cp) (o) (wr.drewN nq)) := ⟨HS.out.1, HS.out.2.1, below_dn HS.out.2.2 _⟩
        generalize wr.drewN nq = Xa at HSa ⊢
        have hza : w.heap.size < Xa.heap.size := HSa.out.2.1.lt
        have ya0 := (HSa.out.2.2.cell (p := ⟨g, oo + j * 2, none⟩) hg).trans yw0
        have ya1 := (HSa.out.2.2.cell (p := ⟨g, oo + j * 2 + 1, none⟩) hg).trans yw1
        obtain ⟨⟨ca0, ca1⟩, _, _⟩ := HSa.out.2.1
        clear yr0 yr1 cr0 cr1
        go_wp2_with fail
        go_quiet (fail)
        have HSb : Hid (SetE w n0 x (.slice ao (o).length cp) (o) (Xa.drewN nq)) := ⟨HSa.out.1, HSa.out.2.1, below_dn HSa.out.2.2 _⟩
        generalize Xa.drewN nq = Xb at HSb ⊢
        have hzb : w.heap.size < Xb.heap.size := HSb.out.2.1.lt
        have yb0 := (HSb.out.2.2.cell (p := ⟨g, oo + j * 2, none⟩) hg).trans yw0
        have yb1 := (HSb.out.2.2.cell (p := ⟨g, oo + j * 2 + 1, none⟩) hg).trans yw1
        obtain ⟨⟨cb0, cb1⟩, _, _⟩ := HSb.out.2.1
        go_wp2
        go_roundw
        case rel => exact ⟨j + 1, ao, cp, o, true, by omega, by go_num, rfl, by first | rfl | simp, HE, HSb⟩
        case measure => simp [intOf]; omega
      · have HE : Hid (accS L k x has (j + 1) = (o ++ [(n0, n1)], true)) := by unfold Hid; rw [HN.out]; simp [stepS, he]
        have d : (n0 != k) = true := bne_iff_ne.2 he
        clear HN he
        go_wp2_with fail
        go_quiet (fail)
        have HSa : Hid (SetE w k x (.slice ao (o).length cp) (o) (wr.drewN nq)) := ⟨HS.out.1, HS.out.2.1, below_dn HS.out.2.2 _⟩
        generalize wr.drewN nq = Xa at HSa ⊢
        have hza : w.heap.size < Xa.heap.size := HSa.out.2.1.lt
        have ya0 := (HSa.out.2.2.cell (p := ⟨g, oo + j * 2, none⟩) hg).trans yw0
        have ya1 := (HSa.out.2.2.cell (p := ⟨g, oo + j * 2 + 1, none⟩) hg).trans yw1
        obtain ⟨⟨ca0, ca1⟩, _, _⟩ := HSa.out.2.1
        clear yr0 yr1 cr0 cr1
        go_wp2_with fail
        go_quiet (fail)
        have HSb : Hid (SetE w k x (.slice ao (o).length cp) (o) (Xa.drewN nq)) := ⟨HSa.out.1, HSa.out.2.1, below_dn HSa.out.2.2 _⟩
        generalize Xa.drewN nq = Xb at HSb ⊢
        have hzb : w.heap.size < Xb.heap.size := HSb.out.2.1.lt
        have yb0 := (HSb.out.2.2.cell (p := ⟨g, oo + j * 2, none⟩) hg).trans yw0
        have yb1 := (HSb.out.2.2.cell (p := ⟨g, oo + j * 2 + 1, none⟩) hg).trans yw1
        obtain ⟨⟨cb0, cb1⟩, _, _⟩ := HSb.out.2.1
        clear ya0 ya1 ca0 ca1
        go_wp2_with (at_builtin; refine wpList_app 61 i0 (.agg #[.int .i64 0, .int .i64 0]) 2 16 rfl _ _ 24 rfl Tryz.underlying24 hi iz0 iz1 iz2 rfl (by omega) (by omega) _ (w.heap.size + 1) (o).length (flatL (o)) (.slice ao (o).length cp) rfl (HSb.out.1.later (below_alloc _ _)) 0 1 (fun p => [n0, n1].getD p 0) (.slice (some ⟨Xb.heap.size, 0, none⟩) 1 1) rfl (row_lit2 Xb n0 n1 61) (by simp <;> omega) (by simp; omega) ?_; intro ao1 cp1 w1 O2 G2)
        have HS1 : Hid (SetE w k x (.slice ao1 ((o) ++ [(n0, n1)]).length cp1) ((o) ++ [(n0, n1)]) w1) := HSb.out.push O2 G2
        have hz1 : w.heap.size < w1.heap.size := HS1.out.2.1.lt
        clear O2 G2
        go_wp2
        go_roundw
        case rel => exact ⟨j + 1, ao1, cp1, o ++ [(n0, n1)], true, by omega, by go_num, rfl, by first | rfl | simp, HE, HS1⟩
        case measure => simp [intOf]; omega
    | false =>
      by_cases hle : k ≤ n0
      · have dg : decide (n0 ≥ k) = true := decide_eq_true hle
        by_cases he : n0 = k
        · have HE : Hid (accS L k x has (j + 1) = (o ++ [(k, x)], true)) := by unfold Hid; rw [HN.out]; simp [stepS, he]
          subst he
          clear HN hle
          go_wp2_with fail
          go_quiet (fail)
          have HSa : Hid (SetE w n0 x (.slice ao (o).length cp) (o) (wr.drewN nq)) := ⟨HS.out.1, HS.out.2.1, below_dn HS.out.2.2 _⟩
          generalize wr.drewN nq = Xa at HSa ⊢
          have hza : w.heap.size < Xa.heap.size := HSa.out.2.1.lt
          have ya0 := (HSa.out.2.2.cell (p := ⟨g, oo + j * 2, none⟩) hg).trans yw0
          have ya1 := (HSa.out.2.2.cell (p := ⟨g, oo + j * 2 + 1, none⟩) hg).trans yw1
          obtain ⟨⟨ca0, ca1⟩, _, _⟩ := HSa.out.2.1
          clear yr0 yr1 cr0 cr1
          go_wp2_with (at_builtin; refine wpList_app 61 i0 (.agg #[.int .i64 0, .int .i64 0]) 2 16 rfl _ _ 24 rfl Tryz.underlying24 hi iz0 iz1 iz2 rfl (by omega) (by omega) _ (w.heap.size + 1) (o).length (flatL (o)) (.slice ao (o).length cp) rfl (HSa.out.1.later (below_alloc _ _)) 0 1 (fun p => [n0, x].getD p 0) (.slice (some ⟨Xa.heap.size, 0, none⟩) 1 1) rfl (row_lit2 Xa n0 x 61) (by simp <;> omega) (by simp; omega) ?_; intro ao1 cp1 w1 O2 G2)
          have HS1 : Hid (SetE w n0 x (.slice ao1 ((o) ++ [(n0, x)]).length cp1) ((o) ++ [(n0, x)]) w1) := HSa.out.push O2 G2
          have hz1 : w.heap.size < w1.heap.size := HS1.out.2.1.lt
          clear O2 G2
          clear ya0 ya1 ca0 ca1
          have ys0 := (HS1.out.2.2.cell (p := ⟨g, oo + j * 2, none⟩) hg).trans yw0
          have ys1 := (HS1.out.2.2.cell (p := ⟨g, oo + j * 2 + 1, none⟩) hg).trans yw1
          obtain ⟨⟨cs0, cs1⟩, _, _⟩ := HS1.out.2.1
          go_wp2_with fail
          go_quiet (fail)
          have HSb : Hid (SetE w n0 x (.slice ao1 (o ++ [(n0, x)]).length cp1) (o ++ [(n0, x)]) (w1.drewN nq)) := ⟨HS1.out.1, HS1.out.2.1, below_dn HS1.out.2.2 _⟩
          generalize w1.drewN nq = Xb at HSb ⊢
          have hzb : w.heap.size < Xb.heap.size := HSb.out.2.1.lt
          have yb0 := (HSb.out.2.2.cell (p := ⟨g, oo + j * 2, none⟩) hg).trans yw0
          have yb1 := (HSb.out.2.2.cell (p := ⟨g, oo + j * 2 + 1, none⟩) hg).trans yw1
          obtain ⟨⟨cb0, cb1⟩, _, _⟩ := HSb.out.2.1
          go_wp2
          go_roundw
          case rel => exact ⟨j + 1, ao1, cp1, o ++ [(n0, x)], true, by omega, by go_num, rfl, by first | rfl | simp, HE, HSb⟩
          case measure => simp [intOf]; omega
        · have HE : Hid (accS L k x has (j + 1) = ((o ++ [(k, x)]) ++ [(n0, n1)], true)) := by unfold Hid; rw [HN.out]; simp [stepS, he, hle]
          have d : (n0 != k) = true := bne_iff_ne.2 he
          clear HN hle he
          go_wp2_with fail
          go_quiet (fail)
          have HSa : Hid (SetE w k x (.slice ao (o).length cp) (o) (wr.drewN nq)) := ⟨HS.out.1, HS.out.2.1, below_dn HS.out.2.2 _⟩
          generalize wr.drewN nq = Xa at HSa ⊢
          have hza : w.heap.size < Xa.heap.size := HSa.out.2.1.lt
          have ya0 := (HSa.out.2.2.cell (p := ⟨g, oo + j * 2, none⟩) hg).trans yw0
          have ya1 := (HSa.out.2.2.cell (p := ⟨g, oo + j * 2 + 1, none⟩) hg).trans yw1
          obtain ⟨⟨ca0, ca1⟩, _, _⟩ := HSa.out.2.1
          clear yr0 yr1 cr0 cr1
          go_wp2_with (at_builtin; refine wpList_app 61 i0 (.agg #[.int .i64 0, .int .i64 0]) 2 16 rfl _ _ 24 rfl Tryz.underlying24 hi iz0 iz1 iz2 rfl (by omega) (by omega) _ (w.heap.size + 1) (o).length (flatL (o)) (.slice ao (o).length cp) rfl (HSa.out.1.later (below_alloc _ _)) 0 1 (fun p => [k, x].getD p 0) (.slice (some ⟨Xa.heap.size, 0, none⟩) 1 1) rfl (row_lit2 Xa k x 61) (by simp <;> omega) (by simp; omega) ?_; intro ao1 cp1 w1 O2 G2)
          have HS1 : Hid (SetE w k x (.slice ao1 ((o) ++ [(k, x)]).length cp1) ((o) ++ [(k, x)]) w1) := HSa.out.push O2 G2
          have hz1 : w.heap.size < w1.heap.size := HS1.out.2.1.lt
          clear O2 G2
          clear ya0 ya1 ca0 ca1
          have ys0 := (HS1.out.2.2.cell (p := ⟨g, oo + j * 2, none⟩) hg).trans yw0
          have ys1 := (HS1.out.2.2.cell (p := ⟨g, oo + j * 2 + 1, none⟩) hg).trans yw1
          obtain ⟨⟨cs0, cs1⟩, _, _⟩ := HS1.out.2.1
          go_wp2_with fail
          go_quiet (fail)
          have HSb : Hid (SetE w k x (.slice ao1 (o ++ [(k, x)]).length cp1) (o ++ [(k, x)]) (w1.drewN nq)) := ⟨HS1.out.1, HS1.out.2.1, below_dn HS1.out.2.2 _⟩
          generalize w1.drewN nq = Xb at HSb ⊢
          have hzb : w.heap.size < Xb.heap.size := HSb.out.2.1.lt
          have yb0 := (HSb.out.2.2.cell (p := ⟨g, oo + j * 2, none⟩) hg).trans yw0
          have yb1 := (HSb.out.2.2.cell (p := ⟨g, oo + j * 2 + 1, none⟩) hg).trans yw1
          obtain ⟨⟨cb0, cb1⟩, _, _⟩ := HSb.out.2.1
          clear ys0 ys1 cs0 cs1
          have e1 : (o ++ [(k, x)]).length = o.length + 1 := by simp
          go_wp2_with (at_builtin; refine wpList_app 61 i0 (.agg #[.int .i64 0, .int .i64 0]) 2 16 rfl _ _ 24 rfl Tryz.underlying24 hi iz0 iz1 iz2 rfl (by omega) (by omega) _ (w.heap.size + 1) (o.length + 1) (flatL (o ++ [(k, x)])) (.slice ao1 (o.length + 1) cp1) rfl (by have q := HSb.out.1.later (below_alloc _ (.cells #[.int .i64 n0, .int .i64 n1] 61)); rw [e1] at q; exact q) 0 1 (fun p => [n0, n1].getD p 0) (.slice (some ⟨Xb.heap.size, 0, none⟩) 1 1) rfl (row_lit2 Xb n0 n1 61) (by simp <;> omega) (by simp; omega) ?_; intro ao2 cp2 w2 O2 G2)
          have HS2 : Hid (SetE w k x (.slice ao2 ((o ++ [(k, x)]) ++ [(n0, n1)]).length cp2) ((o ++ [(k, x)]) ++ [(n0, n1)]) w2) := HSb.out.push (by rw [e1]; exact O2) (by rw [e1]; exact G2)
          have hz3 : w.heap.size < w2.heap.size := HS2.out.2.1.lt
          clear O2 G2
          go_wp2
          go_roundw
          case rel => exact ⟨j + 1, ao2, cp2, (o ++ [(k, x)]) ++ [(n0, n1)], true, by omega, by go_num, rfl, by first | rfl | simp, HE, HS2⟩
          case measure => simp [intOf]; omega
      · have dg : decide (n0 ≥ k) = false := decide_eq_false hle
        have he : n0 ≠ k := by omega
        have HE : Hid (accS L k x has (j + 1) = (o ++ [(n0, n1)], false)) := by unfold Hid; rw [HN.out]; simp [stepS, he, hle]
        have d : (n0 != k) = true := bne_iff_ne.2 he
        clear HN hle he
        go_wp2_with fail
        go_quiet (fail)
        have HSa : Hid (SetE w k x (.slice ao (o).length cp) (o) (wr.drewN nq)) := ⟨HS.out.1, HS.out.2.1, below_dn HS.out.2.2 _⟩
        generalize wr.drewN nq = Xa at HSa ⊢
        have hza : w.heap.size < Xa.heap.size := HSa.out.2.1.lt
        have ya0 := (HSa.out.2.2.cell (p := ⟨g, oo + j * 2, none⟩) hg).trans yw0
        have ya1 := (HSa.out.2.2.cell (p := ⟨g, oo + j * 2 + 1, none⟩) hg).trans yw1
        obtain ⟨⟨ca0, ca1⟩, _, _⟩ := HSa.out.2.1
        clear yr0 yr1 cr0 cr1
        go_wp2_with fail
        go_quiet (fail)
        have HSb : Hid (SetE w k x (.slice ao (o).length cp) (o) (Xa.drewN nq)) := ⟨HSa.out.1, HSa.out.2.1, below_dn HSa.out.2.2 _⟩
        generalize Xa.drewN nq = Xb at HSb ⊢
        have hzb : w.heap.size < Xb.heap.size := HSb.out.2.1.lt
        have yb0 := (HSb.out.2.2.cell (p := ⟨g, oo + j * 2, none⟩) hg).trans yw0
        have yb1 := (HSb.out.2.2.cell (p := ⟨g, oo + j * 2 + 1, none⟩) hg).trans yw1
        obtain ⟨⟨cb0, cb1⟩, _, _⟩ := HSb.out.2.1
        clear ya0 ya1 ca0 ca1
        go_wp2_with (at_builtin; refine wpList_app 61 i0 (.agg #[.int .i64 0, .int .i64 0]) 2 16 rfl _ _ 24 rfl Tryz.underlying24 hi iz0 iz1 iz2 rfl (by omega) (by omega) _ (w.heap.size + 1) (o).length (flatL (o)) (.slice ao (o).length cp) rfl (HSb.out.1.later (below_alloc _ _)) 0 1 (fun p => [n0, n1].getD p 0) (.slice (some ⟨Xb.heap.size, 0, none⟩) 1 1) rfl (row_lit2 Xb n0 n1 61) (by simp <;> omega) (by simp; omega) ?_; intro ao1 cp1 w1 O2 G2)
        have HS1 : Hid (SetE w k x (.slice ao1 ((o) ++ [(n0, n1)]).length cp1) ((o) ++ [(n0, n1)]) w1) := HSb.out.push O2 G2
        have hz1 : w.heap.size < w1.heap.size := HS1.out.2.1.lt
        clear O2 G2
        go_wp2
        go_roundw
        case rel => exact ⟨j + 1, ao1, cp1, o ++ [(n0, n1)], false, by omega, by go_num, rfl, by first | rfl | simp, HE, HS1⟩
        case measure => simp [intOf]; omega
end Go.Proofs.YtnchaccgenfhoaaGreat

namespace Go.Proofs.YtnchaccgenfhoaaGreat
open Go.RowKit

/-- What is told of an item that is applied. -/
def appF (k kd v : Int) : Int := if faultOf k ≠ 0 then faultOf k else if ¬ (1 ≤ kd ∧ kd ≤ 3) ∨ ¬ (0 ≤ v ∧ v ≤ 9999) then 3 else 0
def appsF (G : Nat → Int) : Nat → Nat → Int
  | 0, _ => 0
  | m + 1, k => if appF (G (k * 3)) (G (k * 3 + 1)) (G (k * 3 + 2)) ≠ 0 then appF (G (k * 3)) (G (k * 3 + 1)) (G (k * 3 + 2)) else appsF G m (k + 1)
theorem appsF_bad {G : Nat → Int} {m k : Nat} {f : Int} (hm : 0 < m) (h : appF (G (k * 3)) (G (k * 3 + 1)) (G (k * 3 + 2)) = f) (h0 : f ≠ 0) : appsF G m k = f := by
  obtain ⟨m, rfl⟩ : ∃ q, m = q + 1 := ⟨m - 1, by omega⟩
  rw [appsF, if_pos (by rw [h]; exact h0), h]
theorem appsF_on {G : Nat → Int} {m k : Nat} (hm : 0 < m) (h : appF (G (k * 3)) (G (k * 3 + 1)) (G (k * 3 + 2)) = 0) : appsF G m k = appsF G (m - 1) (k + 1) := by
  obtain ⟨m, rfl⟩ : ∃ q, m = q + 1 := ⟨m - 1, by omega⟩
  rw [appsF, if_neg (fun q => q h)]; rfl
theorem appsF_all {G : Nat → Int} : ∀ {m k : Nat}, appsF G m k = 0 → ∀ j, j < m → appF (G ((k + j) * 3)) (G ((k + j) * 3 + 1)) (G ((k + j) * 3 + 2)) = 0
  | 0, _, _, j, hj => absurd hj (Nat.not_lt_zero j)
  | m + 1, k, h, j, hj => by
    by_cases h0 : appF (G (k * 3)) (G (k * 3 + 1)) (G (k * 3 + 2)) = 0
    · rw [appsF, if_neg (fun q => q h0)] at h
      cases j with
      | zero => exact h0
      | succ j =>
        have := appsF_all h j (by omega)
        rwa [show k + 1 + j = k + (j + 1) by omega] at this
    · rw [appsF, if_pos h0] at h
      exact absurd h h0
theorem appF_zero {k kd v : Int} (h : appF k kd v = 0) : faultOf k = 0 ∧ (1 ≤ kd ∧ kd ≤ 3) ∧ (0 ≤ v ∧ v ≤ 9999) := by
  unfold appF at h
  by_cases h1 : faultOf k = 0
  · rw [if_neg (fun q => q h1)] at h
    by_cases h2 : ¬ (1 ≤ kd ∧ kd ≤ 3) ∨ ¬ (0 ≤ v ∧ v ≤ 9999)
    · rw [if_pos h2] at h; omega
    · exact ⟨h1, by omega, by omega⟩
  · rw [if_pos h1] at h; exact absurd h h1
/-- What is told of items that are applied. -/
def appliedF (m : Nat) (G : Nat → Int) : Int := if 12 < m then 2 else appsF G m 0
def ItmE (w : World) (g o i : Nat) (n0 n1 n2 : Int) (X : World) : Prop := (X.cell? ⟨g, o + i * 3, none⟩ = some (.int .i64 n0) ∧ X.cell? ⟨g, o + i * 3 + 1, none⟩ = some (.int .i64 n1) ∧ X.cell? ⟨g, o + i * 3 + 2, none⟩ = some (.int .i64 n2)) ∧ Below w.heap.size w X
theorem ItmE.later {w X X' : World} {g o i : Nat} {n0 n1 n2 : Int} (h : ItmE w g o i n0 n1 n2 X) (hb : Below X.heap.size X X') : ItmE w g o i n0 n1 n2 X' := by
  obtain ⟨⟨h0, h1, h2⟩, hy⟩ := h
  exact ⟨⟨(hb.cell (lt_cellP h0)).trans h0, (hb.cell (lt_cellP h1)).trans h1, (hb.cell (lt_cellP h2)).trans h2⟩, hy.trans (hb.mono hy.size)⟩
set_option maxRecDepth 100000 in
set_option maxHeartbeats 4000000 in
theorem l11Apply_any (L : Prs) (G : Nat → Int) (m : Nat) (v y : Value) (B B' : Nat) (w : World) (h : Row w B 2 L.length (rowL L) v) (hi' : Row w B' 3 m G y) (hn : L.length ≤ 800) (hm : m ≤ 12) (hk : ∀ i, i < m → 1 ≤ G (i * 3 + 1) ∧ G (i * 3 + 1) ≤ 3) :
    Calls Tryz.prog 61 #[v, y] w fun e w' => ∃ ao cp, e = .returned (.slice ao (applyN L G m).length cp) ∧ Own w' w.heap.size 61 2 (applyN L G m).length (rowL (applyN L G m)) (.slice ao (applyN L G m).length cp) ∧ Below w.heap.size w w' := by
  obtain ⟨ao0, cp0, rfl⟩ := h.form
  obtain ⟨bo0, bp0, rfl⟩ := hi'.form
  have H : Hid (Row w B 2 L.length (rowL L) (.slice ao0 L.length cp0) ∧ Row w B' 3 m G (.slice bo0 m bp0)) := ⟨h, hi'⟩
  clear h hi'
  obtain ⟨i0, hi, iz0, iz1, iz2⟩ := info_parts infoz_Pair
  go_enter Tryz.func61, Tryz.ntmps61
  go_wp2_with (at_builtin; refine wpList_app 61 i0 (.agg #[.int .i64 0, .int .i64 0]) 2 16 rfl _ _ 24 rfl Tryz.underlying24 hi iz0 iz1 iz2 rfl (by omega) (by omega) _ w.heap.size 0 [] (.slice (some ⟨w.heap.size, 0, none⟩) 0 0) rfl (OwnM.lit0 _ _ _ _ rfl) B L.length (rowL L) (.slice ao0 L.length cp0) rfl (H.out.1.alloc _) (by omega) (by simp) ?_; intro ao1 cp1 w2 O2 G2)
  have HS2 : Hid (Own w2 w.heap.size 61 2 L.length (rowL L) (.slice ao1 L.length cp1) ∧ Below w.heap.size w w2) := by
    rw [Nat.zero_add, List.nil_append] at O2
    exact ⟨own_eqP (O2.own (nums_length _ _)) (fun p hp => by simp [nums, hp]), (below_alloc w _).grown G2 (by simp) (fun r e => by simp [Value.ownBlock] at e; omega)⟩
  clear O2 G2
  go_wp2
  go_loopw [5, 6] (fun out i wr => ∃ (j : Nat) (ao : Option Addr) (cp : Nat), j ≤ m ∧ i = .int .i64 j ∧ out = .slice ao (applyN L G j).length cp ∧ Hid (Own wr w.heap.size 61 2 (applyN L G j).length (rowL (applyN L G j)) (.slice ao (applyN L G j).length cp) ∧ Below w.heap.size w wr)) (fun _ i _ => m - (intOf i).toNat)
  case atStart => exact ⟨0, ao1, cp1, Nat.zero_le _, rfl, rfl, HS2⟩
  case round =>
    obtain ⟨j, ao, cp, hj, rfl, rfl, HS⟩ := hrel
    by_cases hlt : j < m
    case neg =>
      obtain rfl : j = m := by omega
      go_wp2
      exact bodyPost_ret (v := .slice ao (applyN L G j).length cp) (by simp [results, Tryz.results61, go_sem]) rfl ⟨ao, cp, rfl, HS.out⟩
    have hlen : (applyN L G j).length ≤ 812 := Nat.le_trans (applyN_len L G j) (by omega)
    have hkj := hk j hlt
    obtain ⟨g, o, hbo, _, hg, y0, y1, y2⟩ := (H.out.2.later HS.out.2).at3 hlt
    subst hbo
    obtain ⟨n0, N0⟩ : ∃ x, G (j * 3) = x := ⟨_, rfl⟩
    rw [N0] at y0
    obtain ⟨n1, N1⟩ : ∃ x, G (j * 3 + 1) = x := ⟨_, rfl⟩
    rw [N1] at y1 hkj
    obtain ⟨n2, N2⟩ : ∃ x, G (j * 3 + 2) = x := ⟨_, rfl⟩
    rw [N2] at y2
    have HP : Hid (applyN L G (j + 1) = stepA (applyN L G j) n0 n1 n2) := by
      unfold Hid
      rw [← N0, ← N1, ← N2]
      rfl
    clear N0 N1 N2 HS2
    obtain ⟨A, hA⟩ : ∃ A, applyN L G j = A := ⟨_, rfl⟩
    rw [hA] at hlen HS HP
    rw [hA]
    clear hA
    by_cases k3 : n1 = 3
    · have HE : Hid (applyN L G (j + 1) = A) := by unfold Hid; rw [HP.out, stepA, if_neg (by omega), if_neg (by omega)]
      subst k3
      clear HP hkj
      go_wp2
      go_roundw
      case rel =>
        refine ⟨j + 1, ao, cp, by omega, by go_num, by rw [HE.out], ?_⟩
        rw [HE.out]
        exact HS
      case measure => simp [intOf]; omega
    have d3 : (n1 != 3) = true := bne_iff_ne.2 k3
    by_cases k1 : n1 = 1
    · have HE : Hid (applyN L G (j + 1) = setS A n0 n2 true) := by unfold Hid; rw [HP.out, stepA, if_pos k1, setS_put]
      subst k1
      clear HP hkj k3 d3
      go_wp2_with fail
      refine wp_region_held_drew (S := ItmE w g o j n0 1 n2) (by kernel_rfl) ⟨⟨y0, y1, y2⟩, HS.out.2.drew⟩ (fun hS => ?_)
      refine tkH 0 ?_ hS (fun wx hx => ?_) ?_; rotate_left
      · obtain ⟨⟨hx0, hx1, hx2⟩, _⟩ := hx; go_simp; try with_reducible rfl
      refine tkH 1 ?_ hS (fun wx hx => ?_) ?_; rotate_left
      · obtain ⟨⟨hx0, hx1, hx2⟩, _⟩ := hx; go_simp; try with_reducible rfl
      refine tkH 2 ?_ hS (fun wx hx => ?_) ?_; rotate_left
      · obtain ⟨⟨hx0, hx1, hx2⟩, _⟩ := hx; go_simp; try with_reducible rfl
      try simp only [Act.put, List.getElem_toArray, List.getElem_cons_zero, List.getElem_cons_succ, List.setIfInBounds_toArray, List.set_cons_succ, List.set_cons_zero]
      refine tkH 3 ?_ hS (fun wx hx => ?_) ?_; rotate_left
      · obtain ⟨⟨hx0, hx1, hx2⟩, _⟩ := hx; go_simp; try with_reducible rfl
      refine tkH 4 ?_ hS (fun wx hx => ?_) ?_; rotate_left
      · obtain ⟨⟨hx0, hx1, hx2⟩, _⟩ := hx; go_simp; try with_reducible rfl
      refine tkH 5 ?_ hS (fun wx hx => ?_) ?_; rotate_left
      · obtain ⟨⟨hx0, hx1, hx2⟩, _⟩ := hx; go_simp; try with_reducible rfl
      try simp only [Act.put, List.getElem_toArray, List.getElem_cons_zero, List.getElem_cons_succ, List.setIfInBounds_toArray, List.set_cons_succ, List.set_cons_zero]
      refine tkH 6 ?_ hS (fun wx hx => ?_) ?_; rotate_left
      · obtain ⟨⟨hx0, hx1, hx2⟩, _⟩ := hx; go_simp; try with_reducible rfl
      refine tkH 7 ?_ hS (fun wx hx => ?_) ?_; rotate_left
      · obtain ⟨⟨hx0, hx1, hx2⟩, _⟩ := hx; go_simp; try with_reducible rfl
      refine tkH 8 ?_ hS (fun wx hx => ?_) ?_; rotate_left
      · obtain ⟨⟨hx0, hx1, hx2⟩, _⟩ := hx; go_simp; try with_reducible rfl
      try simp only [Act.put, List.getElem_toArray, List.getElem_cons_zero, List.getElem_cons_succ, List.setIfInBounds_toArray, List.set_cons_succ, List.set_cons_zero]
      refine tkH 9 ?_ hS (fun wx hx => ?_) ?_; rotate_left
      · obtain ⟨⟨hx0, hx1, hx2⟩, _⟩ := hx; go_simp; try with_reducible rfl
      refine tkH 10 ?_ hS (fun wx hx => ?_) ?_; rotate_left
      · obtain ⟨⟨hx0, hx1, hx2⟩, _⟩ := hx; go_simp; try with_reducible rfl
      refine tkH 11 ?_ hS (fun wx hx => ?_) ?_; rotate_left
      · obtain ⟨⟨hx0, hx1, hx2⟩, _⟩ := hx; go_simp; try with_reducible rfl
      try simp only [Act.put, List.getElem_toArray, List.getElem_cons_zero, List.getElem_cons_succ, List.setIfInBounds_toArray, List.set_cons_succ, List.set_cons_zero]
      refine tkH 12 ?_ hS (fun wx hx => ?_) ?_; rotate_left
      · obtain ⟨⟨hx0, hx1, hx2⟩, _⟩ := hx; go_simp; try with_reducible rfl
      refine tkH 13 ?_ hS (fun wx hx => ?_) ?_; rotate_left
      · obtain ⟨⟨hx0, hx1, hx2⟩, _⟩ := hx; go_simp; try with_reducible rfl
      refine tkH 14 ?_ hS (fun wx hx => ?_) ?_; rotate_left
      · obtain ⟨⟨hx0, hx1, hx2⟩, _⟩ := hx; go_simp; try with_reducible rfl
      try simp only [Act.put, List.getElem_toArray, List.getElem_cons_zero, List.getElem_cons_succ, List.setIfInBounds_toArray, List.set_cons_succ, List.set_cons_zero]
      refine tkH 15 ?_ hS (fun wx hx => ?_) ?_; rotate_left
      · obtain ⟨⟨hx0, hx1, hx2⟩, _⟩ := hx; go_simp; try with_reducible rfl
      refine tkH 16 ?_ hS (fun wx hx => ?_) ?_; rotate_left
      · obtain ⟨⟨hx0, hx1, hx2⟩, _⟩ := hx; go_simp; try with_reducible rfl
      refine tkH 17 ?_ hS (fun wx hx => ?_) ?_; rotate_left
      · obtain ⟨⟨hx0, hx1, hx2⟩, _⟩ := hx; go_simp; try with_reducible rfl
      try simp only [Act.put, List.getElem_toArray, List.getElem_cons_zero, List.getElem_cons_succ, List.setIfInBounds_toArray, List.set_cons_succ, List.set_cons_zero]
      refine rdH 18 (fun K hK => ?_)
      go_simp
      go_wp2_with fail
      refine (l11Set_any A _ w.heap.size n0 n2 true _ (HS.out.1.later (Below.drew (Below.refl _ _))).row.1 (by omega)).mono ?_
      rintro e w1 ⟨ao1, cp1, rfl, o1, q1⟩
      have hS1 := hS.later q1
      have HS1 : Hid (Own w1 w.heap.size 61 2 (setS A n0 n2 true).length (rowL (setS A n0 n2 true)) (.slice ao1 (setS A n0 n2 true).length cp1) ∧ Below w.heap.size w w1) := ⟨o1.mono hS.2.size, hS1.2⟩
      clear hS q1 o1
      go_wp2_with fail
      refine hK.out _ _ hS1 (fun hS => ?_)
      clear hK K hS1
      refine tkH 19 ?_ hS (fun wx hx => ?_) ?_; rotate_left
      · obtain ⟨⟨hx0, hx1, hx2⟩, _⟩ := hx; go_simp; try with_reducible rfl
      refine wpAnyH_done (by kernel_rfl) ?_ _
      obtain ⟨LEN, hLEN⟩ : ∃ LEN, LEN = (setS A n0 n2 true).length := ⟨_, rfl⟩
      rw [← hLEN]
      have HLEN : Hid (LEN = (setS A n0 n2 true).length) := hLEN
      clear hLEN
      go_simp
      go_wp2
      go_roundw
      case rel =>
        refine ⟨j + 1, ao1, cp1, by omega, by go_num, by rw [HE.out, HLEN.out], ?_⟩
        rw [HE.out]
        exact HS1
      case measure => simp [intOf]; omega
    · have HE : Hid (applyN L G (j + 1) = setS A n0 n2 false) := by unfold Hid; rw [HP.out, stepA, if_neg k1, if_pos (by omega), setS_gone]
      obtain rfl : n1 = 2 := by omega
      clear HP hkj k3 k1 d3
      go_wp2_with fail
      refine wp_region_held_drew (S := ItmE w g o j n0 2 n2) (by kernel_rfl) ⟨⟨y0, y1, y2⟩, HS.out.2.drew⟩ (fun hS => ?_)
      refine tkH 0 ?_ hS (fun wx hx => ?_) ?_; rotate_left
      · obtain ⟨⟨hx0, hx1, hx2⟩, _⟩ := hx; go_simp; try with_reducible rfl
      refine tkH 1 ?_ hS (fun wx hx => ?_) ?_; rotate_left
      · obtain ⟨⟨hx0, hx1, hx2⟩, _⟩ := hx; go_simp; try with_reducible rfl
      refine tkH 2 ?_ hS (fun wx hx => ?_) ?_; rotate_left
      · obtain ⟨⟨hx0, hx1, hx2⟩, _⟩ := hx; go_simp; try with_reducible rfl
      try simp only [Act.put, List.getElem_toArray, List.getElem_cons_zero, List.getElem_cons_succ, List.setIfInBounds_toArray, List.set_cons_succ, List.set_cons_zero]
      refine tkH 3 ?_ hS (fun wx hx => ?_) ?_; rotate_left
      · obtain ⟨⟨hx0, hx1, hx2⟩, _⟩ := hx; go_simp; try with_reducible rfl
      refine tkH 4 ?_ hS (fun wx hx => ?_) ?_; rotate_left
      · obtain ⟨⟨hx0, hx1, hx2⟩, _⟩ := hx; go_simp; try with_reducible rfl
      refine tkH 5 ?_ hS (fun wx hx => ?_) ?_; rotate_left
      · obtain ⟨⟨hx0, hx1, hx2⟩, _⟩ := hx; go_simp; try with_reducible rfl
      try simp only [Act.put, List.getElem_toArray, List.getElem_cons_zero, List.getElem_cons_succ, List.setIfInBounds_toArray, List.set_cons_succ, List.set_cons_zero]
      refine tkH 6 ?_ hS (fun wx hx => ?_) ?_; rotate_left
      · obtain ⟨⟨hx0, hx1, hx2⟩, _⟩ := hx; go_simp; try with_reducible rfl
      refine tkH 7 ?_ hS (fun wx hx => ?_) ?_; rotate_left
      · obtain ⟨⟨hx0, hx1, hx2⟩, _⟩ := hx; go_simp; try with_reducible rfl
      refine tkH 8 ?_ hS (fun wx hx => ?_) ?_; rotate_left
      · obtain ⟨⟨hx0, hx1, hx2⟩, _⟩ := hx; go_simp; try with_reducible rfl
      try simp only [Act.put, List.getElem_toArray, List.getElem_cons_zero, List.getElem_cons_succ, List.setIfInBounds_toArray, List.set_cons_succ, List.set_cons_zero]
      refine tkH 9 ?_ hS (fun wx hx => ?_) ?_; rotate_left
      · obtain ⟨⟨hx0, hx1, hx2⟩, _⟩ := hx; go_simp; try with_reducible rfl
      refine tkH 10 ?_ hS (fun wx hx => ?_) ?_; rotate_left
      · obtain ⟨⟨hx0, hx1, hx2⟩, _⟩ := hx; go_simp; try with_reducible rfl
      refine tkH 11 ?_ hS (fun wx hx => ?_) ?_; rotate_left
      · obtain ⟨⟨hx0, hx1, hx2⟩, _⟩ := hx; go_simp; try with_reducible rfl
      try simp only [Act.put, List.getElem_toArray, List.getElem_cons_zero, List.getElem_cons_succ, List.setIfInBounds_toArray, List.set_cons_succ, List.set_cons_zero]
      refine tkH 12 ?_ hS (fun wx hx => ?_) ?_; rotate_left
      · obtain ⟨⟨hx0, hx1, hx2⟩, _⟩ := hx; go_simp; try with_reducible rfl
      refine tkH 13 ?_ hS (fun wx hx => ?_) ?_; rotate_left
      · obtain ⟨⟨hx0, hx1, hx2⟩, _⟩ := hx; go_simp; try with_reducible rfl
      refine tkH 14 ?_ hS (fun wx hx => ?_) ?_; rotate_left
      · obtain ⟨⟨hx0, hx1, hx2⟩, _⟩ := hx; go_simp; try with_reducible rfl
      try simp only [Act.put, List.getElem_toArray, List.getElem_cons_zero, List.getElem_cons_succ, List.setIfInBounds_toArray, List.set_cons_succ, List.set_cons_zero]
      refine tkH 15 ?_ hS (fun wx hx => ?_) ?_; rotate_left
      · obtain ⟨⟨hx0, hx1, hx2⟩, _⟩ := hx; go_simp; try with_reducible rfl
      refine tkH 16 ?_ hS (fun wx hx => ?_) ?_; rotate_left
      · obtain ⟨⟨hx0, hx1, hx2⟩, _⟩ := hx; go_simp; try with_reducible rfl
      refine tkH 17 ?_ hS (fun wx hx => ?_) ?_; rotate_left
      · obtain ⟨⟨hx0, hx1, hx2⟩, _⟩ := hx; go_simp; try with_reducible rfl
      try simp only [Act.put, List.getElem_toArray, List.getElem_cons_zero, List.getElem_cons_succ, List.setIfInBounds_toArray, List.set_cons_succ, List.set_cons_zero]
      refine rdH 18 (fun K hK => ?_)
      go_simp
      go_wp2_with fail
      refine (l11Set_any A _ w.heap.size n0 n2 false _ (HS.out.1.later (Below.drew (Below.refl _ _))).row.1 (by omega)).mono ?_
      rintro e w1 ⟨ao1, cp1, rfl, o1, q1⟩
      have hS1 := hS.later q1
      have HS1 : Hid (Own w1 w.heap.size 61 2 (setS A n0 n2 false).length (rowL (setS A n0 n2 false)) (.slice ao1 (setS A n0 n2 false).length cp1) ∧ Below w.heap.size w w1) := ⟨o1.mono hS.2.size, hS1.2⟩
      clear hS q1 o1
      go_wp2_with fail
      refine hK.out _ _ hS1 (fun hS => ?_)
      clear hK K hS1
      refine tkH 19 ?_ hS (fun wx hx => ?_) ?_; rotate_left
      · obtain ⟨⟨hx0, hx1, hx2⟩, _⟩ := hx; go_simp; try with_reducible rfl
      refine wpAnyH_done (by kernel_rfl) ?_ _
      obtain ⟨LEN, hLEN⟩ : ∃ LEN, LEN = (setS A n0 n2 false).length := ⟨_, rfl⟩
      rw [← hLEN]
      have HLEN : Hid (LEN = (setS A n0 n2 false).length) := hLEN
      clear hLEN
      go_simp
      go_wp2
      go_roundw
      case rel =>
        refine ⟨j + 1, ao1, cp1, by omega, by go_num, by rw [HE.out, HLEN.out], ?_⟩
        rw [HE.out]
        exact HS1
      case measure => simp [intOf]; omega
end Go.Proofs.YtnchaccgenfhoaaGreat

namespace Go.Proofs.YtnchaccgenfhoaaGreat
open Go.RowKit

theorem appF_key {k kd v : Int} (h : faultOf k ≠ 0) : appF k kd v = faultOf k := by unfold appF; rw [if_pos h]
theorem appF_kind {k kd v : Int} (h : faultOf k = 0) (h2 : ¬ (1 ≤ kd ∧ kd ≤ 3)) : appF k kd v = 3 := by unfold appF; rw [if_neg (fun q => q h), if_pos (Or.inl h2)]
theorem appF_val {k kd v : Int} (h : faultOf k = 0) (h2 : ¬ (0 ≤ v ∧ v ≤ 9999)) : appF k kd v = 3 := by unfold appF; rw [if_neg (fun q => q h), if_pos (Or.inr h2)]
theorem appF_ok {k kd v : Int} (h : faultOf k = 0) (h1 : 1 ≤ kd ∧ kd ≤ 3) (h2 : 0 ≤ v ∧ v ≤ 9999) : appF k kd v = 0 := by unfold appF; rw [if_neg (fun q => q h), if_neg (by omega)]
set_option maxRecDepth 100000 in
set_option maxHeartbeats 4000000 in
theorem appliedFault_is (y : Value) (B m : Nat) (G : Nat → Int) (w : World) (h : Row w B 3 m G y) (hm : m ≤ 1048576) :
    Calls Tryz.prog 80 #[y] w fun e w' => e = .returned (.int .i64 (appliedF m G)) ∧ Below w.heap.size w w' := by
  obtain ⟨ao, cp, rfl⟩ := h.form
  have H : Hid (Row w B 3 m G (.slice ao m cp)) := h
  clear h
  by_cases h12 : 12 < m
  · have E : Hid (appliedF m G = 2) := by unfold Hid; unfold appliedF; rw [if_pos h12]
    have d : decide ((m : Int) > 12) = true := decide_eq_true (by omega)
    go_enter Tryz.func80, Tryz.ntmps80
    go_wp2
    go_ret
    exact ⟨by rw [E.out]; rfl, Below.refl _ _⟩
  have d : decide ((m : Int) > 12) = false := decide_eq_false (by omega)
  obtain ⟨f, hf⟩ : ∃ f, appliedF m G = f := ⟨_, rfl⟩
  have HF : Hid (appsF G m 0 = f) := by unfold Hid; rw [← hf]; unfold appliedF; rw [if_neg h12]
  rw [hf]
  clear hf
  go_enter Tryz.func80, Tryz.ntmps80
  go_wp2
  go_loopw [11] (fun i wr => ∃ k : Nat, k ≤ m ∧ i = .int .i64 k ∧ Hid (appsF G (m - k) k = f) ∧ Hid (Below w.heap.size w wr)) (fun i _ => m - (intOf i).toNat)
  case atStart => exact ⟨0, Nat.zero_le _, rfl, HF, Below.refl _ _⟩
  case round =>
    obtain ⟨k, hk, rfl, HS, HB⟩ := hrel
    by_cases hlt : k < m
    case neg =>
      have E : Hid (f = 0) := by
        have := HS.out
        rw [show m - k = 0 by omega, appsF] at this
        exact this.symm
      clear HS HF
      go_wp2
      go_ret
      exact ⟨by rw [E.out]; rfl, HB.out⟩
    obtain ⟨g, o, hao, _, hg, x0, x1, x2⟩ := (H.out.later HB.out).at3 hlt
    subst hao
    have hm' : Hid (0 < m - k ∧ m - k - 1 = m - (k + 1)) := ⟨by omega, by omega⟩
    obtain ⟨n0, N0⟩ : ∃ x, G (k * 3) = x := ⟨_, rfl⟩
    rw [N0] at x0
    obtain ⟨n1, N1⟩ : ∃ x, G (k * 3 + 1) = x := ⟨_, rfl⟩
    rw [N1] at x1
    obtain ⟨n2, N2⟩ : ∃ x, G (k * 3 + 2) = x := ⟨_, rfl⟩
    rw [N2] at x2
    have HBAD : Hid (∀ q, appF n0 n1 n2 = q → q ≠ 0 → f = q) := fun q h1 h2 => by
      have E0 := HS.out
      rw [appsF_bad hm'.out.1 (by rw [N0, N1, N2]; exact h1) h2] at E0
      exact E0.symm
    have HGO : Hid (appF n0 n1 n2 = 0 → appsF G (m - (k + 1)) (k + 1) = f) := fun h1 => by
      have E0 := HS.out
      rw [appsF_on hm'.out.1 (by rw [N0, N1, N2]; exact h1), hm'.out.2] at E0
      exact E0
    clear N0 N1 N2 HS HF
    by_cases h5 : faultOf n0 = 0
    case neg =>
      obtain ⟨q, hq⟩ : ∃ q, faultOf n0 = q := ⟨_, rfl⟩
      have HQ : Hid (faultOf n0 = q) := hq
      have E : Hid (f = q) := HBAD.out q (by rw [appF_key h5]; exact hq) (by rw [← hq]; exact h5)
      have d' : (q != 0) = true := bne_iff_ne.2 (by rw [← hq]; exact h5)
      clear h5 hq HGO HBAD
      go_wp2_with fail
      refine (keyFault_any _ _).mono ?_
      rintro e w9 ⟨rfl, hw9⟩
      obtain rfl := hw9.symm
      rw [HQ.out]
      go_wp2
      go_ret
      refine ⟨by rw [E.out]; rfl, ?_⟩
      repeat (first | exact Below.refl _ _ | exact HB.out | refine Below.setCell ?_ (by first | omega | (simp <;> omega) | (have := HB.out.size; simp <;> omega)) _ | refine Below.alloc ?_ (by first | omega | (simp <;> omega) | (have := HB.out.size; simp <;> omega)) _)
    have HK : Hid (faultOf n0 = 0) := h5
    clear h5
    by_cases h6 : 1 ≤ n1 ∧ n1 ≤ 3
    case neg =>
      have E : Hid (f = 3) := HBAD.out 3 (appF_kind HK.out h6) (by omega)
      have HV : Hid (decide (1 ≤ n1 ∧ n1 ≤ 3) = false) := decide_eq_false h6
      clear h6 HGO HBAD
      go_wp2_with fail
      refine (keyFault_any _ _).mono ?_
      rintro e w9 ⟨rfl, hw9⟩
      obtain rfl := hw9.symm
      rw [HK.out]
      go_wp2_with fail
      refine (isLockKind_is _ false HV.out _).mono ?_
      rintro e w9 ⟨rfl, hw9⟩
      obtain rfl := hw9.symm
      go_wp2
      go_ret
      refine ⟨by rw [E.out]; rfl, ?_⟩
      repeat (first | exact Below.refl _ _ | exact HB.out | refine Below.setCell ?_ (by first | omega | (simp <;> omega) | (have := HB.out.size; simp <;> omega)) _ | refine Below.alloc ?_ (by first | omega | (simp <;> omega) | (have := HB.out.size; simp <;> omega)) _)
    have HV : Hid (decide (1 ≤ n1 ∧ n1 ≤ 3) = true) := decide_eq_true h6
    by_cases h7 : 0 ≤ n2 ∧ n2 ≤ 9999
    case neg =>
      have E : Hid (f = 3) := HBAD.out 3 (appF_val HK.out h7) (by omega)
      have HW : Hid (decide (0 ≤ n2 ∧ n2 ≤ 9999) = false) := decide_eq_false h7
      clear h6 h7 HGO HBAD
      go_wp2_with fail
      refine (keyFault_any _ _).mono ?_
      rintro e w9 ⟨rfl, hw9⟩
      obtain rfl := hw9.symm
      rw [HK.out]
      go_wp2_with fail
      refine (isLockKind_is _ true HV.out _).mono ?_
      rintro e w9 ⟨rfl, hw9⟩
      obtain rfl := hw9.symm
      go_wp2_with fail
      refine (isValueT_is _ false HW.out _).mono ?_
      rintro e w9 ⟨rfl, hw9⟩
      obtain rfl := hw9.symm
      go_wp2
      go_ret
      refine ⟨by rw [E.out]; rfl, ?_⟩
      repeat (first | exact Below.refl _ _ | exact HB.out | refine Below.setCell ?_ (by first | omega | (simp <;> omega) | (have := HB.out.size; simp <;> omega)) _ | refine Below.alloc ?_ (by first | omega | (simp <;> omega) | (have := HB.out.size; simp <;> omega)) _)
    have E : Hid (appsF G (m - (k + 1)) (k + 1) = f) := HGO.out (appF_ok HK.out h6 h7)
    have HW : Hid (decide (0 ≤ n2 ∧ n2 ≤ 9999) = true) := decide_eq_true h7
    clear h6 h7 HGO HBAD
    go_wp2_with fail
    refine (keyFault_any _ _).mono ?_
    rintro e w9 ⟨rfl, hw9⟩
    obtain rfl := hw9.symm
    rw [HK.out]
    go_wp2_with fail
    refine (isLockKind_is _ true HV.out _).mono ?_
    rintro e w9 ⟨rfl, hw9⟩
    obtain rfl := hw9.symm
    go_wp2_with fail
    refine (isValueT_is _ true HW.out _).mono ?_
    rintro e w9 ⟨rfl, hw9⟩
    obtain rfl := hw9.symm
    go_wp2
    go_roundw
    case rel =>
      refine ⟨k + 1, by omega, by go_num, E, ?_⟩
      show Below _ _ _
      repeat (first | exact Below.refl _ _ | exact HB.out | refine Below.setCell ?_ (by first | omega | (simp <;> omega) | (have := HB.out.size; simp <;> omega)) _ | refine Below.alloc ?_ (by first | omega | (simp <;> omega) | (have := HB.out.size; simp <;> omega)) _)
    case measure => simp [intOf]; omega
/-- What ApplyItems answers: a code, or the pairs. -/
def AppAns (n : Nat) (F : Nat → Int) (m : Nat) (G : Nat → Int) (c : Int) (R : Prs) : Prop :=
  (pairsF F n 0 ≠ 0 ∧ c = pairsF F n 0 ∧ R = []) ∨ (pairsF F n 0 = 0 ∧ appliedF m G ≠ 0 ∧ c = appliedF m G ∧ R = []) ∨ (pairsF F n 0 = 0 ∧ appliedF m G = 0 ∧ c = 0 ∧ R = applyN (listOf F n) G m)
theorem AppAns.get (n : Nat) (F : Nat → Int) (m : Nat) (G : Nat → Int) : ∃ c R, R.length ≤ 1048576 ∧ AppAns n F m G c R := by
  by_cases h : pairsF F n 0 = 0
  · by_cases h2 : appliedF m G = 0
    · refine ⟨0, applyN (listOf F n) G m, ?_, Or.inr (Or.inr ⟨h, h2, rfl, rfl⟩)⟩
      have h3 := (pairs_rise h).2
      have h4 := applyN_len (listOf F n) G m
      rw [listOf_length] at h4
      have h5 : m ≤ 12 := by
        unfold appliedF at h2
        by_cases q : 12 < m
        · rw [if_pos q] at h2; omega
        · omega
      omega
    · exact ⟨_, [], by simp, Or.inr (Or.inl ⟨h, h2, rfl, rfl⟩)⟩
  · exact ⟨_, [], by simp, Or.inl ⟨h, rfl, rfl⟩⟩
theorem appliedF_zero {m : Nat} {G : Nat → Int} (h : appliedF m G = 0) : m ≤ 12 ∧ appsF G m 0 = 0 ∧ ∀ i, i < m → 1 ≤ G (i * 3 + 1) ∧ G (i * 3 + 1) ≤ 3 := by
  unfold appliedF at h
  by_cases q : 12 < m
  · rw [if_pos q] at h; omega
  · rw [if_neg q] at h
    exact ⟨by omega, h, fun i hi => by have := appsF_all h i hi; rw [Nat.zero_add] at this; exact (appF_zero this).2.1⟩
theorem res_none {w w' : World} {c : Int} {e : Ending} (he : e = .returned (.agg #[.int .i64 c, .slice none 0 0])) (hb : Below w.heap.size w w') : ResRow 2 w c ([] : Prs).length (rowL []) e w' :=
  ⟨none, 0, he, ⟨_, _, rfl, fun q => absurd q (Nat.lt_irrefl 0)⟩, by rw [show ([] : Prs).length * 2 = 0 from rfl]; exact Free.of0 _ _, hb⟩
set_option maxRecDepth 100000 in
set_option maxHeartbeats 4000000 in
theorem implApply_is (v y : Value) (B B' n m : Nat) (F G : Nat → Int) (c : Int) (R : Prs) (w : World) (h : Row w B 2 n F v) (h' : Row w B' 3 m G y) (hn : n ≤ 1048576) (hm : m ≤ 1048576) (hA : AppAns n F m G c R) :
    Calls Tryz.prog 51 #[v, y] w (ResRow 2 w c R.length (rowL R)) := by
  have H : Hid (Row w B 2 n F v ∧ Row w B' 3 m G y) := ⟨h, h'⟩
  clear h h'
  rcases hA with ⟨h1, rfl, rfl⟩ | ⟨h1, h2, rfl, rfl⟩ | ⟨h1, h2, rfl, rfl⟩
  · obtain ⟨f, hf⟩ : ∃ f, pairsF F n 0 = f := ⟨_, rfl⟩
    have HF : Hid (pairsF F n 0 = f) := hf
    have d : (f != 0) = true := bne_iff_ne.2 (by rw [← hf]; exact h1)
    rw [hf]
    clear h1 hf
    go_enter Tryz.func51, Tryz.ntmps51
    go_wp2_with fail
    refine (implPairs_any _ B n F _ (H.out.1.alloc _) hn).mono ?_
    rintro e w1 ⟨rfl, q1⟩
    rw [HF.out]
    have hb := (Blk2.new w (.int .i64 0) (.slice none 0 0) 84).later q1
    have HB : Hid (Below w.heap.size w w1) := (below_alloc w _).trans (q1.mono (by simp))
    obtain ⟨⟨x0, x1⟩, y0, y1⟩ := hb
    clear q1
    go_wp2
    refine bodyPost_ret (v := .agg #[.int .i64 f, .slice none 0 0]) (by simp [results, Tryz.results51, go_sem, x0, x1]) rfl (res_none rfl ?_)
    exact (HB.out.setCell (by simp) _).setCell (by simp) _
  · obtain ⟨f, hf⟩ : ∃ f, appliedF m G = f := ⟨_, rfl⟩
    have HF : Hid (appliedF m G = f ∧ pairsF F n 0 = 0) := ⟨hf, h1⟩
    have d : (f != 0) = true := bne_iff_ne.2 (by rw [← hf]; exact h2)
    rw [hf]
    clear h1 h2 hf
    go_enter Tryz.func51, Tryz.ntmps51
    go_wp2_with fail
    refine (implPairs_any _ B n F _ (H.out.1.alloc _) hn).mono ?_
    rintro e w1 ⟨rfl, q1⟩
    rw [HF.out.2]
    have hb := (Blk2.new w (.int .i64 0) (.slice none 0 0) 84).later q1
    have HB1 : Hid (Below w.heap.size w w1) := (below_alloc w _).trans (q1.mono (by simp))
    clear q1
    go_wp2_with fail
    refine (appliedFault_is _ B' m G _ (H.out.2.later HB1.out) hm).mono ?_
    rintro e w2 ⟨rfl, q2⟩
    rw [HF.out.1]
    have HB : Hid (Below w.heap.size w w2) := HB1.out.trans (q2.mono HB1.out.size)
    obtain ⟨⟨x0, x1⟩, y0, y1⟩ := hb.later q2
    clear q2 hb HB1
    go_wp2
    refine bodyPost_ret (v := .agg #[.int .i64 f, .slice none 0 0]) (by simp [results, Tryz.results51, go_sem, x0, x1]) rfl (res_none rfl ?_)
    exact (HB.out.setCell (by simp) _).setCell (by simp) _
  · have HF : Hid (appliedF m G = 0 ∧ pairsF F n 0 = 0) := ⟨h2, h1⟩
    clear h1 h2
    go_enter Tryz.func51, Tryz.ntmps51
    go_wp2_with fail
    refine (implPairs_any _ B n F _ (H.out.1.alloc _) hn).mono ?_
    rintro e w1 ⟨rfl, q1⟩
    rw [HF.out.2]
    have hb := (Blk2.new w (.int .i64 0) (.slice none 0 0) 84).later q1
    have HB1 : Hid (Below w.heap.size w w1) := (below_alloc w _).trans (q1.mono (by simp))
    clear q1
    go_wp2_with fail
    refine (appliedFault_is _ B' m G _ (H.out.2.later HB1.out) hm).mono ?_
    rintro e w2 ⟨rfl, q2⟩
    rw [HF.out.1]
    have HB2 : Hid (Below w.heap.size w w2) := HB1.out.trans (q2.mono HB1.out.size)
    have hb2 := hb.later q2
    clear q2 hb HB1
    go_wp2_with fail
    refine (filled_any (listOf F n) _ B _ (row_list (H.out.1.later HB2.out)) (pairs_rise HF.out.2).1 (by rw [listOf_length]; have := (pairs_rise HF.out.2).2; omega)).mono ?_
    rintro e w3 ⟨b, rfl, hbb, hris, q3⟩
    have HI : Hid (Ris w3 b (listOf F n) ∧ Below w2.heap.size w2 w3) := ⟨hris, q3⟩
    clear hris q3
    go_wp2_with fail
    refine (applyTo_any (listOf F n) G m b _ B' w2 _ (H.out.2.later HB2.out) HI.out.2 hbb HI.out.1 (pairs_rise HF.out.2).1 (by rw [listOf_length]; have := (pairs_rise HF.out.2).2; omega) (appliedF_zero HF.out.1).1).mono ?_
    rintro e w4 ⟨rfl, hris, q4⟩
    obtain ⟨rv, hr1, hr2⟩ := hris
    obtain ⟨ro, rc, rfl⟩ := hr2.form
    have hbw : w.heap.size < b := Nat.lt_of_lt_of_le hb2.lt hbb
    obtain ⟨⟨x0, x1⟩, y0, y1⟩ := hb2.later q4
    obtain ⟨⟨r0, r1⟩, _, _⟩ := hr1
    have HR : Hid (Own w4 (b + 1) 61 2 (applyN (listOf F n) G m).length (rowL (applyN (listOf F n) G m)) (.slice ro (applyN (listOf F n) G m).length rc) ∧ Below w.heap.size w w4) := ⟨hr2, HB2.out.trans (q4.mono HB2.out.size)⟩
    clear hr2 q4 hb2
    obtain ⟨A, hA⟩ : ∃ A, applyN (listOf F n) G m = A := ⟨_, rfl⟩
    have HAA : Hid (applyN (listOf F n) G m = A) := hA
    rw [hA] at HR r0
    clear hA
    go_wp2
    refine bodyPost_ret (v := .agg #[.int .i64 0, .slice ro A.length rc]) (by simp [results, Tryz.results51, go_sem, x0, x1]) rfl ?_
    rw [HAA.out]
    refine ⟨ro, rc, rfl, ?_, ?_, ?_⟩
    · exact ((HR.out.1.row.1.far (Or.inl (by simp; omega)) _).far (Or.inl (by simp; omega)) _).mono (by omega)
    · exact (HR.out.1.row.2.far _ _).far _ _
    · exact (HR.out.2.setCell (by simp) _).setCell (by simp) _
end Go.Proofs.YtnchaccgenfhoaaGreat

namespace Go.Proofs.YtnchaccgenfhoaaGreat
open Go.RowKit

/-- Block b holds five cells, none frozen: a plan. -/
def BlkF (x : World) (b : Nat) (a0 a1 a2 a3 : Value) : Prop :=
  (x.cell? ⟨b, 0, none⟩ = some a0 ∧ x.cell? ⟨b, 1, none⟩ = some a1 ∧ x.cell? ⟨b, 2, none⟩ = some a2 ∧ x.cell? ⟨b, 3, none⟩ = some a3) ∧
    x.frozen? ⟨b, 0, none⟩ = false ∧ x.frozen? ⟨b, 1, none⟩ = false ∧ x.frozen? ⟨b, 2, none⟩ = false ∧ x.frozen? ⟨b, 3, none⟩ = false
theorem BlkF.kept {x x' : World} {b : Nat} {a0 a1 a2 a3 : Value} (h : BlkF x b a0 a1 a2 a3) (hb : x'.heap[b]? = x.heap[b]?) : BlkF x' b a0 a1 a2 a3 := by
  obtain ⟨⟨h0, h1, h2, h3⟩, f0, f1, f2, f3⟩ := h
  exact ⟨⟨(World.cell?_of_block (w := x) (a := ⟨b, 0, none⟩) hb).trans h0, (World.cell?_of_block (w := x) (a := ⟨b, 1, none⟩) hb).trans h1, (World.cell?_of_block (w := x) (a := ⟨b, 2, none⟩) hb).trans h2, (World.cell?_of_block (w := x) (a := ⟨b, 3, none⟩) hb).trans h3⟩,
    (World.frozen?_of_block (w := x) (a := ⟨b, 0, none⟩) hb).trans f0, (World.frozen?_of_block (w := x) (a := ⟨b, 1, none⟩) hb).trans f1, (World.frozen?_of_block (w := x) (a := ⟨b, 2, none⟩) hb).trans f2, (World.frozen?_of_block (w := x) (a := ⟨b, 3, none⟩) hb).trans f3⟩
theorem BlkF.lt {x : World} {b : Nat} {a0 a1 a2 a3 : Value} (h : BlkF x b a0 a1 a2 a3) : b < x.heap.size := World.block_lt_of_cell? x _ h.1.1
theorem BlkF.later {x x' : World} {b : Nat} {a0 a1 a2 a3 : Value} (h : BlkF x b a0 a1 a2 a3) (hb : Below x.heap.size x x') : BlkF x' b a0 a1 a2 a3 := h.kept (hb.block b h.lt)
theorem BlkF.alloc {x : World} {b : Nat} {a0 a1 a2 a3 : Value} (h : BlkF x b a0 a1 a2 a3) (o : Obj) : BlkF (x.alloc o) b a0 a1 a2 a3 := h.later ((Below.refl _ _).alloc (Nat.le_refl _) o)
theorem BlkF.new (w : World) (a0 a1 a2 a3 : Value) (t : TypeId) : BlkF (w.alloc (.cells #[a0, a1, a2, a3] t)) w.heap.size a0 a1 a2 a3 := by
  refine ⟨⟨World.cell?_alloc_mark w _ _ _ 0, World.cell?_alloc_mark w _ _ _ 1, World.cell?_alloc_mark w _ _ _ 2, World.cell?_alloc_mark w _ _ _ 3⟩, ?_, ?_, ?_, ?_⟩ <;> simp
theorem BlkF.putAll {x : World} {b : Nat} {a0 a1 a2 a3 : Value} (h : BlkF x b a0 a1 a2 a3) (c0 c1 c2 c3 : Value) : BlkF ((((x.setCell ⟨b, 0, none⟩ c0).setCell ⟨b, 1, none⟩ c1).setCell ⟨b, 2, none⟩ c2).setCell ⟨b, 3, none⟩ c3) b c0 c1 c2 c3 := by
  obtain ⟨⟨h0, h1, h2, h3⟩, f0, f1, f2, f3⟩ := h
  refine ⟨⟨?_, ?_, ?_, ?_⟩, ?_, ?_, ?_, ?_⟩ <;> go_simp
theorem BlkF.far {x : World} {b : Nat} {a0 a1 a2 a3 : Value} (h : BlkF x b a0 a1 a2 a3) {p : Addr} (hp : b ≠ p.block) (u : Value) : BlkF (x.setCell p u) b a0 a1 a2 a3 := h.kept (Below.heap_setCell x p u b hp)
/-- Block b is one that a plan lies in. -/
def FBk (x : World) (b : Nat) : Prop := ∃ old : Array Value, x.heap[b]? = some (.cells old 30 (0, 0)) ∧ old.size = 4
theorem FBk.lt {x : World} {b : Nat} (h : FBk x b) : b < x.heap.size := by
  obtain ⟨old, h, _⟩ := h
  exact (Array.getElem?_eq_some_iff.1 h).1
theorem FBk.kept {x x' : World} {b : Nat} (h : FBk x b) (hb : x'.heap[b]? = x.heap[b]?) : FBk x' b := by
  obtain ⟨old, h, hs⟩ := h
  exact ⟨old, hb.trans h, hs⟩
theorem FBk.later {x x' : World} {b : Nat} (h : FBk x b) (hb : Below x.heap.size x x') : FBk x' b := h.kept (hb.block b h.lt)
theorem FBk.alloc {x : World} {b : Nat} (h : FBk x b) (o : Obj) : FBk (x.alloc o) b := h.later (below_alloc _ _)
theorem FBk.new (w : World) (a0 a1 a2 a3 : Value) : FBk (w.alloc (.cells #[a0, a1, a2, a3] 30)) w.heap.size := ⟨_, heap_alloc_new w _, rfl⟩
theorem wpList_storeF {ops : Array Oper} {rest : List Oper} {o : Oper} {a : Act} {w : World} {Q : Exit → Act → World → Prop} (hgd : o.guard = none) (x y : Operand) (ho : o.op = .store 30 x y)
    (g : Nat) (a0 a1 a2 a3 : Value) (hx : a.eval x = .pointer (some ⟨g, 0, none⟩)) (hy : a.eval y = .agg #[a0, a1, a2, a3]) (hP : FBk w g) (h1 : (#[a0, a1, a2, a3] : Array Value).all (·.oneCell') = true)
    (h : wpList Tryz.prog ops Q rest (a.put o.dst undef) (w.setRow g #[a0, a1, a2, a3])) : wpList Tryz.prog ops Q (o :: rest) a w := by
  obtain ⟨old, hg, hs⟩ := hP
  exact wpList_store_row hgd 30 x y ho g #[a0, a1, a2, a3] hx hy 30 old hg (by kernel_rfl) hs h1 h
theorem results_fs {fn : Func} {p : Tmp} (h : fn.results = #[.cell p 30]) (tmps : Array Value) (w : World) (g : Nat) (a0 a1 a2 a3 : Value) (hp : tmps.getD p undef = .pointer (some ⟨g, 0, none⟩)) (hP : FBk w g) : (results fn tmps).run Tryz.prog (w.setRow g #[a0, a1, a2, a3]) = .ok (.agg #[a0, a1, a2, a3]) (w.setRow g #[a0, a1, a2, a3]) := by
  obtain ⟨old, hg, _⟩ := hP
  exact results_cell_row h tmps _ g 30 #[a0, a1, a2, a3] (0, 0) _ hp (by simp [World.setRow, Array.getElem?_modify, hg]) Tryz.underlying30 rfl (by kernel_rfl)
theorem step_storeF {ops : Array Oper} {o : Oper} {a : Act} {w : World} {K : Act → World → Prop} {Q : Exit → Act → World → Prop} {E : Prop} (hgd : o.guard = none) (x y : Operand) (ho : o.op = .store 30 x y)
    (g : Nat) (a0 a1 a2 a3 : Value) (hx : a.eval x = .pointer (some ⟨g, 0, none⟩)) (hy : a.eval y = .agg #[a0, a1, a2, a3]) (hP : FBk w g) (h1 : (#[a0, a1, a2, a3] : Array Value).all (·.oneCell') = true)
    (h : K (a.put o.dst undef) (w.setRow g #[a0, a1, a2, a3])) : if Region.wanted o (yielded ops a.tmps) = true then Oper.wp Tryz.prog o a w K Q else E := by
  have hw : Region.wanted o (yielded ops a.tmps) = true := by simp [Region.wanted, hgd]
  rw [if_pos hw]
  obtain ⟨old, hg, hs⟩ := hP
  exact wp_store_row 30 x y ho g #[a0, a1, a2, a3] hx hy 30 old hg (by kernel_rfl) hs h1 h
theorem FBk.blk {x : World} {b : Nat} (h : FBk x b) (a0 a1 a2 a3 : Value) : BlkF (x.setRow b #[a0, a1, a2, a3]) b a0 a1 a2 a3 := by
  obtain ⟨old, hg, _⟩ := h
  have e : (x.setRow b #[a0, a1, a2, a3]).heap[b]? = some (.cells #[a0, a1, a2, a3] 30 (0, 0)) := by simp [World.setRow, Array.getElem?_modify, hg]
  refine ⟨⟨?_, ?_, ?_, ?_⟩, ?_, ?_, ?_, ?_⟩ <;> simp [World.cell?, World.frozen?, e]

/-- What a call answers that tells a code, a reply, a value and a view. -/
def ResFs (w : World) (c r v : Int) (R : Prs) (e : Ending) (w' : World) : Prop := ∃ ao cp, e = .returned (.agg #[.int .i64 c, .int .i64 r, .int .i64 v, .slice ao R.length cp]) ∧ Row w' w.heap.size 2 R.length (rowL R) (.slice ao R.length cp) ∧ Free w' (R.length * 2) (.slice ao R.length cp) ∧ Below w.heap.size w w'
theorem flat_row {w : World} {B : Nat} {u : Value} {R : Prs} (h : OwnM w B 61 2 u R.length (flatL R)) : Row w B 2 R.length (rowL R) u ∧ Free w (R.length * 2) u := (ownM_own h).row
end Go.Proofs.YtnchaccgenfhoaaGreat

namespace Go.Proofs.YtnchaccgenfhoaaGreat
open Go.RowKit

/-- What stands while a plan is made: what was looked at, and the boxes. -/
def Wk (w : World) (b rb mb : Nat) (L : Prs) (vr : Value) (kd d n td tn vv c cv : Int) (xs : List Int) (vz : Value) (X : World) : Prop :=
  (Looks X b rb mb L xs vz ∧ Keeps w X b mb vr vz) ∧ Bxs w.heap.size kd d n td tn vv c cv X ∧ Off X b mb vz w.heap.size ∧ Off X b mb vz (w.heap.size + 1) ∧ Off X b mb vz (w.heap.size + 2)
theorem Wk.keeps {w X X' : World} {b rb mb : Nat} {L : Prs} {vr vz vy : Value} {kd d n td tn vv c cv : Int} {xs ys : List Int} (h : Wk w b rb mb L vr kd d n td tn vv c cv xs vz X) (hl : Looks X' b rb mb L ys vy) (hk : Keeps X X' b mb vz vy) : Wk w b rb mb L vr kd d n td tn vv c cv ys vy X' :=
  ⟨⟨hl, h.1.2.trans hk⟩, h.2.1.kept (hk.off h.2.2.1).2 (hk.off h.2.2.2.1).2 (hk.off h.2.2.2.2).2, (hk.off h.2.2.1).1, (hk.off h.2.2.2.1).1, (hk.off h.2.2.2.2).1⟩
theorem Wk.later {w X X' : World} {b rb mb : Nat} {L : Prs} {vr vz : Value} {kd d n td tn vv c cv : Int} {xs : List Int} (h : Wk w b rb mb L vr kd d n td tn vv c cv xs vz X) (hb : Below X.heap.size X X') : Wk w b rb mb L vr kd d n td tn vv c cv xs vz X' := h.keeps (h.1.1.later hb) (Keeps.below _ _ _ hb)
theorem Wk.drew {w X : World} {b rb mb : Nat} {L : Prs} {vr vz : Value} {kd d n td tn vv c cv : Int} {xs : List Int} (h : Wk w b rb mb L vr kd d n td tn vv c cv xs vz X) : Wk w b rb mb L vr kd d n td tn vv c cv xs vz X.drew := h.later ⟨rfl, rfl, rfl, Nat.le_refl _, fun _ _ => rfl⟩
theorem Wk.alloc {w X : World} {b rb mb : Nat} {L : Prs} {vr vz : Value} {kd d n td tn vv c cv : Int} {xs : List Int} (h : Wk w b rb mb L vr kd d n td tn vv c cv xs vz X) (o : Obj) : Wk w b rb mb L vr kd d n td tn vv c cv xs vz (X.alloc o) := h.later (below_alloc _ _)
theorem Wk.new {w : World} {b rb mb : Nat} {L : Prs} {vr : Value} {xs : List Int} (h : Looks w b rb mb L xs vr) (kd d n td tn vv c cv : Int) : Wk w b rb mb L vr kd d n td tn vv c cv xs vr (((w.alloc (opO kd d n td tn vv)).alloc (chO c cv)).alloc zeroPl) :=
  ⟨⟨((h.alloc _).alloc _).alloc _, Keeps.below _ _ _ (below3 _ _ _ _)⟩, Bxs.new _ _ _ _ _ _ _ _ _, h.off2 (Nat.le_refl _) (by simp; omega), h.off2 (Nat.le_succ _) (by first | (simp; done) | (simp; omega)), h.off2 (by omega) (by simp)⟩
/-- The plan is told: its box, its writes in memory of their own. -/
theorem Wk.told {w X : World} {b rb mb : Nat} {L : Prs} {vr vz : Value} {kd d n td tn vv c cv : Int} {xs : List Int} (h : Wk w b rb mb L vr kd d n td tn vv c cv xs vz X) (hmb : mb < w.heap.size) (v : Int) (vw : Value) (m : Nat) (W : List Int) (cs : Array Value) (ho : OwnM X (w.heap.size + 3) 132 3 vw m W) (hd : ∀ k, vz.ownBlock = some k → vw.ownBlock ≠ some k) (e : Ending) (he : e = .returned (.agg #[.int .i64 0, .int .i64 0, .int .i64 v, .slice none 0 0, vw])) : PlanEnd w b rb mb L vr 0 v xs m W e (X.setRow (w.heap.size + 2) cs) :=
  ⟨vz, ⟨h.1.1.offs h.2.2.2.2 (fun k hk => heap_setRow _ _ _ _ hk), h.1.2.offs (by rw [size_setRow]) (fun k hk => heap_setRow _ _ _ _ hk) ⟨rfl, rfl, rfl⟩ (by omega)⟩, Or.inl ⟨rfl, vw, he, OwnM.monoP (OwnM.kept ho fun g hg _ => heap_setRow _ _ _ _ (by omega)) (by omega), hd⟩⟩
/-- .. a list literal as its writes. -/
theorem Wk.lit {w X : World} {b rb mb : Nat} {L : Prs} {vr vz : Value} {kd d n td tn vv c cv : Int} {xs : List Int} (h : Wk w b rb mb L vr kd d n td tn vv c cv xs vz X) (m : Nat) (W : List Int) (cs : Array Value) (hcs : cs = (W.map (Value.int .i64)).toArray) (hl : W.length = m * 3) (hm : m ≤ 1000) :
    OwnM (X.alloc (.cells cs 132)) (w.heap.size + 3) 132 3 (.slice (some ⟨X.heap.size, 0, none⟩) m m) m W ∧ ∀ k, vz.ownBlock = some k → (Value.slice (some ⟨X.heap.size, 0, none⟩) m m).ownBlock ≠ some k :=
  ⟨OwnM.monoP (OwnM.lit X 132 3 m W cs hcs hl (by unfold maxLen; omega)) (by have := h.2.1.lt; omega), fun k hk e => by have := (h.1.1.2.2.2.1.lt k hk).2; simp [Value.ownBlock] at e; omega⟩
theorem Wk.rowed {w X : World} {b rb mb : Nat} {L : Prs} {vr vz : Value} {kd d n td tn vv c cv : Int} {xs : List Int} (h : Wk w b rb mb L vr kd d n td tn vv c cv xs vz X) (hmb : mb < w.heap.size) (cs : Array Value) (hcs : cs.size = 5) : Wk w b rb mb L vr kd d n td tn vv c cv xs vz (X.setRow (w.heap.size + 2) cs) :=
  ⟨⟨h.1.1.offs h.2.2.2.2 (fun k hk => heap_setRow _ _ _ _ hk), h.1.2.offs (by rw [size_setRow]) (fun k hk => heap_setRow _ _ _ _ hk) ⟨rfl, rfl, rfl⟩ (by omega)⟩, h.2.1.row cs hcs, ⟨by rw [size_setRow]; exact h.2.2.1.1, h.2.2.1.2⟩, ⟨by rw [size_setRow]; exact h.2.2.2.1.1, h.2.2.2.1.2⟩, ⟨by rw [size_setRow]; exact h.2.2.2.2.1, h.2.2.2.2.2⟩⟩
set_option maxRecDepth 100000 in
set_option maxHeartbeats 4000000 in
theorem planMove_is (L : Prs) (b rb mb : Nat) (xs : List Int) (vr : Value) (kd d n td tn vv c cv : Int) (w : World) (h : Looks w b rb mb L xs vr) (hrs : Rises L) (hn : L.length ≤ 1000) (hd : 0 ≤ d ∧ d ≤ 9) (hnm : 0 ≤ n ∧ n ≤ 5) (htd : 0 ≤ td ∧ td ≤ 9) (htn : 0 ≤ tn ∧ tn ≤ 5) (hc : 0 ≤ c ∧ c ≤ 9) (hcv : 0 ≤ cv ∧ cv ≤ 9999) (hx : xs.length ≤ 800) (r v : Int) (ys : List Int) (m : Nat) (W : List Int) (hp : moveP L d n td tn c cv xs = (r, v, ys, m, W)) :
    Calls Tryz.prog 116 #[.pointer (some ⟨b, 0, none⟩), .agg #[.int .i64 kd, .int .i64 d, .int .i64 n, .int .i64 td, .int .i64 tn, .int .i64 vv], .agg #[.int .i64 c, .int .i64 cv]] w (PlanEnd w b rb mb L vr r v ys m W) := by
  have hmb : mb < w.heap.size := h.2.2.1.lt
  have HC : Hid (Rises L ∧ (0 ≤ d ∧ d ≤ 9) ∧ (0 ≤ n ∧ n ≤ 5) ∧ (0 ≤ td ∧ td ≤ 9) ∧ (0 ≤ tn ∧ tn ≤ 5) ∧ (0 ≤ c ∧ c ≤ 9)) := ⟨hrs, hd, hnm, htd, htn, hc⟩
  have HK : Hid (Wk w b rb mb L vr kd d n td tn vv c cv xs vr (((w.alloc (opO kd d n td tn vv)).alloc (chO c cv)).alloc zeroPl)) := Wk.new h _ _ _ _ _ _ _ _
  have hit2 := fun a0 a1 a2 b0 b1 b2 w => run_items2 a0 a1 a2 b0 b1 b2 w
  obtain ⟨hv0, hv9⟩ := hcv
  clear h hrs hd hnm htd htn hc
  unfold moveP at hp
  by_cases h1 : cv = 1000
  · subst h1
    by_cases h2 : td = d
    case neg =>
      have e3 : (td != d) = true := bne_iff_ne.2 h2
      rw [if_pos ⟨rfl, h2⟩] at hp
      simp only [Prod.mk.injEq] at hp
      obtain ⟨rfl, rfl, rfl, rfl, rfl⟩ := hp
      clear h2
      go_enter Tryz.func116, Tryz.ntmps116
      go_wp2_with fail
      refine (childDir_is c 1000 _).mono ?_
      rintro e w1 ⟨rfl, q1⟩
      have H1 : Hid (Wk w b rb mb L vr kd d n td tn vv c 1000 xs vr w1) := HK.out.later q1
      clear q1 HK
      obtain ⟨⟨⟨o0, o1, o2, o3, o4, o5⟩, _⟩, ⟨⟨o6, o7⟩, _⟩, _⟩ := H1.out.2.1
      go_wp2_with fail
      refine (wrongIf_so 10 _).mono ?_
      rintro e w9 ⟨rfl, hw9⟩
      obtain rfl := hw9.symm
      exact ⟨rfl, vr, H1.out.1, Or.inr ⟨by decide, rfl, rfl, rfl, rfl⟩⟩
    have e3 : (td != d) = false := by simp [h2]
    rw [if_neg (fun q => q.2 h2)] at hp
    clear h2
    go_enter Tryz.func116, Tryz.ntmps116
    go_wp2_with fail
    refine (childDir_is c 1000 _).mono ?_
    rintro e w1 ⟨rfl, q1⟩
    have H1 : Hid (Wk w b rb mb L vr kd d n td tn vv c 1000 xs vr w1) := HK.out.later q1
    clear q1 HK
    obtain ⟨⟨⟨o0, o1, o2, o3, o4, o5⟩, _⟩, ⟨⟨o6, o7⟩, _⟩, _⟩ := H1.out.2.1
    go_wp2_with fail
    refine (wrongIf_no 10 _).mono ?_
    rintro e w9 ⟨rfl, hw9⟩
    obtain rfl := hw9.symm
    obtain ⟨tt, htq⟩ : ∃ tt, targetP L td tn xs = tt := ⟨_, rfl⟩
    rw [htq] at hp
    obtain ⟨t, zs⟩ := tt
    have HT : Hid (targetP L td tn xs = (t, zs)) := htq
    clear htq
    by_cases h0 : t = 0
    case neg =>
      rw [if_neg h0] at hp
      simp only [Prod.mk.injEq] at hp
      obtain ⟨rfl, rfl, rfl, rfl, rfl⟩ := hp
      have HN : Hid (t ≠ 0) := h0
      clear h0
      go_wp2_with fail
      refine (needFree_is L b rb mb xs vr td tn _ H1.out.1.1 HC.out.1 hn HC.out.2.2.2.1 HC.out.2.2.2.2.1 (by omega) _ _ HT.out).mono ?_
      rintro e w2 ⟨he, vz, l2, k2⟩
      have H2 : Hid (Wk w b rb mb L vr kd d n td tn vv c 1000 zs vz w2) := H1.out.keeps l2 k2
      clear l2 k2 H1 o0 o1 o2 o3 o4 o5 o6 o7
      rcases he with ⟨q, _⟩ | ⟨_, rfl⟩
      · exact absurd q HN.out
      exact ⟨rfl, vz, H2.out.1, Or.inr ⟨HN.out, rfl, rfl, rfl, rfl⟩⟩
    subst h0
    rw [if_pos rfl] at hp
    simp only [Prod.mk.injEq] at hp
    obtain ⟨rfl, rfl, rfl, rfl, rfl⟩ := hp
    go_wp2_with fail
    refine (needFree_is L b rb mb xs vr td tn _ H1.out.1.1 HC.out.1 hn HC.out.2.2.2.1 HC.out.2.2.2.2.1 (by omega) _ _ HT.out).mono ?_
    rintro e w2 ⟨he, vz, l2, k2⟩
    have H2 : Hid (Wk w b rb mb L vr kd d n td tn vv c 1000 zs vz w2) := H1.out.keeps l2 k2
    clear l2 k2 H1 o0 o1 o2 o3 o4 o5 o6 o7
    rcases he with ⟨_, rfl⟩ | ⟨q, _⟩
    case inr => exact absurd rfl q
    go_upto_region 3 with fail
    refine wp_region_held_drew (S := Wk w b rb mb L vr kd d n td tn vv c 1000 zs vz) (by kernel_rfl) H2.out.drew (fun hS => ?_)
    refine tkH 0 ?_ hS (fun wx hx => ?_) ?_; rotate_left
    · obtain ⟨_, ⟨⟨⟨hx0, hx1, hx2, hx3, hx4, hx5⟩, _⟩, ⟨⟨hx6, hx7⟩, _⟩, _⟩, _⟩ := hx; go_simp; try with_reducible rfl
    refine tkH 1 ?_ hS (fun wx hx => ?_) ?_; rotate_left
    · obtain ⟨_, ⟨⟨⟨hx0, hx1, hx2, hx3, hx4, hx5⟩, _⟩, ⟨⟨hx6, hx7⟩, _⟩, _⟩, _⟩ := hx; go_simp; try with_reducible rfl
    refine tkH 2 ?_ hS (fun wx hx => ?_) ?_; rotate_left
    · obtain ⟨_, ⟨⟨⟨hx0, hx1, hx2, hx3, hx4, hx5⟩, _⟩, ⟨⟨hx6, hx7⟩, _⟩, _⟩, _⟩ := hx; go_simp; try with_reducible rfl
    refine tkH 3 ?_ hS (fun wx hx => ?_) ?_; rotate_left
    · obtain ⟨_, ⟨⟨⟨hx0, hx1, hx2, hx3, hx4, hx5⟩, _⟩, ⟨⟨hx6, hx7⟩, _⟩, _⟩, _⟩ := hx; go_simp; try with_reducible rfl
    refine tkH 6 ?_ hS (fun wx hx => ?_) ?_; rotate_left
    · obtain ⟨_, ⟨⟨⟨hx0, hx1, hx2, hx3, hx4, hx5⟩, _⟩, ⟨⟨hx6, hx7⟩, _⟩, _⟩, _⟩ := hx; go_simp; try with_reducible rfl
    refine tkH 7 ?_ hS (fun wx hx => ?_) ?_; rotate_left
    · obtain ⟨_, ⟨⟨⟨hx0, hx1, hx2, hx3, hx4, hx5⟩, _⟩, ⟨⟨hx6, hx7⟩, _⟩, _⟩, _⟩ := hx; go_simp; try with_reducible rfl
    refine tkH 8 ?_ hS (fun wx hx => ?_) ?_; rotate_left
    · obtain ⟨_, ⟨⟨⟨hx0, hx1, hx2, hx3, hx4, hx5⟩, _⟩, ⟨⟨hx6, hx7⟩, _⟩, _⟩, _⟩ := hx; go_simp; try with_reducible rfl
    refine tkH 9 ?_ hS (fun wx hx => ?_) ?_; rotate_left
    · obtain ⟨_, ⟨⟨⟨hx0, hx1, hx2, hx3, hx4, hx5⟩, _⟩, ⟨⟨hx6, hx7⟩, _⟩, _⟩, _⟩ := hx; go_simp; try with_reducible rfl
    refine tkH 11 ?_ hS (fun wx hx => ?_) ?_; rotate_left
    · obtain ⟨_, ⟨⟨⟨hx0, hx1, hx2, hx3, hx4, hx5⟩, _⟩, ⟨⟨hx6, hx7⟩, _⟩, _⟩, _⟩ := hx; go_simp; try with_reducible rfl
    refine tkH 12 ?_ hS (fun wx hx => ?_) ?_; rotate_left
    · obtain ⟨_, ⟨⟨⟨hx0, hx1, hx2, hx3, hx4, hx5⟩, _⟩, ⟨⟨hx6, hx7⟩, _⟩, _⟩, _⟩ := hx; go_simp; try with_reducible rfl
    refine rdH 4 (fun K hK => ?_)
    go_simp
    go_wp2_with fail
    refine (entryKey_is d n HC.out.2.1 HC.out.2.2.1 _).mono ?_
    rintro e w3 ⟨rfl, q1⟩
    have hS1 := hS.later q1
    clear q1 hS
    go_wp2_with fail
    refine hK.out _ _ hS1 (fun hS => ?_)
    clear hK K
    clear hS1
    refine rdH 5 (fun K hK => ?_)
    go_simp
    go_wp2_with fail
    refine (deleteOf_is (kE d n) _).mono ?_
    rintro e w4 ⟨rfl, q1⟩
    have hS1 := hS.later q1
    clear q1 hS
    go_wp2_with fail
    refine hK.out _ _ hS1 (fun hS => ?_)
    clear hK K
    clear hS1
    refine rdH 10 (fun K hK => ?_)
    go_simp
    go_wp2_with fail
    refine (entryKey_is td tn HC.out.2.2.2.1 HC.out.2.2.2.2.1 _).mono ?_
    rintro e w5 ⟨rfl, q1⟩
    have hS1 := hS.later q1
    clear q1 hS
    go_wp2_with fail
    refine hK.out _ _ hS1 (fun hS => ?_)
    clear hK K
    clear hS1
    refine rdH 13 (fun K hK => ?_)
    go_simp
    go_wp2_with fail
    refine (putTo_is (kE td tn) c _).mono ?_
    rintro e w6 ⟨rfl, q1⟩
    have hS1 := hS.later q1
    clear q1 hS
    go_wp2_with fail
    refine hK.out _ _ hS1 (fun hS => ?_)
    clear hK K
    clear hS1
    refine rdH 14 (fun K hK => ?_)
    go_simp
    have HW : Hid (_ ∧ _) := hS.lit 2 [kE d n, 2, 0, kE td tn, 1, c] #[.int .i64 (kE d n), .int .i64 2, .int .i64 0, .int .i64 (kE td tn), .int .i64 1, .int .i64 c] (by simp) rfl (by omega)
    have hS4 := hS.alloc (.cells #[.int .i64 (kE d n), .int .i64 2, .int .i64 0, .int .i64 (kE td tn), .int .i64 1, .int .i64 c] 132)
    clear hS
    refine hK.out _ _ hS4 (fun hS => ?_)
    clear hK K
    clear hS4
    refine tkH 15 ?_ hS (fun wx hx => ?_) ?_; rotate_left
    · obtain ⟨_, ⟨⟨⟨hx0, hx1, hx2, hx3, hx4, hx5⟩, _⟩, ⟨⟨hx6, hx7⟩, _⟩, _⟩, _⟩ := hx; go_simp; try with_reducible rfl
    refine rdH 16 (fun K hK => ?_)
    refine step_storeP rfl _ _ rfl (w.heap.size + 2) _ _ _ _ _ rfl rfl hS.2.1.2.2 (by kernel_rfl) ?_
    have HS5 : Hid (Wk w b rb mb L vr kd d n td tn vv c 1000 zs vz _) := hS
    have hS5 := hS.rowed hmb #[.int .i64 0, .int .i64 0, .int .i64 0, .slice none 0 0, .slice (some ⟨w6.heap.size, 0, none⟩) 2 2] rfl
    clear hS
    refine hK.out _ _ hS5 (fun hS => ?_)
    clear hK K
    clear hS5
    refine wpAnyH_done (by kernel_rfl) ?_ _
    go_simp
    go_wp2
    exact bodyPost_ret (v := .agg #[.int .i64 0, .int .i64 0, .int .i64 0, .slice none 0 0, .slice (some ⟨w6.heap.size, 0, none⟩) 2 2]) (results_pl Tryz.results116 _ _ _ _ _ _ _ _ rfl HS5.out.2.1.2.2) rfl (HS5.out.told hmb 0 _ _ _ _ HW.out.1 HW.out.2 _ rfl)
  have e1 : (cv == 1000) = false := beq_eq_false_iff_ne.2 h1
  rw [if_neg (fun q => h1 q.1)] at hp
  clear h1
  go_enter Tryz.func116, Tryz.ntmps116
  go_wp2_with fail
  refine (childDir_is c cv _).mono ?_
  rintro e w1 ⟨rfl, q1⟩
  have H1 : Hid (Wk w b rb mb L vr kd d n td tn vv c cv xs vr w1) := HK.out.later q1
  clear q1 HK
  obtain ⟨⟨⟨o0, o1, o2, o3, o4, o5⟩, _⟩, ⟨⟨o6, o7⟩, _⟩, _⟩ := H1.out.2.1
  rw [e1]
  go_wp2_with fail
  refine (wrongIf_no 10 _).mono ?_
  rintro e w9 ⟨rfl, hw9⟩
  obtain rfl := hw9.symm
  obtain ⟨tt, htq⟩ : ∃ tt, targetP L td tn xs = tt := ⟨_, rfl⟩
  rw [htq] at hp
  obtain ⟨t, zs⟩ := tt
  have HT : Hid (targetP L td tn xs = (t, zs)) := htq
  clear htq
  by_cases h0 : t = 0
  case neg =>
    rw [if_neg h0] at hp
    simp only [Prod.mk.injEq] at hp
    obtain ⟨rfl, rfl, rfl, rfl, rfl⟩ := hp
    have HN : Hid (t ≠ 0) := h0
    clear h0
    go_wp2_with fail
    refine (needFree_is L b rb mb xs vr td tn _ H1.out.1.1 HC.out.1 hn HC.out.2.2.2.1 HC.out.2.2.2.2.1 (by omega) _ _ HT.out).mono ?_
    rintro e w2 ⟨he, vz, l2, k2⟩
    have H2 : Hid (Wk w b rb mb L vr kd d n td tn vv c cv zs vz w2) := H1.out.keeps l2 k2
    clear l2 k2 H1 o0 o1 o2 o3 o4 o5 o6 o7
    rcases he with ⟨q, _⟩ | ⟨_, rfl⟩
    · exact absurd q HN.out
    exact ⟨rfl, vz, H2.out.1, Or.inr ⟨HN.out, rfl, rfl, rfl, rfl⟩⟩
  subst h0
  rw [if_pos rfl] at hp
  simp only [Prod.mk.injEq] at hp
  obtain ⟨rfl, rfl, rfl, rfl, rfl⟩ := hp
  go_wp2_with fail
  refine (needFree_is L b rb mb xs vr td tn _ H1.out.1.1 HC.out.1 hn HC.out.2.2.2.1 HC.out.2.2.2.2.1 (by omega) _ _ HT.out).mono ?_
  rintro e w2 ⟨he, vz, l2, k2⟩
  have H2 : Hid (Wk w b rb mb L vr kd d n td tn vv c cv zs vz w2) := H1.out.keeps l2 k2
  clear l2 k2 H1 o0 o1 o2 o3 o4 o5 o6 o7
  rcases he with ⟨_, rfl⟩ | ⟨q, _⟩
  case inr => exact absurd rfl q
  go_upto_region 3 with fail
  refine wp_region_held_drew (S := Wk w b rb mb L vr kd d n td tn vv c cv zs vz) (by kernel_rfl) H2.out.drew (fun hS => ?_)
  refine tkH 0 ?_ hS (fun wx hx => ?_) ?_; rotate_left
  · obtain ⟨_, ⟨⟨⟨hx0, hx1, hx2, hx3, hx4, hx5⟩, _⟩, ⟨⟨hx6, hx7⟩, _⟩, _⟩, _⟩ := hx; go_simp; try with_reducible rfl
  refine tkH 1 ?_ hS (fun wx hx => ?_) ?_; rotate_left
  · obtain ⟨_, ⟨⟨⟨hx0, hx1, hx2, hx3, hx4, hx5⟩, _⟩, ⟨⟨hx6, hx7⟩, _⟩, _⟩, _⟩ := hx; go_simp; try with_reducible rfl
  refine tkH 2 ?_ hS (fun wx hx => ?_) ?_; rotate_left
  · obtain ⟨_, ⟨⟨⟨hx0, hx1, hx2, hx3, hx4, hx5⟩, _⟩, ⟨⟨hx6, hx7⟩, _⟩, _⟩, _⟩ := hx; go_simp; try with_reducible rfl
  refine tkH 3 ?_ hS (fun wx hx => ?_) ?_; rotate_left
  · obtain ⟨_, ⟨⟨⟨hx0, hx1, hx2, hx3, hx4, hx5⟩, _⟩, ⟨⟨hx6, hx7⟩, _⟩, _⟩, _⟩ := hx; go_simp; try with_reducible rfl
  refine tkH 6 ?_ hS (fun wx hx => ?_) ?_; rotate_left
  · obtain ⟨_, ⟨⟨⟨hx0, hx1, hx2, hx3, hx4, hx5⟩, _⟩, ⟨⟨hx6, hx7⟩, _⟩, _⟩, _⟩ := hx; go_simp; try with_reducible rfl
  refine tkH 7 ?_ hS (fun wx hx => ?_) ?_; rotate_left
  · obtain ⟨_, ⟨⟨⟨hx0, hx1, hx2, hx3, hx4, hx5⟩, _⟩, ⟨⟨hx6, hx7⟩, _⟩, _⟩, _⟩ := hx; go_simp; try with_reducible rfl
  refine tkH 8 ?_ hS (fun wx hx => ?_) ?_; rotate_left
  · obtain ⟨_, ⟨⟨⟨hx0, hx1, hx2, hx3, hx4, hx5⟩, _⟩, ⟨⟨hx6, hx7⟩, _⟩, _⟩, _⟩ := hx; go_simp; try with_reducible rfl
  refine tkH 9 ?_ hS (fun wx hx => ?_) ?_; rotate_left
  · obtain ⟨_, ⟨⟨⟨hx0, hx1, hx2, hx3, hx4, hx5⟩, _⟩, ⟨⟨hx6, hx7⟩, _⟩, _⟩, _⟩ := hx; go_simp; try with_reducible rfl
  refine tkH 11 ?_ hS (fun wx hx => ?_) ?_; rotate_left
  · obtain ⟨_, ⟨⟨⟨hx0, hx1, hx2, hx3, hx4, hx5⟩, _⟩, ⟨⟨hx6, hx7⟩, _⟩, _⟩, _⟩ := hx; go_simp; try with_reducible rfl
  refine tkH 12 ?_ hS (fun wx hx => ?_) ?_; rotate_left
  · obtain ⟨_, ⟨⟨⟨hx0, hx1, hx2, hx3, hx4, hx5⟩, _⟩, ⟨⟨hx6, hx7⟩, _⟩, _⟩, _⟩ := hx; go_simp; try with_reducible rfl
  refine rdH 4 (fun K hK => ?_)
  go_simp
  go_wp2_with fail
  refine (entryKey_is d n HC.out.2.1 HC.out.2.2.1 _).mono ?_
  rintro e w3 ⟨rfl, q1⟩
  have hS1 := hS.later q1
  clear q1 hS
  go_wp2_with fail
  refine hK.out _ _ hS1 (fun hS => ?_)
  clear hK K
  clear hS1
  refine rdH 5 (fun K hK => ?_)
  go_simp
  go_wp2_with fail
  refine (deleteOf_is (kE d n) _).mono ?_
  rintro e w4 ⟨rfl, q1⟩
  have hS1 := hS.later q1
  clear q1 hS
  go_wp2_with fail
  refine hK.out _ _ hS1 (fun hS => ?_)
  clear hK K
  clear hS1
  refine rdH 10 (fun K hK => ?_)
  go_simp
  go_wp2_with fail
  refine (entryKey_is td tn HC.out.2.2.2.1 HC.out.2.2.2.2.1 _).mono ?_
  rintro e w5 ⟨rfl, q1⟩
  have hS1 := hS.later q1
  clear q1 hS
  go_wp2_with fail
  refine hK.out _ _ hS1 (fun hS => ?_)
  clear hK K
  clear hS1
  refine rdH 13 (fun K hK => ?_)
  go_simp
  go_wp2_with fail
  refine (putTo_is (kE td tn) c _).mono ?_
  rintro e w6 ⟨rfl, q1⟩
  have hS1 := hS.later q1
  clear q1 hS
  go_wp2_with fail
  refine hK.out _ _ hS1 (fun hS => ?_)
  clear hK K
  clear hS1
  refine rdH 14 (fun K hK => ?_)
  go_simp
  have HW : Hid (_ ∧ _) := hS.lit 2 [kE d n, 2, 0, kE td tn, 1, c] #[.int .i64 (kE d n), .int .i64 2, .int .i64 0, .int .i64 (kE td tn), .int .i64 1, .int .i64 c] (by simp) rfl (by omega)
  have hS4 := hS.alloc (.cells #[.int .i64 (kE d n), .int .i64 2, .int .i64 0, .int .i64 (kE td tn), .int .i64 1, .int .i64 c] 132)
  clear hS
  refine hK.out _ _ hS4 (fun hS => ?_)
  clear hK K
  clear hS4
  refine tkH 15 ?_ hS (fun wx hx => ?_) ?_; rotate_left
  · obtain ⟨_, ⟨⟨⟨hx0, hx1, hx2, hx3, hx4, hx5⟩, _⟩, ⟨⟨hx6, hx7⟩, _⟩, _⟩, _⟩ := hx; go_simp; try with_reducible rfl
  refine rdH 16 (fun K hK => ?_)
  refine step_storeP rfl _ _ rfl (w.heap.size + 2) _ _ _ _ _ rfl rfl hS.2.1.2.2 (by kernel_rfl) ?_
  have HS5 : Hid (Wk w b rb mb L vr kd d n td tn vv c cv zs vz _) := hS
  have hS5 := hS.rowed hmb #[.int .i64 0, .int .i64 0, .int .i64 0, .slice none 0 0, .slice (some ⟨w6.heap.size, 0, none⟩) 2 2] rfl
  clear hS
  refine hK.out _ _ hS5 (fun hS => ?_)
  clear hK K
  clear hS5
  refine wpAnyH_done (by kernel_rfl) ?_ _
  go_simp
  go_wp2
  exact bodyPost_ret (v := .agg #[.int .i64 0, .int .i64 0, .int .i64 0, .slice none 0 0, .slice (some ⟨w6.heap.size, 0, none⟩) 2 2]) (results_pl Tryz.results116 _ _ _ _ _ _ _ _ rfl HS5.out.2.1.2.2) rfl (HS5.out.told hmb 0 _ _ _ _ HW.out.1 HW.out.2 _ rfl)
end Go.Proofs.YtnchaccgenfhoaaGreat

namespace Go.Proofs.YtnchaccgenfhoaaGreat
open Go.RowKit

theorem wrap_id {a : Int} (h0 : -1 ≤ a) (h1 : a ≤ 100000) : IntKind.i64.wrap a = a := by simp [IntKind.wrap, IntKind.bits, IntKind.signed]; omega
set_option maxRecDepth 100000 in
set_option maxHeartbeats 4000000 in
theorem planLink_is (L : Prs) (b rb mb : Nat) (xs : List Int) (vr : Value) (kd d n td tn vv c cv : Int) (w : World) (h : Looks w b rb mb L xs vr) (hrs : Rises L) (hn : L.length ≤ 1000) (hd : 0 ≤ d ∧ d ≤ 9) (hnm : 0 ≤ n ∧ n ≤ 5) (htd : 0 ≤ td ∧ td ≤ 9) (htn : 0 ≤ tn ∧ tn ≤ 5) (hc : 0 ≤ c ∧ c ≤ 9) (hcv : 0 ≤ cv ∧ cv ≤ 9999) (hx : xs.length ≤ 800) (r v : Int) (ys : List Int) (m : Nat) (W : List Int) (hp : linkP L td tn c cv xs = (r, v, ys, m, W)) :
    Calls Tryz.prog 117 #[.pointer (some ⟨b, 0, none⟩), .agg #[.int .i64 kd, .int .i64 d, .int .i64 n, .int .i64 td, .int .i64 tn, .int .i64 vv], .agg #[.int .i64 c, .int .i64 cv]] w (PlanEnd w b rb mb L vr r v ys m W) := by
  have hmb : mb < w.heap.size := h.2.2.1.lt
  have HC : Hid (Rises L ∧ (0 ≤ d ∧ d ≤ 9) ∧ (0 ≤ n ∧ n ≤ 5) ∧ (0 ≤ td ∧ td ≤ 9) ∧ (0 ≤ tn ∧ tn ≤ 5) ∧ (0 ≤ c ∧ c ≤ 9)) := ⟨hrs, hd, hnm, htd, htn, hc⟩
  have HK : Hid (Wk w b rb mb L vr kd d n td tn vv c cv xs vr (((w.alloc (opO kd d n td tn vv)).alloc (chO c cv)).alloc zeroPl)) := Wk.new h _ _ _ _ _ _ _ _
  have hit2 := fun a0 a1 a2 b0 b1 b2 w => run_items2 a0 a1 a2 b0 b1 b2 w
  obtain ⟨hv0, hv9⟩ := hcv
  clear h hrs hd hnm htd htn hc
  unfold linkP at hp
  by_cases h1 : cv = 1000
  · subst h1
    rw [if_pos rfl] at hp
    simp only [Prod.mk.injEq] at hp
    obtain ⟨rfl, rfl, rfl, rfl, rfl⟩ := hp
    go_enter Tryz.func117, Tryz.ntmps117
    go_wp2_with fail
    refine (childDir_is c 1000 _).mono ?_
    rintro e w1 ⟨rfl, q1⟩
    have H1 : Hid (Wk w b rb mb L vr kd d n td tn vv c 1000 xs vr w1) := HK.out.later q1
    clear q1 HK
    go_wp2_with fail
    refine (wrongIf_so 9 _).mono ?_
    rintro e w9 ⟨rfl, hw9⟩
    obtain rfl := hw9.symm
    exact ⟨rfl, vr, H1.out.1, Or.inr ⟨by decide, rfl, rfl, rfl, rfl⟩⟩
  have e1 : (cv == 1000) = false := beq_eq_false_iff_ne.2 h1
  rw [if_neg h1] at hp
  clear h1
  go_enter Tryz.func117, Tryz.ntmps117
  go_wp2_with fail
  refine (childDir_is c cv _).mono ?_
  rintro e w1 ⟨rfl, q1⟩
  have H1 : Hid (Wk w b rb mb L vr kd d n td tn vv c cv xs vr w1) := HK.out.later q1
  clear q1 HK
  obtain ⟨⟨⟨o0, o1, o2, o3, o4, o5⟩, _⟩, ⟨⟨o6, o7⟩, _⟩, _⟩ := H1.out.2.1
  rw [e1]
  go_wp2_with fail
  refine (wrongIf_no 9 _).mono ?_
  rintro e w9 ⟨rfl, hw9⟩
  obtain rfl := hw9.symm
  obtain ⟨tt, htq⟩ : ∃ tt, targetP L td tn xs = tt := ⟨_, rfl⟩
  rw [htq] at hp
  obtain ⟨t, zs⟩ := tt
  have HT : Hid (targetP L td tn xs = (t, zs)) := htq
  clear htq
  by_cases h0 : t = 0
  case neg =>
    rw [if_neg h0] at hp
    simp only [Prod.mk.injEq] at hp
    obtain ⟨rfl, rfl, rfl, rfl, rfl⟩ := hp
    have HN : Hid (t ≠ 0) := h0
    clear h0
    go_wp2_with fail
    refine (needFree_is L b rb mb xs vr td tn _ H1.out.1.1 HC.out.1 hn HC.out.2.2.2.1 HC.out.2.2.2.2.1 (by omega) _ _ HT.out).mono ?_
    rintro e w2 ⟨he, vz, l2, k2⟩
    have H2 : Hid (Wk w b rb mb L vr kd d n td tn vv c cv zs vz w2) := H1.out.keeps l2 k2
    clear l2 k2 H1 o0 o1 o2 o3 o4 o5 o6 o7
    rcases he with ⟨q, _⟩ | ⟨_, rfl⟩
    · exact absurd q HN.out
    exact ⟨rfl, vz, H2.out.1, Or.inr ⟨HN.out, rfl, rfl, rfl, rfl⟩⟩
  subst h0
  rw [if_pos rfl] at hp
  go_wp2_with fail
  refine (needFree_is L b rb mb xs vr td tn _ H1.out.1.1 HC.out.1 hn HC.out.2.2.2.1 HC.out.2.2.2.2.1 (by omega) _ _ HT.out).mono ?_
  rintro e w2 ⟨he, vz, l2, k2⟩
  have H2 : Hid (Wk w b rb mb L vr kd d n td tn vv c cv zs vz w2) := H1.out.keeps l2 k2
  clear l2 k2 H1 o0 o1 o2 o3 o4 o5 o6 o7
  rcases he with ⟨_, rfl⟩ | ⟨q, _⟩
  case inr => exact absurd rfl q
  obtain ⟨⟨⟨o0, o1, o2, o3, o4, o5⟩, _⟩, ⟨⟨o6, o7⟩, _⟩, _⟩ := H2.out.2.1
  by_cases h2 : 2099 ≤ cv
  · have e2 : decide (2099 ≤ cv) = true := decide_eq_true h2
    rw [if_pos h2] at hp
    simp only [Prod.mk.injEq] at hp
    obtain ⟨rfl, rfl, rfl, rfl, rfl⟩ := hp
    clear h2
    go_wp2_with fail
    refine (wrongIf_so 2 _).mono ?_
    rintro e w9 ⟨rfl, hw9⟩
    obtain rfl := hw9.symm
    exact ⟨rfl, vz, H2.out.1, Or.inr ⟨by decide, rfl, rfl, rfl, rfl⟩⟩
  have e2 : decide (2099 ≤ cv) = false := decide_eq_false h2
  rw [if_neg h2] at hp
  simp only [Prod.mk.injEq] at hp
  obtain ⟨rfl, rfl, rfl, rfl, rfl⟩ := hp
  clear h2
  go_wp2_with fail
  refine (wrongIf_no 2 _).mono ?_
  rintro e w9 ⟨rfl, hw9⟩
  obtain rfl := hw9.symm
  clear o0 o1 o2 o3 o4 o5 o6 o7
  have hwr : IntKind.i64.wrap (cv + 1) = cv + 1 := wrap_id (by omega) (by omega)
  go_upto_region 4 with fail
  refine wp_region_held_drew (S := Wk w b rb mb L vr kd d n td tn vv c cv zs vz) (by kernel_rfl) H2.out.drew (fun hS => ?_)
  refine tkH 0 ?_ hS (fun wx hx => ?_) ?_; rotate_left
  · obtain ⟨_, ⟨⟨⟨hx0, hx1, hx2, hx3, hx4, hx5⟩, _⟩, ⟨⟨hx6, hx7⟩, _⟩, _⟩, _⟩ := hx; go_simp; try with_reducible rfl
  refine tkH 1 ?_ hS (fun wx hx => ?_) ?_; rotate_left
  · obtain ⟨_, ⟨⟨⟨hx0, hx1, hx2, hx3, hx4, hx5⟩, _⟩, ⟨⟨hx6, hx7⟩, _⟩, _⟩, _⟩ := hx; go_simp; try with_reducible rfl
  refine tkH 3 ?_ hS (fun wx hx => ?_) ?_; rotate_left
  · obtain ⟨_, ⟨⟨⟨hx0, hx1, hx2, hx3, hx4, hx5⟩, _⟩, ⟨⟨hx6, hx7⟩, _⟩, _⟩, _⟩ := hx; go_simp; try with_reducible rfl
  refine tkH 4 ?_ hS (fun wx hx => ?_) ?_; rotate_left
  · obtain ⟨_, ⟨⟨⟨hx0, hx1, hx2, hx3, hx4, hx5⟩, _⟩, ⟨⟨hx6, hx7⟩, _⟩, _⟩, _⟩ := hx; go_simp; try with_reducible rfl
  refine tkH 5 ?_ hS (fun wx hx => ?_) ?_; rotate_left
  · obtain ⟨_, ⟨⟨⟨hx0, hx1, hx2, hx3, hx4, hx5⟩, _⟩, ⟨⟨hx6, hx7⟩, _⟩, _⟩, _⟩ := hx; go_simp; try with_reducible rfl
  refine tkH 7 ?_ hS (fun wx hx => ?_) ?_; rotate_left
  · obtain ⟨_, ⟨⟨⟨hx0, hx1, hx2, hx3, hx4, hx5⟩, _⟩, ⟨⟨hx6, hx7⟩, _⟩, _⟩, _⟩ := hx; go_simp; try with_reducible rfl
  refine tkH 8 ?_ hS (fun wx hx => ?_) ?_; rotate_left
  · obtain ⟨_, ⟨⟨⟨hx0, hx1, hx2, hx3, hx4, hx5⟩, _⟩, ⟨⟨hx6, hx7⟩, _⟩, _⟩, _⟩ := hx; go_simp; try with_reducible rfl
  refine tkH 9 ?_ hS (fun wx hx => ?_) ?_; rotate_left
  · obtain ⟨_, ⟨⟨⟨hx0, hx1, hx2, hx3, hx4, hx5⟩, _⟩, ⟨⟨hx6, hx7⟩, _⟩, _⟩, _⟩ := hx; go_simp; try with_reducible rfl
  refine tkH 10 ?_ hS (fun wx hx => ?_) ?_; rotate_left
  · obtain ⟨_, ⟨⟨⟨hx0, hx1, hx2, hx3, hx4, hx5⟩, _⟩, ⟨⟨hx6, hx7⟩, _⟩, _⟩, _⟩ := hx; go_simp; try with_reducible rfl
  refine tkH 12 ?_ hS (fun wx hx => ?_) ?_; rotate_left
  · obtain ⟨_, ⟨⟨⟨hx0, hx1, hx2, hx3, hx4, hx5⟩, _⟩, ⟨⟨hx6, hx7⟩, _⟩, _⟩, _⟩ := hx; go_simp; try with_reducible rfl
  refine tkH 13 ?_ hS (fun wx hx => ?_) ?_; rotate_left
  · obtain ⟨_, ⟨⟨⟨hx0, hx1, hx2, hx3, hx4, hx5⟩, _⟩, ⟨⟨hx6, hx7⟩, _⟩, _⟩, _⟩ := hx; go_simp; try with_reducible rfl
  refine rdH 2 (fun K hK => ?_)
  go_simp
  go_wp2_with fail
  refine (inodeKey_is c HC.out.2.2.2.2.2 _).mono ?_
  rintro e w3 ⟨rfl, q1⟩
  have hS1 := hS.later q1
  clear q1 hS
  go_wp2_with fail
  refine hK.out _ _ hS1 (fun hS => ?_)
  clear hK K
  clear hS1
  refine rdH 6 (fun K hK => ?_)
  go_simp
  go_wp2_with fail
  refine (putTo_is (kI c) (cv + 1) _).mono ?_
  rintro e w4 ⟨rfl, q1⟩
  have hS1 := hS.later q1
  clear q1 hS
  go_wp2_with fail
  refine hK.out _ _ hS1 (fun hS => ?_)
  clear hK K
  clear hS1
  refine rdH 11 (fun K hK => ?_)
  go_simp
  go_wp2_with fail
  refine (entryKey_is td tn HC.out.2.2.2.1 HC.out.2.2.2.2.1 _).mono ?_
  rintro e w5 ⟨rfl, q1⟩
  have hS1 := hS.later q1
  clear q1 hS
  go_wp2_with fail
  refine hK.out _ _ hS1 (fun hS => ?_)
  clear hK K
  clear hS1
  refine rdH 14 (fun K hK => ?_)
  go_simp
  go_wp2_with fail
  refine (putTo_is (kE td tn) c _).mono ?_
  rintro e w6 ⟨rfl, q1⟩
  have hS1 := hS.later q1
  clear q1 hS
  go_wp2_with fail
  refine hK.out _ _ hS1 (fun hS => ?_)
  clear hK K
  clear hS1
  refine rdH 15 (fun K hK => ?_)
  go_simp
  have HW : Hid (_ ∧ _) := hS.lit 2 [kI c, 1, cv + 1, kE td tn, 1, c] #[.int .i64 (kI c), .int .i64 1, .int .i64 (cv + 1), .int .i64 (kE td tn), .int .i64 1, .int .i64 c] (by simp) rfl (by omega)
  have hS4 := hS.alloc (.cells #[.int .i64 (kI c), .int .i64 1, .int .i64 (cv + 1), .int .i64 (kE td tn), .int .i64 1, .int .i64 c] 132)
  clear hS
  refine hK.out _ _ hS4 (fun hS => ?_)
  clear hK K
  clear hS4
  refine tkH 16 ?_ hS (fun wx hx => ?_) ?_; rotate_left
  · obtain ⟨_, ⟨⟨⟨hx0, hx1, hx2, hx3, hx4, hx5⟩, _⟩, ⟨⟨hx6, hx7⟩, _⟩, _⟩, _⟩ := hx; go_simp; try with_reducible rfl
  refine rdH 17 (fun K hK => ?_)
  refine step_storeP rfl _ _ rfl (w.heap.size + 2) _ _ _ _ _ rfl rfl hS.2.1.2.2 (by kernel_rfl) ?_
  have HS5 : Hid (Wk w b rb mb L vr kd d n td tn vv c cv zs vz _) := hS
  have hS5 := hS.rowed hmb #[.int .i64 0, .int .i64 0, .int .i64 0, .slice none 0 0, .slice (some ⟨w6.heap.size, 0, none⟩) 2 2] rfl
  clear hS
  refine hK.out _ _ hS5 (fun hS => ?_)
  clear hK K
  clear hS5
  refine wpAnyH_done (by kernel_rfl) ?_ _
  go_simp
  go_wp2
  exact bodyPost_ret (v := .agg #[.int .i64 0, .int .i64 0, .int .i64 0, .slice none 0 0, .slice (some ⟨w6.heap.size, 0, none⟩) 2 2]) (results_pl Tryz.results117 _ _ _ _ _ _ _ _ rfl HS5.out.2.1.2.2) rfl (HS5.out.told hmb 0 _ _ _ _ HW.out.1 HW.out.2 _ rfl)
/-- What stands while a new one is planned. -/
def Wn (w : World) (b rb mb : Nat) (L : Prs) (vr : Value) (kd d n td tn vv : Int) (xs : List Int) (vz : Value) (X : World) : Prop :=
  (Looks X b rb mb L xs vz ∧ Keeps w X b mb vr vz) ∧ (opB X w.heap.size kd d n td tn vv ∧ PBk X (w.heap.size + 1)) ∧ Off X b mb vz w.heap.size ∧ Off X b mb vz (w.heap.size + 1)
theorem Wn.keeps {w X X' : World} {b rb mb : Nat} {L : Prs} {vr vz vy : Value} {kd d n td tn vv : Int} {xs ys : List Int} (h : Wn w b rb mb L vr kd d n td tn vv xs vz X) (hl : Looks X' b rb mb L ys vy) (hk : Keeps X X' b mb vz vy) : Wn w b rb mb L vr kd d n td tn vv ys vy X' :=
  ⟨⟨hl, h.1.2.trans hk⟩, ⟨h.2.1.1.kept (hk.off h.2.2.1).2, h.2.1.2.kept (hk.off h.2.2.2).2⟩, (hk.off h.2.2.1).1, (hk.off h.2.2.2).1⟩
theorem Wn.later {w X X' : World} {b rb mb : Nat} {L : Prs} {vr vz : Value} {kd d n td tn vv : Int} {xs : List Int} (h : Wn w b rb mb L vr kd d n td tn vv xs vz X) (hb : Below X.heap.size X X') : Wn w b rb mb L vr kd d n td tn vv xs vz X' := h.keeps (h.1.1.later hb) (Keeps.below _ _ _ hb)
theorem Wn.drew {w X : World} {b rb mb : Nat} {L : Prs} {vr vz : Value} {kd d n td tn vv : Int} {xs : List Int} (h : Wn w b rb mb L vr kd d n td tn vv xs vz X) : Wn w b rb mb L vr kd d n td tn vv xs vz X.drew := h.later ⟨rfl, rfl, rfl, Nat.le_refl _, fun _ _ => rfl⟩
theorem Wn.alloc {w X : World} {b rb mb : Nat} {L : Prs} {vr vz : Value} {kd d n td tn vv : Int} {xs : List Int} (h : Wn w b rb mb L vr kd d n td tn vv xs vz X) (o : Obj) : Wn w b rb mb L vr kd d n td tn vv xs vz (X.alloc o) := h.later (below_alloc _ _)
theorem Wn.new {w : World} {b rb mb : Nat} {L : Prs} {vr : Value} {xs : List Int} (h : Looks w b rb mb L xs vr) (kd d n td tn vv : Int) : Wn w b rb mb L vr kd d n td tn vv xs vr ((w.alloc (opO kd d n td tn vv)).alloc zeroPl) := by
  refine ⟨⟨(h.alloc _).alloc _, Keeps.below _ _ _ ((below_alloc _ _).alloc (by simp) _)⟩, ⟨(Blk6.new w _ _ _ _ _ _ _).alloc _, ?_⟩, h.off2 (Nat.le_refl _) (by simp; omega), h.off2 (Nat.le_succ _) (by simp)⟩
  have q := PBk.new (w.alloc (opO kd d n td tn vv)) (.int .i64 0) (.int .i64 0) (.int .i64 0) (.slice none 0 0) (.slice none 0 0)
  rwa [World.size_alloc] at q
theorem Wn.rowed {w X : World} {b rb mb : Nat} {L : Prs} {vr vz : Value} {kd d n td tn vv : Int} {xs : List Int} (h : Wn w b rb mb L vr kd d n td tn vv xs vz X) (hmb : mb < w.heap.size) (cs : Array Value) (hcs : cs.size = 5) : Wn w b rb mb L vr kd d n td tn vv xs vz (X.setRow (w.heap.size + 1) cs) := by
  refine ⟨⟨h.1.1.offs h.2.2.2 (fun k hk => heap_setRow _ _ _ _ hk), h.1.2.offs (by rw [size_setRow]) (fun k hk => heap_setRow _ _ _ _ hk) ⟨rfl, rfl, rfl⟩ (by omega)⟩, ⟨h.2.1.1.kept (heap_setRow _ _ _ _ (by omega)), ?_⟩, ⟨by rw [size_setRow]; exact h.2.2.1.1, h.2.2.1.2⟩, ⟨by rw [size_setRow]; exact h.2.2.2.1, h.2.2.2.2⟩⟩
  obtain ⟨old, hg, _⟩ := h.2.1.2
  exact ⟨cs, by simp [World.setRow, Array.getElem?_modify, hg], hcs⟩
theorem Wn.told {w X : World} {b rb mb : Nat} {L : Prs} {vr vz : Value} {kd d n td tn vv : Int} {xs : List Int} (h : Wn w b rb mb L vr kd d n td tn vv xs vz X) (hmb : mb < w.heap.size) (v : Int) (vw : Value) (m : Nat) (W : List Int) (cs : Array Value) (ho : OwnM X (w.heap.size + 2) 132 3 vw m W) (hd : ∀ k, vz.ownBlock = some k → vw.ownBlock ≠ some k) (e : Ending) (he : e = .returned (.agg #[.int .i64 0, .int .i64 0, .int .i64 v, .slice none 0 0, vw])) : PlanEnd w b rb mb L vr 0 v xs m W e (X.setRow (w.heap.size + 1) cs) :=
  ⟨vz, ⟨h.1.1.offs h.2.2.2 (fun k hk => heap_setRow _ _ _ _ hk), h.1.2.offs (by rw [size_setRow]) (fun k hk => heap_setRow _ _ _ _ hk) ⟨rfl, rfl, rfl⟩ (by omega)⟩, Or.inl ⟨rfl, vw, he, OwnM.monoP (OwnM.kept ho fun g hg _ => heap_setRow _ _ _ _ (by omega)) (by omega), hd⟩⟩
theorem Wn.lit {w X : World} {b rb mb : Nat} {L : Prs} {vr vz : Value} {kd d n td tn vv : Int} {xs : List Int} (h : Wn w b rb mb L vr kd d n td tn vv xs vz X) (m : Nat) (W : List Int) (cs : Array Value) (hcs : cs = (W.map (Value.int .i64)).toArray) (hl : W.length = m * 3) (hm : m ≤ 1000) :
    OwnM (X.alloc (.cells cs 132)) (w.heap.size + 2) 132 3 (.slice (some ⟨X.heap.size, 0, none⟩) m m) m W ∧ ∀ k, vz.ownBlock = some k → (Value.slice (some ⟨X.heap.size, 0, none⟩) m m).ownBlock ≠ some k :=
  ⟨OwnM.monoP (OwnM.lit X 132 3 m W cs hcs hl (by unfold maxLen; omega)) (by have := h.2.1.2.lt; omega), fun k hk e => by have := (h.1.1.2.2.2.1.lt k hk).2; simp [Value.ownBlock] at e; omega⟩
theorem run_items3 (a0 a1 a2 b0 b1 b2 c0 c1 c2 : Int) (w : World) : (Instr.buildSlice 79 3 #[(0, .agg #[.int .i64 a0, .int .i64 a1, .int .i64 a2]), (1, .agg #[.int .i64 b0, .int .i64 b1, .int .i64 b2]), (2, .agg #[.int .i64 c0, .int .i64 c1, .int .i64 c2])]).run Tryz.prog w = .ok (.slice (some ⟨w.heap.size, 0, none⟩) 3 3) (w.alloc (.cells #[.int .i64 a0, .int .i64 a1, .int .i64 a2, .int .i64 b0, .int .i64 b1, .int .i64 b2, .int .i64 c0, .int .i64 c1, .int .i64 c2] 132)) := by
  first | kernel_rfl | rfl
set_option maxRecDepth 100000 in
set_option maxHeartbeats 4000000 in
theorem planNew_is (L : Prs) (b rb mb : Nat) (xs : List Int) (vr : Value) (kd d n td tn vv : Int) (w : World) (h : Looks w b rb mb L xs vr) (hrs : Rises L) (hn : L.length ≤ 1000) (hd : 0 ≤ d ∧ d ≤ 9) (hnm : 0 ≤ n ∧ n ≤ 5) (hkd : kd = 1 ∨ kd = 2) (hx : xs.length ≤ 900) (r v : Int) (ys : List Int) (m : Nat) (W : List Int) (hp : makeP L kd d n xs = (r, v, ys, m, W)) :
    Calls Tryz.prog 113 #[.pointer (some ⟨b, 0, none⟩), .agg #[.int .i64 kd, .int .i64 d, .int .i64 n, .int .i64 td, .int .i64 tn, .int .i64 vv]] w (PlanEnd w b rb mb L vr r v ys m W) := by
  have hmb : mb < w.heap.size := h.2.2.1.lt
  have HC : Hid (Rises L ∧ (0 ≤ d ∧ d ≤ 9) ∧ (0 ≤ n ∧ n ≤ 5)) := ⟨hrs, hd, hnm⟩
  have HK : Hid (Wn w b rb mb L vr kd d n td tn vv xs vr ((w.alloc (opO kd d n td tn vv)).alloc zeroPl)) := Wn.new h _ _ _ _ _ _
  have hit3 := fun a0 a1 a2 b0 b1 b2 c0 c1 c2 w => run_items3 a0 a1 a2 b0 b1 b2 c0 c1 c2 w
  have fs := fun h v w => field_sight1 h v w
  obtain ⟨s, hsq⟩ : ∃ s, lookF L 0 = s := ⟨_, rfl⟩
  obtain ⟨sh, sz⟩ := s
  have HL : Hid (lookF L 0 = (sh, sz)) := hsq
  unfold makeP at hp
  rw [hsq] at hp
  clear h hrs hd hnm hsq
  by_cases h1 : 1 ≤ sz ∧ sz ≤ 9
  case neg =>
    rw [if_neg h1] at hp
    simp only [Prod.mk.injEq] at hp
    obtain ⟨rfl, rfl, rfl, rfl, rfl⟩ := hp
    by_cases h2 : sz < 1
    focus
      have d1 : decide (sz < 1) = true := decide_eq_true h2
    rotate_left
    focus
      have d1 : decide (sz < 1) = false := decide_eq_false h2
      have d2 : decide (9 < sz) = true := decide_eq_true (by omega)
    rotate_left
    all_goals
      clear h1 h2 hkd
      go_enter Tryz.func113, Tryz.ntmps113
      go_wp2_with fail
      refine (nextKey_is _).mono ?_
      rintro e w1 ⟨rfl, q1⟩
      have H1 : Hid (Wn w b rb mb L vr kd d n td tn vv xs vr w1) := HK.out.later q1
      clear q1 HK
      go_wp2_with fail
      refine (look_is L b rb mb xs vr 0 _ H1.out.1.1 HC.out.1 hn (by omega) (by omega)).mono ?_
      rintro e w2 ⟨rfl, vz, l2, k2⟩
      have H2 : Hid (Wn w b rb mb L vr kd d n td tn vv (addR xs 0) vz w2) := H1.out.keeps l2 k2
      clear l2 k2 H1
      rw [HL.out]
      go_wp2_with fail
      refine (wrongIf_so 2 _).mono ?_
      rintro e w9 ⟨rfl, hw9⟩
      obtain rfl := hw9.symm
      exact ⟨rfl, vz, H2.out.1, Or.inr ⟨by decide, rfl, rfl, rfl, rfl⟩⟩
  rw [if_pos h1] at hp
  simp only [Prod.mk.injEq] at hp
  obtain ⟨rfl, rfl, rfl, rfl, rfl⟩ := hp
  have HZ : Hid (0 ≤ sz ∧ sz ≤ 9) := ⟨by omega, h1.2⟩
  have h8 := h1.1
  have h9 := h1.2
  have d1 : decide (sz < 1) = false := decide_eq_false (by omega)
  have d2 : decide (9 < sz) = false := decide_eq_false (by omega)
  clear h1
  rcases hkd with rfl | rfl
  focus
    rw [if_pos rfl]
    go_enter Tryz.func113, Tryz.ntmps113
    go_wp2_with fail
    refine (nextKey_is _).mono ?_
    rintro e w1 ⟨rfl, q1⟩
    have H1 : Hid (Wn w b rb mb L vr 1 d n td tn vv xs vr w1) := HK.out.later q1
    clear q1 HK
    go_wp2_with fail
    refine (look_is L b rb mb xs vr 0 _ H1.out.1.1 HC.out.1 hn (by omega) (by omega)).mono ?_
    rintro e w2 ⟨rfl, vz, l2, k2⟩
    have H2 : Hid (Wn w b rb mb L vr 1 d n td tn vv (addR xs 0) vz w2) := H1.out.keeps l2 k2
    clear l2 k2 H1
    rw [HL.out]
    go_wp2_with fail
    refine (wrongIf_no 2 _).mono ?_
    rintro e w9 ⟨rfl, hw9⟩
    obtain rfl := hw9.symm
    obtain ⟨⟨o0, o1, o2, o3, o4, o5⟩, _⟩ := H2.out.2.1.1
    have hwr : IntKind.i64.wrap (sz + 1) = sz + 1 := wrap_id (by omega) (by omega)
    go_upto_region 6 with fail
    refine wp_region_held_drew (S := Wn w b rb mb L vr 1 d n td tn vv (addR xs 0) vz) (by kernel_rfl) H2.out.drew (fun hS => ?_)
    refine tkH 0 ?_ hS (fun wx hx => ?_) ?_; rotate_left
    · obtain ⟨_, ⟨⟨⟨hx0, hx1, hx2, hx3, hx4, hx5⟩, _⟩, _⟩, _⟩ := hx; go_simp; try with_reducible rfl
    refine tkH 2 ?_ hS (fun wx hx => ?_) ?_; rotate_left
    · obtain ⟨_, ⟨⟨⟨hx0, hx1, hx2, hx3, hx4, hx5⟩, _⟩, _⟩, _⟩ := hx; go_simp; try with_reducible rfl
    refine tkH 3 ?_ hS (fun wx hx => ?_) ?_; rotate_left
    · obtain ⟨_, ⟨⟨⟨hx0, hx1, hx2, hx3, hx4, hx5⟩, _⟩, _⟩, _⟩ := hx; go_simp; try with_reducible rfl
    refine tkH 5 ?_ hS (fun wx hx => ?_) ?_; rotate_left
    · obtain ⟨_, ⟨⟨⟨hx0, hx1, hx2, hx3, hx4, hx5⟩, _⟩, _⟩, _⟩ := hx; go_simp; try with_reducible rfl
    refine tkH 7 ?_ hS (fun wx hx => ?_) ?_; rotate_left
    · obtain ⟨_, ⟨⟨⟨hx0, hx1, hx2, hx3, hx4, hx5⟩, _⟩, _⟩, _⟩ := hx; go_simp; try with_reducible rfl
    refine tkH 9 ?_ hS (fun wx hx => ?_) ?_; rotate_left
    · obtain ⟨_, ⟨⟨⟨hx0, hx1, hx2, hx3, hx4, hx5⟩, _⟩, _⟩, _⟩ := hx; go_simp; try with_reducible rfl
    refine tkH 10 ?_ hS (fun wx hx => ?_) ?_; rotate_left
    · obtain ⟨_, ⟨⟨⟨hx0, hx1, hx2, hx3, hx4, hx5⟩, _⟩, _⟩, _⟩ := hx; go_simp; try with_reducible rfl
    refine tkH 11 ?_ hS (fun wx hx => ?_) ?_; rotate_left
    · obtain ⟨_, ⟨⟨⟨hx0, hx1, hx2, hx3, hx4, hx5⟩, _⟩, _⟩, _⟩ := hx; go_simp; try with_reducible rfl
    refine tkH 12 ?_ hS (fun wx hx => ?_) ?_; rotate_left
    · obtain ⟨_, ⟨⟨⟨hx0, hx1, hx2, hx3, hx4, hx5⟩, _⟩, _⟩, _⟩ := hx; go_simp; try with_reducible rfl
    refine tkH 14 ?_ hS (fun wx hx => ?_) ?_; rotate_left
    · obtain ⟨_, ⟨⟨⟨hx0, hx1, hx2, hx3, hx4, hx5⟩, _⟩, _⟩, _⟩ := hx; go_simp; try with_reducible rfl
    refine rdH 1 (fun K hK => ?_)
    go_simp
    go_wp2_with fail
    refine (nextKey_is  _).mono ?_
    rintro e w3 ⟨rfl, q1⟩
    have hS1 := hS.later q1
    clear q1 hS
    go_wp2_with fail
    refine hK.out _ _ hS1 (fun hS => ?_)
    clear hK K
    clear hS1
    refine rdH 4 (fun K hK => ?_)
    go_simp
    go_wp2_with fail
    refine (putTo_is 0 (sz + 1) _).mono ?_
    rintro e w4 ⟨rfl, q1⟩
    have hS1 := hS.later q1
    clear q1 hS
    go_wp2_with fail
    refine hK.out _ _ hS1 (fun hS => ?_)
    clear hK K
    clear hS1
    refine rdH 6 (fun K hK => ?_)
    go_simp
    go_wp2_with fail
    refine (inodeKey_is sz HZ.out _).mono ?_
    rintro e w5 ⟨rfl, q1⟩
    have hS1 := hS.later q1
    clear q1 hS
    go_wp2_with fail
    refine hK.out _ _ hS1 (fun hS => ?_)
    clear hK K
    clear hS1
    refine rdH 8 (fun K hK => ?_)
    go_simp
    go_wp2_with fail
    refine (putTo_is (kI sz) 2001 _).mono ?_
    rintro e w6 ⟨rfl, q1⟩
    have hS1 := hS.later q1
    clear q1 hS
    go_wp2_with fail
    refine hK.out _ _ hS1 (fun hS => ?_)
    clear hK K
    clear hS1
    refine rdH 13 (fun K hK => ?_)
    go_simp
    go_wp2_with fail
    refine (entryKey_is d n HC.out.2.1 HC.out.2.2 _).mono ?_
    rintro e w7 ⟨rfl, q1⟩
    have hS1 := hS.later q1
    clear q1 hS
    go_wp2_with fail
    refine hK.out _ _ hS1 (fun hS => ?_)
    clear hK K
    clear hS1
    refine rdH 15 (fun K hK => ?_)
    go_simp
    go_wp2_with fail
    refine (putTo_is (kE d n) sz _).mono ?_
    rintro e w8 ⟨rfl, q1⟩
    have hS1 := hS.later q1
    clear q1 hS
    go_wp2_with fail
    refine hK.out _ _ hS1 (fun hS => ?_)
    clear hK K
    clear hS1
    refine rdH 16 (fun K hK => ?_)
    go_simp
    have HW : Hid (_ ∧ _) := hS.lit 3 [0, 1, sz + 1, kI sz, 1, 2001, kE d n, 1, sz] #[.int .i64 0, .int .i64 1, .int .i64 (sz + 1), .int .i64 (kI sz), .int .i64 1, .int .i64 2001, .int .i64 (kE d n), .int .i64 1, .int .i64 sz] (by simp) rfl (by omega)
    have hS4 := hS.alloc (.cells #[.int .i64 0, .int .i64 1, .int .i64 (sz + 1), .int .i64 (kI sz), .int .i64 1, .int .i64 2001, .int .i64 (kE d n), .int .i64 1, .int .i64 sz] 132)
    clear hS
    refine hK.out _ _ hS4 (fun hS => ?_)
    clear hK K
    clear hS4
    refine tkH 17 ?_ hS (fun wx hx => ?_) ?_; rotate_left
    · obtain ⟨_, ⟨⟨⟨hx0, hx1, hx2, hx3, hx4, hx5⟩, _⟩, _⟩, _⟩ := hx; go_simp; try with_reducible rfl
    refine rdH 18 (fun K hK => ?_)
    refine step_storeP rfl _ _ rfl (w.heap.size + 1) _ _ _ _ _ rfl rfl hS.2.1.2 (by kernel_rfl) ?_
    have HS5 : Hid (Wn w b rb mb L vr 1 d n td tn vv (addR xs 0) vz _) := hS
  rotate_left
  focus
    rw [if_neg (show ¬ ((2 : Int) = 1) by omega)]
    go_enter Tryz.func113, Tryz.ntmps113
    go_wp2_with fail
    refine (nextKey_is _).mono ?_
    rintro e w1 ⟨rfl, q1⟩
    have H1 : Hid (Wn w b rb mb L vr 2 d n td tn vv xs vr w1) := HK.out.later q1
    clear q1 HK
    go_wp2_with fail
    refine (look_is L b rb mb xs vr 0 _ H1.out.1.1 HC.out.1 hn (by omega) (by omega)).mono ?_
    rintro e w2 ⟨rfl, vz, l2, k2⟩
    have H2 : Hid (Wn w b rb mb L vr 2 d n td tn vv (addR xs 0) vz w2) := H1.out.keeps l2 k2
    clear l2 k2 H1
    rw [HL.out]
    go_wp2_with fail
    refine (wrongIf_no 2 _).mono ?_
    rintro e w9 ⟨rfl, hw9⟩
    obtain rfl := hw9.symm
    obtain ⟨⟨o0, o1, o2, o3, o4, o5⟩, _⟩ := H2.out.2.1.1
    have hwr : IntKind.i64.wrap (sz + 1) = sz + 1 := wrap_id (by omega) (by omega)
    go_upto_region 6 with fail
    refine wp_region_held_drew (S := Wn w b rb mb L vr 2 d n td tn vv (addR xs 0) vz) (by kernel_rfl) H2.out.drew (fun hS => ?_)
    refine tkH 0 ?_ hS (fun wx hx => ?_) ?_; rotate_left
    · obtain ⟨_, ⟨⟨⟨hx0, hx1, hx2, hx3, hx4, hx5⟩, _⟩, _⟩, _⟩ := hx; go_simp; try with_reducible rfl
    refine tkH 2 ?_ hS (fun wx hx => ?_) ?_; rotate_left
    · obtain ⟨_, ⟨⟨⟨hx0, hx1, hx2, hx3, hx4, hx5⟩, _⟩, _⟩, _⟩ := hx; go_simp; try with_reducible rfl
    refine tkH 3 ?_ hS (fun wx hx => ?_) ?_; rotate_left
    · obtain ⟨_, ⟨⟨⟨hx0, hx1, hx2, hx3, hx4, hx5⟩, _⟩, _⟩, _⟩ := hx; go_simp; try with_reducible rfl
    refine tkH 5 ?_ hS (fun wx hx => ?_) ?_; rotate_left
    · obtain ⟨_, ⟨⟨⟨hx0, hx1, hx2, hx3, hx4, hx5⟩, _⟩, _⟩, _⟩ := hx; go_simp; try with_reducible rfl
    refine tkH 7 ?_ hS (fun wx hx => ?_) ?_; rotate_left
    · obtain ⟨_, ⟨⟨⟨hx0, hx1, hx2, hx3, hx4, hx5⟩, _⟩, _⟩, _⟩ := hx; go_simp; try with_reducible rfl
    refine tkH 9 ?_ hS (fun wx hx => ?_) ?_; rotate_left
    · obtain ⟨_, ⟨⟨⟨hx0, hx1, hx2, hx3, hx4, hx5⟩, _⟩, _⟩, _⟩ := hx; go_simp; try with_reducible rfl
    refine tkH 10 ?_ hS (fun wx hx => ?_) ?_; rotate_left
    · obtain ⟨_, ⟨⟨⟨hx0, hx1, hx2, hx3, hx4, hx5⟩, _⟩, _⟩, _⟩ := hx; go_simp; try with_reducible rfl
    refine tkH 11 ?_ hS (fun wx hx => ?_) ?_; rotate_left
    · obtain ⟨_, ⟨⟨⟨hx0, hx1, hx2, hx3, hx4, hx5⟩, _⟩, _⟩, _⟩ := hx; go_simp; try with_reducible rfl
    refine tkH 12 ?_ hS (fun wx hx => ?_) ?_; rotate_left
    · obtain ⟨_, ⟨⟨⟨hx0, hx1, hx2, hx3, hx4, hx5⟩, _⟩, _⟩, _⟩ := hx; go_simp; try with_reducible rfl
    refine tkH 14 ?_ hS (fun wx hx => ?_) ?_; rotate_left
    · obtain ⟨_, ⟨⟨⟨hx0, hx1, hx2, hx3, hx4, hx5⟩, _⟩, _⟩, _⟩ := hx; go_simp; try with_reducible rfl
    refine rdH 1 (fun K hK => ?_)
    go_simp
    go_wp2_with fail
    refine (nextKey_is  _).mono ?_
    rintro e w3 ⟨rfl, q1⟩
    have hS1 := hS.later q1
    clear q1 hS
    go_wp2_with fail
    refine hK.out _ _ hS1 (fun hS => ?_)
    clear hK K
    clear hS1
    refine rdH 4 (fun K hK => ?_)
    go_simp
    go_wp2_with fail
    refine (putTo_is 0 (sz + 1) _).mono ?_
    rintro e w4 ⟨rfl, q1⟩
    have hS1 := hS.later q1
    clear q1 hS
    go_wp2_with fail
    refine hK.out _ _ hS1 (fun hS => ?_)
    clear hK K
    clear hS1
    refine rdH 6 (fun K hK => ?_)
    go_simp
    go_wp2_with fail
    refine (inodeKey_is sz HZ.out _).mono ?_
    rintro e w5 ⟨rfl, q1⟩
    have hS1 := hS.later q1
    clear q1 hS
    go_wp2_with fail
    refine hK.out _ _ hS1 (fun hS => ?_)
    clear hK K
    clear hS1
    refine rdH 8 (fun K hK => ?_)
    go_simp
    go_wp2_with fail
    refine (putTo_is (kI sz) 1000 _).mono ?_
    rintro e w6 ⟨rfl, q1⟩
    have hS1 := hS.later q1
    clear q1 hS
    go_wp2_with fail
    refine hK.out _ _ hS1 (fun hS => ?_)
    clear hK K
    clear hS1
    refine rdH 13 (fun K hK => ?_)
    go_simp
    go_wp2_with fail
    refine (entryKey_is d n HC.out.2.1 HC.out.2.2 _).mono ?_
    rintro e w7 ⟨rfl, q1⟩
    have hS1 := hS.later q1
    clear q1 hS
    go_wp2_with fail
    refine hK.out _ _ hS1 (fun hS => ?_)
    clear hK K
    clear hS1
    refine rdH 15 (fun K hK => ?_)
    go_simp
    go_wp2_with fail
    refine (putTo_is (kE d n) sz _).mono ?_
    rintro e w8 ⟨rfl, q1⟩
    have hS1 := hS.later q1
    clear q1 hS
    go_wp2_with fail
    refine hK.out _ _ hS1 (fun hS => ?_)
    clear hK K
    clear hS1
    refine rdH 16 (fun K hK => ?_)
    go_simp
    have HW : Hid (_ ∧ _) := hS.lit 3 [0, 1, sz + 1, kI sz, 1, 1000, kE d n, 1, sz] #[.int .i64 0, .int .i64 1, .int .i64 (sz + 1), .int .i64 (kI sz), .int .i64 1, .int .i64 1000, .int .i64 (kE d n), .int .i64 1, .int .i64 sz] (by simp) rfl (by omega)
    have hS4 := hS.alloc (.cells #[.int .i64 0, .int .i64 1, .int .i64 (sz + 1), .int .i64 (kI sz), .int .i64 1, .int .i64 1000, .int .i64 (kE d n), .int .i64 1, .int .i64 sz] 132)
    clear hS
    refine hK.out _ _ hS4 (fun hS => ?_)
    clear hK K
    clear hS4
    refine tkH 17 ?_ hS (fun wx hx => ?_) ?_; rotate_left
    · obtain ⟨_, ⟨⟨⟨hx0, hx1, hx2, hx3, hx4, hx5⟩, _⟩, _⟩, _⟩ := hx; go_simp; try with_reducible rfl
    refine rdH 18 (fun K hK => ?_)
    refine step_storeP rfl _ _ rfl (w.heap.size + 1) _ _ _ _ _ rfl rfl hS.2.1.2 (by kernel_rfl) ?_
    have HS5 : Hid (Wn w b rb mb L vr 2 d n td tn vv (addR xs 0) vz _) := hS
  rotate_left
  all_goals
    have hS5 := hS.rowed hmb #[.int .i64 0, .int .i64 0, .int .i64 sz, .slice none 0 0, .slice (some ⟨w8.heap.size, 0, none⟩) 3 3] rfl
    clear hS
    refine hK.out _ _ hS5 (fun hS => ?_)
    clear hK K
    clear hS5
    refine wpAnyH_done (by kernel_rfl) ?_ _
    go_simp
    go_wp2
    exact bodyPost_ret (v := .agg #[.int .i64 0, .int .i64 0, .int .i64 sz, .slice none 0 0, .slice (some ⟨w8.heap.size, 0, none⟩) 3 3]) (results_pl Tryz.results113 _ _ _ _ _ _ _ _ rfl HS5.out.2.1.2) rfl (HS5.out.told hmb sz _ _ _ _ HW.out.1 HW.out.2 _ rfl)
end Go.Proofs.YtnchaccgenfhoaaGreat

