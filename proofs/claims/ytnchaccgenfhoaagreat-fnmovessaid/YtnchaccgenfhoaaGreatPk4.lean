/-
  Own text, merged of FsQ, FsR, FsS, FsT, FsU, FsV.
-/
import Derived.Test.YtnchaccgenfhoaaGreatPk3
namespace Go.Proofs.YtnchaccgenfhoaaGreat
open Go.RowKit

/-- What is raised for a reply. -/
def wrongs (r : Int) : List PanicEntry := [{ v := .iface 146 (.int .i64 r), recovered := false }]
set_option maxHeartbeats 400000 in
theorem wrongIf_no (r : Int) (w : World) : Calls Tryz.prog 112 #[.bool false, .int .i64 r] w fun e w' => e = .returned (.tuple #[]) ∧ w' = w := by
  go_enter Tryz.func112, Tryz.ntmps112
  go_wp2
  go_end0
  exact ⟨rfl, rfl⟩
set_option maxHeartbeats 400000 in
theorem wrongIf_so (r : Int) (w : World) : Calls Tryz.prog 112 #[.bool true, .int .i64 r] w fun e w' => e = .panicked (wrongs r) ∧ w' = w := by
  go_enter Tryz.func112, Tryz.ntmps112
  go_wp2
  exact ⟨rfl, rfl, rfl⟩
/-- How a helper that answers nothing ends: r is 0, or it is raised. -/
def VoidAns (w : World) (b rb mb : Nat) (L : Prs) (vr : Value) (r : Int) (ys : List Int) (e : Ending) (w' : World) : Prop :=
  ((r = 0 ∧ e = .returned (.tuple #[])) ∨ (r ≠ 0 ∧ e = .panicked (wrongs r))) ∧ ∃ vr', Looks w' b rb mb L ys vr' ∧ Keeps w w' b mb vr vr'
set_option maxRecDepth 100000 in
set_option maxHeartbeats 2000000 in
theorem needFree_is (L : Prs) (b rb mb : Nat) (xs : List Int) (vr : Value) (td tn : Int) (w : World) (h : Looks w b rb mb L xs vr) (hrs : Rises L) (hn : L.length ≤ 1000) (hd : 0 ≤ td ∧ td ≤ 9) (ht : 0 ≤ tn ∧ tn ≤ 5) (hx : xs.length ≤ 900) (r : Int) (ys : List Int) (hp : targetP L td tn xs = (r, ys)) :
    Calls Tryz.prog 132 #[.pointer (some ⟨b, 0, none⟩), .int .i64 td, .int .i64 tn] w (VoidAns w b rb mb L vr r ys) := by
  have H : Hid (Rises L ∧ (0 ≤ td ∧ td ≤ 9) ∧ (0 ≤ tn ∧ tn ≤ 5)) := ⟨hrs, hd, ht⟩
  have H0 : Hid (Looks w b rb mb L xs vr ∧ Keeps w w b mb vr vr) := ⟨h, Keeps.below _ _ _ (Below.refl _ _)⟩
  have hlen := addR_len xs (kI td)
  have fs := fun h v w => field_sight0 h v w
  unfold targetP at hp
  clear h hrs hd ht
  cases hdq : dirB L td with
  | false =>
    rw [hdq] at hp
    simp only [Bool.false_eq_true, if_false, Prod.mk.injEq] at hp
    obtain ⟨rfl, rfl⟩ := hp
    have HD : Hid (dirB L td = false) := hdq
    clear hdq
    go_enter Tryz.func132, Tryz.ntmps132
    go_wp2_with fail
    refine (isDir_is L b rb mb xs vr td _ H0.out.1 H.out.1 hn H.out.2.1 (by omega)).mono ?_
    rintro e w1 ⟨rfl, vr1, l1, k1⟩
    have H1 : Hid (Looks w1 b rb mb L (addR xs (kI td)) vr1 ∧ Keeps w w1 b mb vr vr1) := ⟨l1, k1⟩
    clear l1 k1
    rw [HD.out]
    go_wp2_with fail
    refine (wrongIf_so 9 _).mono ?_
    rintro e w9 ⟨rfl, hw9⟩
    obtain rfl := hw9.symm
    exact ⟨rfl, Or.inr ⟨by decide, rfl⟩, vr1, H1.out.1, H1.out.2⟩
  | true =>
    rw [hdq] at hp
    simp only [if_true, Prod.mk.injEq] at hp
    obtain ⟨hr, rfl⟩ := hp
    have HD : Hid (dirB L td = true) := hdq
    obtain ⟨t, htq⟩ : ∃ t, lookF L (kE td tn) = t := ⟨_, rfl⟩
    obtain ⟨th, tz⟩ := t
    have HT : Hid (lookF L (kE td tn) = (th, tz)) := htq
    rw [htq] at hr
    have HR : Hid ((if th = true then (6 : Int) else 0) = r) := hr
    clear hdq htq hr
    go_enter Tryz.func132, Tryz.ntmps132
    go_wp2_with fail
    refine (isDir_is L b rb mb xs vr td _ H0.out.1 H.out.1 hn H.out.2.1 (by omega)).mono ?_
    rintro e w1 ⟨rfl, vr1, l1, k1⟩
    have H1 : Hid (Looks w1 b rb mb L (addR xs (kI td)) vr1 ∧ Keeps w w1 b mb vr vr1) := ⟨l1, k1⟩
    clear l1 k1
    rw [HD.out]
    go_wp2_with fail
    refine (wrongIf_no 9 _).mono ?_
    rintro e w9 ⟨rfl, hw9⟩
    obtain rfl := hw9.symm
    go_wp2_with fail
    refine (entryKey_is td tn H.out.2.1 H.out.2.2 _).mono ?_
    rintro e w2 ⟨rfl, q1⟩
    have H2 : Hid (Looks w2 b rb mb L _ _ ∧ Keeps w w2 b mb vr _) := ⟨H1.out.1.later q1, H1.out.2.trans (Keeps.below _ _ _ q1)⟩
    clear q1
    go_wp2_with fail
    refine (look_is L b rb mb _ vr1 (kE td tn) _ H2.out.1 H.out.1 hn (by have := H.out.2; unfold kE; omega) (by omega)).mono ?_
    rintro e w3 ⟨rfl, vr3, l3, k3⟩
    have H3 : Hid (Looks w3 b rb mb L (addR (addR xs (kI td)) (kE td tn)) vr3 ∧ Keeps w w3 b mb vr vr3) := ⟨l3, H2.out.2.trans k3⟩
    clear l3 k3 H1 H2
    rw [HT.out]
    cases th with
    | true =>
      obtain rfl : (6 : Int) = r := HR.out
      go_wp2_with fail
      refine (wrongIf_so 6 _).mono ?_
      rintro e w9 ⟨rfl, hw9⟩
      obtain rfl := hw9.symm
      exact ⟨rfl, Or.inr ⟨by decide, rfl⟩, vr3, H3.out.1, H3.out.2⟩
    | false =>
      obtain rfl : (0 : Int) = r := HR.out
      go_wp2_with fail
      refine (wrongIf_no 6 _).mono ?_
      rintro e w9 ⟨rfl, hw9⟩
      obtain rfl := hw9.symm
      go_wp2
      go_end0
      exact ⟨Or.inl ⟨rfl, rfl⟩, vr3, H3.out.1, H3.out.2⟩
set_option maxRecDepth 100000 in
set_option maxHeartbeats 2000000 in
theorem needEmpty_is (L : Prs) (b rb mb : Nat) (xs : List Int) (vr : Value) (c : Int) (w : World) (h : Looks w b rb mb L xs vr) (hrs : Rises L) (hn : L.length ≤ 1000) (hc : 0 ≤ c ∧ c ≤ 9) (hx : xs.length ≤ 900) (t : Bool) (ys : List Int) (r : Int) (hp : emptyP L c 6 0 xs = (t, ys)) (hr : (if t = true then (0 : Int) else 1) = r) :
    Calls Tryz.prog 131 #[.pointer (some ⟨b, 0, none⟩), .int .i64 c] w (VoidAns w b rb mb L vr r ys) := by
  have HP : Hid (emptyP L c 6 0 xs = (t, ys) ∧ (if t = true then (0 : Int) else 1) = r) := ⟨hp, hr⟩
  clear hp hr
  have H : Hid (Rises L ∧ (0 ≤ c ∧ c ≤ 9)) := ⟨hrs, hc⟩
  have H0 : Hid (Looks w b rb mb L xs vr ∧ Keeps w w b mb vr vr) := ⟨h, Keeps.below _ _ _ (Below.refl _ _)⟩
  have fs := fun h v w => field_sight0 h v w
  clear h hrs hc
  go_enter Tryz.func131, Tryz.ntmps131
  go_wp2
  go_loopw [5] (fun i wr => ∃ k : Nat, k ≤ 6 ∧ i = .int .i64 k ∧ ∃ zs vz, Hid ((Looks wr b rb mb L zs vz ∧ Keeps w wr b mb vr vz) ∧ emptyP L c 6 0 xs = emptyP L c (6 - k) k zs ∧ zs.length ≤ xs.length + k)) (fun i _ => 6 - (intOf i).toNat)
  case atStart => exact ⟨0, by omega, rfl, xs, vr, H0.out, rfl, by omega⟩
  case round =>
    obtain ⟨k, hk, rfl, zs, vz, HZ⟩ := hrel
    by_cases hlt : k < 6
    · have hzl := HZ.out.2.2
      have H1 : Hid (Looks wr b rb mb L zs vz ∧ Keeps w wr b mb vr vz) := HZ.out.1
      obtain ⟨t, htq⟩ : ∃ t, lookF L (kE c k) = t := ⟨_, rfl⟩
      obtain ⟨th, tz⟩ := t
      have HT : Hid (lookF L (kE c k) = (th, tz)) := htq
      have HE : Hid (emptyP L c (6 - k) k zs = if th = true then (false, addR zs (kE c k)) else emptyP L c (6 - (k + 1)) ((k + 1 : Nat) : Int) (addR zs (kE c k))) := by
        unfold Hid
        rw [show 6 - k = (6 - (k + 1)) + 1 by omega, emptyP, htq]
        simp
      have hza := addR_len zs (kE c k)
      clear htq
      go_wp2_with fail
      refine (entryKey_is c k H.out.2 (by omega) _).mono ?_
      rintro e w2 ⟨rfl, q1⟩
      have H2 : Hid (Looks w2 b rb mb L _ _ ∧ Keeps w w2 b mb vr _) := ⟨H1.out.1.later q1, H1.out.2.trans (Keeps.below _ _ _ q1)⟩
      clear q1
      go_wp2_with fail
      refine (look_is L b rb mb zs vz (kE c k) _ H2.out.1 H.out.1 hn (by have := H.out.2; unfold kE; omega) (by omega)).mono ?_
      rintro e w3 ⟨rfl, vr3, l3, k3⟩
      have H3 : Hid (Looks w3 b rb mb L (addR zs (kE c k)) vr3 ∧ Keeps w w3 b mb vr vr3) := ⟨l3, H2.out.2.trans k3⟩
      clear l3 k3 H1 H2
      rw [HT.out]
      cases th with
      | true =>
        have HEE : Hid (emptyP L c 6 0 xs = (false, addR zs (kE c k))) := HZ.out.2.1.trans HE.out
        go_wp2_with fail
        refine (wrongIf_so 1 _).mono ?_
        rintro e w9 ⟨rfl, hw9⟩
        obtain rfl := hw9.symm
        obtain ⟨hp, hr⟩ := HP.out
        rw [HEE.out] at hp
        simp only [Prod.mk.injEq] at hp
        obtain ⟨rfl, rfl⟩ := hp
        obtain rfl : (1 : Int) = r := hr
        exact ⟨rfl, Or.inr ⟨by decide, rfl⟩, vr3, H3.out.1, H3.out.2⟩
      | false =>
        have HEE : Hid (emptyP L c 6 0 xs = emptyP L c (6 - (k + 1)) ((k + 1 : Nat) : Int) (addR zs (kE c k))) := HZ.out.2.1.trans HE.out
        go_wp2_with fail
        refine (wrongIf_no 1 _).mono ?_
        rintro e w9 ⟨rfl, hw9⟩
        obtain rfl := hw9.symm
        clear HE HT HZ
        go_wp2
        go_roundw
        case rel => exact ⟨k + 1, by omega, by go_num, _, vr3, H3.out, HEE.out, by omega⟩
        case measure => simp [intOf]; omega
    · obtain rfl : k = 6 := by omega
      have HEE : Hid (emptyP L c 6 0 xs = (true, zs)) := HZ.out.2.1
      go_wp2
      go_end0
      obtain ⟨hp, hr⟩ := HP.out
      rw [HEE.out] at hp
      simp only [Prod.mk.injEq] at hp
      obtain ⟨rfl, rfl⟩ := hp
      obtain rfl : (0 : Int) = r := hr
      exact ⟨Or.inl ⟨rfl, rfl⟩, vz, HZ.out.1.1, HZ.out.1.2⟩
theorem run_min9 (a : Int) (w : World) : (Builtin.min_ #[2, 2] 2 #[.int .i64 a, .int .i64 9]).run Tryz.prog w = .ok (.int .i64 (minC a)) w := by
  have e : (if (9 : Int) < a then (9 : Int) else a) = minC a := by unfold minC; split <;> split <;> omega
  rw [← e]
  rfl
set_option maxHeartbeats 400000 in
theorem childDir_is (c cv : Int) (w : World) : Calls Tryz.prog 130 #[.agg #[.int .i64 c, .int .i64 cv]] w fun e w' => e = .returned (.bool (cv == 1000)) ∧ Below w.heap.size w w' := by
  go_enter Tryz.func130, Tryz.ntmps130
  go_wp2
  go_ret
  exact ⟨rfl, below_alloc _ _⟩
set_option maxHeartbeats 400000 in
theorem deleteOf_is (k : Int) (w : World) : Calls Tryz.prog 129 #[.int .i64 k] w fun e w' => e = .returned (.agg #[.int .i64 k, .int .i64 2, .int .i64 0]) ∧ Below w.heap.size w w' := by
  go_enter Tryz.func129, Tryz.ntmps129
  go_wp2
  refine bodyPost_ret (v := .agg #[.int .i64 k, .int .i64 2, .int .i64 0]) (by simp [results, Tryz.results129, go_sem]) rfl ⟨rfl, ?_⟩
  repeat (first | exact Below.refl _ _ | refine Below.setCell ?_ (by first | omega | (simp <;> omega)) _ | refine Below.alloc ?_ (by first | omega | (simp <;> omega)) _)
end Go.Proofs.YtnchaccgenfhoaaGreat

namespace Go.Proofs.YtnchaccgenfhoaaGreat
open Go.RowKit

theorem step_storeP {ops : Array Oper} {o : Oper} {a : Act} {w : World} {K : Act → World → Prop} {Q : Exit → Act → World → Prop} {E : Prop} (hgd : o.guard = none) (x y : Operand) (ho : o.op = .store 81 x y)
    (g : Nat) (a0 a1 a2 a3 a4 : Value) (hx : a.eval x = .pointer (some ⟨g, 0, none⟩)) (hy : a.eval y = .agg #[a0, a1, a2, a3, a4]) (hP : PBk w g) (h1 : (#[a0, a1, a2, a3, a4] : Array Value).all (·.oneCell') = true)
    (h : K (a.put o.dst undef) (w.setRow g #[a0, a1, a2, a3, a4])) : if Region.wanted o (yielded ops a.tmps) = true then Oper.wp Tryz.prog o a w K Q else E := by
  have hw : Region.wanted o (yielded ops a.tmps) = true := by simp [Region.wanted, hgd]
  rw [if_pos hw]
  obtain ⟨old, hg, hs⟩ := hP
  exact wp_store_row 81 x y ho g #[a0, a1, a2, a3, a4] hx hy 81 old hg (by kernel_rfl) hs h1 h
/-- The boxes of an operation, of a child, and of the plan that is told. -/
def Bxs (bo : Nat) (kd d n td tn vv c cv : Int) (X : World) : Prop := opB X bo kd d n td tn vv ∧ Blk2 X (bo + 1) (.int .i64 c) (.int .i64 cv) ∧ PBk X (bo + 2)
theorem Bxs.later {bo : Nat} {kd d n td tn vv c cv : Int} {X X' : World} (h : Bxs bo kd d n td tn vv c cv X) (hb : Below X.heap.size X X') : Bxs bo kd d n td tn vv c cv X' := ⟨h.1.later hb, h.2.1.later hb, h.2.2.later hb⟩
theorem Bxs.kept {bo : Nat} {kd d n td tn vv c cv : Int} {X X' : World} (h : Bxs bo kd d n td tn vv c cv X) (h0 : X'.heap[bo]? = X.heap[bo]?) (h1 : X'.heap[bo + 1]? = X.heap[bo + 1]?) (h2 : X'.heap[bo + 2]? = X.heap[bo + 2]?) : Bxs bo kd d n td tn vv c cv X' := ⟨h.1.kept h0, h.2.1.kept h1, h.2.2.kept h2⟩
theorem Bxs.drew {bo : Nat} {kd d n td tn vv c cv : Int} {X : World} (h : Bxs bo kd d n td tn vv c cv X) : Bxs bo kd d n td tn vv c cv X.drew := h.later ⟨rfl, rfl, rfl, Nat.le_refl _, fun _ _ => rfl⟩
theorem Bxs.alloc {bo : Nat} {kd d n td tn vv c cv : Int} {X : World} (h : Bxs bo kd d n td tn vv c cv X) (o : Obj) : Bxs bo kd d n td tn vv c cv (X.alloc o) := h.later (below_alloc _ _)
theorem Bxs.lt {bo : Nat} {kd d n td tn vv c cv : Int} {X : World} (h : Bxs bo kd d n td tn vv c cv X) : bo + 2 < X.heap.size := h.2.2.lt
theorem Bxs.row {bo : Nat} {kd d n td tn vv c cv : Int} {X : World} (h : Bxs bo kd d n td tn vv c cv X) (cs : Array Value) (hcs : cs.size = 5) : Bxs bo kd d n td tn vv c cv (X.setRow (bo + 2) cs) := by
  refine ⟨h.1.kept (heap_setRow _ _ _ _ (by omega)), h.2.1.kept (heap_setRow _ _ _ _ (by omega)), ?_⟩
  obtain ⟨old, hg, _⟩ := h.2.2
  exact ⟨cs, by simp [World.setRow, Array.getElem?_modify, hg], hcs⟩
abbrev opO (kd d n td tn vv : Int) : Obj := .cells #[.int .i64 kd, .int .i64 d, .int .i64 n, .int .i64 td, .int .i64 tn, .int .i64 vv] 26
abbrev chO (c cv : Int) : Obj := .cells #[.int .i64 c, .int .i64 cv] 155
theorem Bxs.new (w : World) (kd d n td tn vv c cv : Int) : Bxs w.heap.size kd d n td tn vv c cv (((w.alloc (opO kd d n td tn vv)).alloc (chO c cv)).alloc zeroPl) := by
  refine ⟨((Blk6.new w _ _ _ _ _ _ _).alloc _).alloc _, ?_, ?_⟩
  · have h := (Blk2.new (w.alloc (opO kd d n td tn vv)) (.int .i64 c) (.int .i64 cv) 155).alloc zeroPl
    rwa [World.size_alloc] at h
  · have h := PBk.new ((w.alloc (opO kd d n td tn vv)).alloc (chO c cv)) (.int .i64 0) (.int .i64 0) (.int .i64 0) (.slice none 0 0) (.slice none 0 0)
    rwa [World.size_alloc, World.size_alloc] at h
theorem below3 (w : World) (a b c : Obj) : Below w.heap.size w (((w.alloc a).alloc b).alloc c) := ((below_alloc _ _).alloc (by simp) _).alloc (by simp; omega) _
/-- How planWrite ends. -/
def WriteEnd (w : World) (c cv vv : Int) (e : Ending) (w' : World) : Prop :=
  Below w.heap.size w w' ∧ ((cv = 1000 ∧ e = .panicked (wrongs 9)) ∨ (cv ≠ 1000 ∧ ∃ vw, e = .returned (.agg #[.int .i64 0, .int .i64 0, .int .i64 0, .slice none 0 0, vw]) ∧ OwnM w' w.heap.size 132 3 vw 1 [kB c, 1, vv]))
set_option maxRecDepth 100000 in
set_option maxHeartbeats 4000000 in
theorem planWrite_is (kd d n td tn vv c cv : Int) (w : World) (hc : 0 ≤ c ∧ c ≤ 9) :
    Calls Tryz.prog 118 #[.agg #[.int .i64 kd, .int .i64 d, .int .i64 n, .int .i64 td, .int .i64 tn, .int .i64 vv], .agg #[.int .i64 c, .int .i64 cv]] w (WriteEnd w c cv vv) := by
  have HC : Hid (0 ≤ c ∧ c ≤ 9) := hc
  have HX : Hid (Bxs w.heap.size kd d n td tn vv c cv (((w.alloc (opO kd d n td tn vv)).alloc (chO c cv)).alloc zeroPl)) := Bxs.new _ _ _ _ _ _ _ _ _
  have HB : Hid (Below w.heap.size w (((w.alloc (opO kd d n td tn vv)).alloc (chO c cv)).alloc zeroPl)) := below3 _ _ _ _
  clear hc
  by_cases h1 : cv = 1000
  · subst h1
    go_enter Tryz.func118, Tryz.ntmps118
    go_wp2_with fail
    refine (childDir_is c 1000 _).mono ?_
    rintro e w1 ⟨rfl, q1⟩
    have HB1 : Hid (Below w.heap.size w w1) := HB.out.trans (q1.mono HB.out.size)
    clear q1
    go_wp2_with fail
    refine (wrongIf_so 9 _).mono ?_
    rintro e w9 ⟨rfl, hw9⟩
    obtain rfl := hw9.symm
    exact ⟨rfl, HB1.out, Or.inl ⟨rfl, rfl⟩⟩
  have HN : Hid (cv ≠ 1000) := h1
  have e1 : (cv == 1000) = false := beq_eq_false_iff_ne.2 h1
  have hit := fun a0 a1 a2 w => run_item1 a0 a1 a2 w
  clear h1
  go_enter Tryz.func118, Tryz.ntmps118
  go_wp2_with fail
  refine (childDir_is c cv _).mono ?_
  rintro e w1 ⟨rfl, q1⟩
  have H1 : Hid (Bxs w.heap.size kd d n td tn vv c cv w1 ∧ Below w.heap.size w w1) := ⟨HX.out.later q1, HB.out.trans (q1.mono HB.out.size)⟩
  clear q1 HX HB
  rw [e1]
  go_wp2_with fail
  refine (wrongIf_no 9 _).mono ?_
  rintro e w9 ⟨rfl, hw9⟩
  obtain rfl := hw9.symm
  go_upto_region 2 with fail
  refine wp_region_held_drew (S := Bxs w.heap.size kd d n td tn vv c cv) (by kernel_rfl) H1.out.1.drew (fun hS => ?_)
  refine tkH 0 ?_ hS (fun wx hx => ?_) ?_; rotate_left
  · obtain ⟨⟨⟨hx0, hx1, hx2, hx3, hx4, hx5⟩, _⟩, ⟨⟨hx6, hx7⟩, _⟩, _⟩ := hx; go_simp; try with_reducible rfl
  refine tkH 1 ?_ hS (fun wx hx => ?_) ?_; rotate_left
  · obtain ⟨⟨⟨hx0, hx1, hx2, hx3, hx4, hx5⟩, _⟩, ⟨⟨hx6, hx7⟩, _⟩, _⟩ := hx; go_simp; try with_reducible rfl
  refine tkH 3 ?_ hS (fun wx hx => ?_) ?_; rotate_left
  · obtain ⟨⟨⟨hx0, hx1, hx2, hx3, hx4, hx5⟩, _⟩, ⟨⟨hx6, hx7⟩, _⟩, _⟩ := hx; go_simp; try with_reducible rfl
  refine tkH 4 ?_ hS (fun wx hx => ?_) ?_; rotate_left
  · obtain ⟨⟨⟨hx0, hx1, hx2, hx3, hx4, hx5⟩, _⟩, ⟨⟨hx6, hx7⟩, _⟩, _⟩ := hx; go_simp; try with_reducible rfl
  have HB1 : Hid (Below w.heap.size w w1.drew) := H1.out.2.drew
  clear H1
  generalize w1.drew = w1 at HB1 hS ⊢
  refine rdH 2 (fun K hK => ?_)
  go_simp
  go_wp2_with fail
  refine (bytesKey_is c HC.out _).mono ?_
  rintro e w2 ⟨rfl, q2⟩
  have hS2 := hS.later q2
  have HB2 : Hid (Below w.heap.size w w2) := HB1.out.trans (q2.mono HB1.out.size)
  clear q2 HB1 hS
  go_wp2_with fail
  refine hK.out _ _ hS2 (fun hS => ?_)
  clear hK K
  refine rdH 5 (fun K hK => ?_)
  go_simp
  go_wp2_with fail
  refine (putTo_is (kB c) vv _).mono ?_
  rintro e w3 ⟨rfl, q3⟩
  have hS3 := hS.later q3
  have HB3 : Hid (Below w.heap.size w w3) := HB2.out.trans (q3.mono HB2.out.size)
  clear q3 HB2 hS hS2
  go_wp2_with fail
  refine hK.out _ _ hS3 (fun hS => ?_)
  clear hK K
  refine rdH 6 (fun K hK => ?_)
  go_simp
  have HW : Hid (OwnM (w3.alloc (.cells #[.int .i64 (kB c), .int .i64 1, .int .i64 vv] 132)) w3.heap.size 132 3 (.slice (some ⟨w3.heap.size, 0, none⟩) 1 1) 1 [kB c, 1, vv]) := OwnM.lit w3 132 3 1 [kB c, 1, vv] #[.int .i64 (kB c), .int .i64 1, .int .i64 vv] (by simp) rfl (by unfold maxLen; omega)
  have hlt := hS.lt
  have hS4 := hS.alloc (.cells #[.int .i64 (kB c), .int .i64 1, .int .i64 vv] 132)
  clear hS
  refine hK.out _ _ hS4 (fun hS => ?_)
  clear hK K
  refine tkH 7 ?_ hS (fun wx hx => ?_) ?_; rotate_left
  · obtain ⟨⟨⟨hx0, hx1, hx2, hx3, hx4, hx5⟩, _⟩, ⟨⟨hx6, hx7⟩, _⟩, _⟩ := hx; go_simp; try with_reducible rfl
  refine rdH 8 (fun K hK => ?_)
  refine step_storeP rfl _ _ rfl (w.heap.size + 2) _ _ _ _ _ rfl rfl hS.2.2 (by kernel_rfl) ?_
  have HS5 : Hid (PBk (w3.alloc (.cells #[.int .i64 (kB c), .int .i64 1, .int .i64 vv] 132)) (w.heap.size + 2)) := hS.2.2
  have hS5 := hS.row #[.int .i64 0, .int .i64 0, .int .i64 0, .slice none 0 0, .slice (some ⟨w3.heap.size, 0, none⟩) 1 1] rfl
  clear hS hS3 hS4
  refine hK.out _ _ hS5 (fun hS => ?_)
  clear hK K
  refine wpAnyH_done (by kernel_rfl) ?_ _
  go_simp
  go_wp2
  refine bodyPost_ret (v := .agg #[.int .i64 0, .int .i64 0, .int .i64 0, .slice none 0 0, .slice (some ⟨w3.heap.size, 0, none⟩) 1 1]) (results_pl Tryz.results118 _ _ _ _ _ _ _ _ rfl HS5.out) rfl ⟨?_, Or.inr ⟨HN.out, _, rfl, ?_⟩⟩
  · exact below_row (HB3.out.alloc HB3.out.size _) (by omega) _
  · exact OwnM.monoP (OwnM.kept HW.out fun g hg _ => heap_setRow _ _ _ _ (by omega)) (by omega)
/-- How a helper that tells a plan ends: it is told, or the reply is raised. -/
def PlanEnd (w : World) (b rb mb : Nat) (L : Prs) (vr : Value) (r v : Int) (ys : List Int) (m : Nat) (W : List Int) (e : Ending) (w' : World) : Prop :=
  ∃ vr', (Looks w' b rb mb L ys vr' ∧ Keeps w w' b mb vr vr') ∧ ((r = 0 ∧ ∃ vw, e = .returned (.agg #[.int .i64 0, .int .i64 0, .int .i64 v, .slice none 0 0, vw]) ∧ OwnM w' w.heap.size 132 3 vw m W ∧ ∀ k, vr'.ownBlock = some k → vw.ownBlock ≠ some k) ∨ (r ≠ 0 ∧ e = .panicked (wrongs r) ∧ v = 0 ∧ m = 0 ∧ W = []))
theorem Looks.off2 {w : World} {b rb mb : Nat} {L : Prs} {xs : List Int} {vr : Value} (h : Looks w b rb mb L xs vr) {k : Nat} {X : World} (hk : w.heap.size ≤ k) (hX : k < X.heap.size) : Off X b mb vr k := by
  have h1 := h.1.lt
  have h2 := h.2.2.1.lt
  exact ⟨hX, by omega, by omega, fun e => by have := (h.2.2.2.1.lt _ e).2; omega⟩
/-- Only a block of the caller's own has turned. -/
theorem Looks.offs {w w' : World} {b rb mb : Nat} {L : Prs} {xs : List Int} {vr : Value} {g : Nat} (h : Looks w b rb mb L xs vr) (ho : Off w b mb vr g) (hk : ∀ k, k ≠ g → w'.heap[k]? = w.heap[k]?) (hv : ¬ g < mb := by omega) : Looks w' b rb mb L xs vr := by
  have hi : OwnM w (b + 1) 2 1 vr xs.length xs := h.2.2.2.1
  exact ⟨h.1.kept (hk b (fun e => ho.2.1 e.symm)), h.2.1.kept (fun k _ hm => hk k (fun e => hv (by omega))) h.2.2.2.2.1, h.2.2.1.kept (hk mb (fun e => ho.2.2.1 e.symm)), OwnM.keptB hi (fun k hq => hk k (fun e => ho.2.2.2 (by rw [← e]; exact hq))), h.2.2.2.2⟩
theorem Keeps.offs {w w' w'' : World} {b mb : Nat} {vr vr' : Value} {g : Nat} (h : Keeps w w' b mb vr vr') (hs : w'.heap.size = w''.heap.size) (hk : ∀ k, k ≠ g → w''.heap[k]? = w'.heap[k]?) (ho : w''.os = w'.os ∧ w''.tape = w'.tape ∧ w''.output = w'.output) (hg : w.heap.size ≤ g) : Keeps w w'' b mb vr vr' :=
  ⟨⟨ho.1.trans h.1.1, ho.2.1.trans h.1.2.1, ho.2.2.trans h.1.2.2⟩, by rw [← hs]; exact h.2.1, fun k hk1 h1 h2 h3 => (hk k (by omega)).trans (h.2.2.1 k hk1 h1 h2 h3), h.2.2.2⟩
abbrev sightO (s : Bool) (z : Int) : Obj := .cells #[.bool s, .int .i64 z] 102
set_option maxRecDepth 100000 in
set_option maxHeartbeats 4000000 in
theorem lookChild_is (L : Prs) (b rb mb : Nat) (xs : List Int) (vr : Value) (s : Bool) (ch : Int) (w : World) (h : Looks w b rb mb L xs vr) (hrs : Rises L) (hn : L.length ≤ 1000) (hch : 0 ≤ ch) (hx : xs.length ≤ 1000) (c cv : Int) (hc : minC ch = c) (hcv : (lookF L (kI c)).2 = cv) :
    Calls Tryz.prog 114 #[.pointer (some ⟨b, 0, none⟩), .agg #[.bool s, .int .i64 ch]] w fun e w' => e = .returned (.agg #[.int .i64 c, .int .i64 cv]) ∧ ∃ vr', Looks w' b rb mb L (addR xs (kI c)) vr' ∧ Keeps w w' b mb vr vr' := by
  have hmb : mb < w.heap.size := h.2.2.1.lt
  have HC : Hid (minC ch = c ∧ (lookF L (kI c)).2 = cv ∧ (0 ≤ c ∧ c ≤ 9) ∧ Rises L) := ⟨hc, hcv, hc ▸ minC_in hch, hrs⟩
  have HB : Hid (Below w.heap.size w ((w.alloc (sightO s ch)).alloc (chO 0 0))) := (below_alloc _ _).alloc (by simp) _
  have HL : Hid (Looks ((w.alloc (sightO s ch)).alloc (chO 0 0)) b rb mb L xs vr ∧ Keeps w ((w.alloc (sightO s ch)).alloc (chO 0 0)) b mb vr vr) := ⟨(h.alloc _).alloc _, Keeps.below _ _ _ HB.out⟩
  have HO : Hid (Off ((w.alloc (sightO s ch)).alloc (chO 0 0)) b mb vr (w.heap.size + 1)) := h.off2 (Nat.le_succ _) (by simp)
  have HR : Hid (Blk2 ((w.alloc (sightO s ch)).alloc (chO 0 0)) (w.heap.size + 1) (.int .i64 0) (.int .i64 0)) := by
    have q := Blk2.new (w.alloc (sightO s ch)) (.int .i64 0) (.int .i64 0) 155
    rwa [World.size_alloc] at q
  have fs := fun h v w => field_sight1 h v w
  have hmin := fun w => run_min9 ch w
  rw [hc] at hmin
  clear h hrs hch hc hcv
  go_enter Tryz.func114, Tryz.ntmps114
  go_wp2_with fail
  refine (inodeKey_is c HC.out.2.2.1 _).mono ?_
  rintro e w1 ⟨rfl, q1⟩
  have H1 : Hid ((Looks w1 b rb mb L xs vr ∧ Keeps w w1 b mb vr vr) ∧ Off w1 b mb vr (w.heap.size + 1) ∧ Blk2 w1 (w.heap.size + 1) (.int .i64 0) (.int .i64 0)) := ⟨⟨HL.out.1.later q1, HL.out.2.trans (Keeps.below _ _ _ q1)⟩, ((Keeps.below b mb vr q1).off HO.out).1, HR.out.later q1⟩
  clear q1 HL HO HR
  go_wp2_with fail
  refine (look_is L b rb mb xs vr (kI c) _ H1.out.1.1 HC.out.2.2.2 hn (by have := HC.out.2.2.1; unfold kI; omega) hx).mono ?_
  rintro e w2 ⟨rfl, vr2, l2, k2⟩
  have H2 : Hid ((Looks w2 b rb mb L (addR xs (kI c)) vr2 ∧ Keeps w w2 b mb vr vr2) ∧ Off w2 b mb vr2 (w.heap.size + 1) ∧ Blk2 w2 (w.heap.size + 1) (.int .i64 0) (.int .i64 0)) := ⟨⟨l2, H1.out.1.2.trans k2⟩, (k2.off H1.out.2.1).1, H1.out.2.2.kept (k2.off H1.out.2.1).2⟩
  clear l2 k2 H1
  rw [HC.out.2.1]
  obtain ⟨⟨x0, x1⟩, y0, y1⟩ := H2.out.2.2
  have HP : Hid (_ ∧ _) := (Blk2.put H2.out.2.2 (.int .i64 c) (.int .i64 cv)).1
  go_wp2
  refine bodyPost_ret (v := .agg #[.int .i64 c, .int .i64 cv]) (by simp [results, Tryz.results114, go_sem, HP.out.1, HP.out.2]) rfl ⟨rfl, vr2, ?_, ?_⟩
  · exact H2.out.1.1.offs (H2.out.2.1) (fun k hk => (Below.heap_setCell _ _ _ _ (by simpa using hk)).trans (Below.heap_setCell _ _ _ _ (by simpa using hk)))
  · exact H2.out.1.2.offs (by simp) (fun k hk => (Below.heap_setCell _ _ _ _ (by simpa using hk)).trans (Below.heap_setCell _ _ _ _ (by simpa using hk))) ⟨rfl, rfl, rfl⟩ (by omega)
/-- Box of a child and box of a plan. -/
def Bx2 (bc : Nat) (c cv : Int) (X : World) : Prop := Blk2 X bc (.int .i64 c) (.int .i64 cv) ∧ PBk X (bc + 1)
theorem Bx2.later {bc : Nat} {c cv : Int} {X X' : World} (h : Bx2 bc c cv X) (hb : Below X.heap.size X X') : Bx2 bc c cv X' := ⟨h.1.later hb, h.2.later hb⟩
theorem Bx2.new (w : World) (c cv : Int) : Bx2 w.heap.size c cv ((w.alloc (chO c cv)).alloc zeroPl) := by
  refine ⟨(Blk2.new w _ _ _).alloc _, ?_⟩
  have h := PBk.new (w.alloc (chO c cv)) (.int .i64 0) (.int .i64 0) (.int .i64 0) (.slice none 0 0) (.slice none 0 0)
  rwa [World.size_alloc] at h
set_option maxRecDepth 100000 in
set_option maxHeartbeats 4000000 in
theorem planRead_is (L : Prs) (b rb mb : Nat) (xs : List Int) (vr : Value) (c cv : Int) (w : World) (h : Looks w b rb mb L xs vr) (hrs : Rises L) (hn : L.length ≤ 1000) (hc : 0 ≤ c ∧ c ≤ 9) (hx : xs.length ≤ 1000) (r v : Int) (ys : List Int) (m : Nat) (W : List Int) (hp : (if cv = 1000 then ((9 : Int), (0 : Int), xs, 0, ([] : List Int)) else (0, (lookF L (kB c)).2, addR xs (kB c), 0, [])) = (r, v, ys, m, W)) :
    Calls Tryz.prog 119 #[.pointer (some ⟨b, 0, none⟩), .agg #[.int .i64 c, .int .i64 cv]] w (PlanEnd w b rb mb L vr r v ys m W) := by
  have hmb : mb < w.heap.size := h.2.2.1.lt
  have HC : Hid ((0 ≤ c ∧ c ≤ 9) ∧ Rises L) := ⟨hc, hrs⟩
  have HB : Hid (Below w.heap.size w ((w.alloc (chO c cv)).alloc zeroPl)) := (below_alloc _ _).alloc (by simp) _
  have HL : Hid ((Looks ((w.alloc (chO c cv)).alloc zeroPl) b rb mb L xs vr ∧ Keeps w ((w.alloc (chO c cv)).alloc zeroPl) b mb vr vr) ∧ Bx2 w.heap.size c cv ((w.alloc (chO c cv)).alloc zeroPl) ∧ Off ((w.alloc (chO c cv)).alloc zeroPl) b mb vr w.heap.size ∧ Off ((w.alloc (chO c cv)).alloc zeroPl) b mb vr (w.heap.size + 1)) := ⟨⟨(h.alloc _).alloc _, Keeps.below _ _ _ HB.out⟩, Bx2.new _ _ _, h.off2 (Nat.le_refl _) (by simp; omega), h.off2 (Nat.le_succ _) (by simp)⟩
  have fs := fun h v w => field_sight1 h v w
  clear h hrs hc
  by_cases h1 : cv = 1000
  · subst h1
    rw [if_pos rfl] at hp
    simp only [Prod.mk.injEq] at hp
    obtain ⟨rfl, rfl, rfl, rfl, rfl⟩ := hp
    go_enter Tryz.func119, Tryz.ntmps119
    go_wp2_with fail
    refine (childDir_is c 1000 _).mono ?_
    rintro e w1 ⟨rfl, q1⟩
    have H1 : Hid (Looks w1 b rb mb L xs vr ∧ Keeps w w1 b mb vr vr) := ⟨HL.out.1.1.later q1, HL.out.1.2.trans (Keeps.below _ _ _ q1)⟩
    clear q1
    go_wp2_with fail
    refine (wrongIf_so 9 _).mono ?_
    rintro e w9 ⟨rfl, hw9⟩
    obtain rfl := hw9.symm
    exact ⟨rfl, vr, H1.out, Or.inr ⟨by decide, rfl, rfl, rfl, rfl⟩⟩
  rw [if_neg h1] at hp
  simp only [Prod.mk.injEq] at hp
  obtain ⟨rfl, hv, rfl, rfl, rfl⟩ := hp
  have HV : Hid ((lookF L (kB c)).2 = v) := hv
  have e1 : (cv == 1000) = false := beq_eq_false_iff_ne.2 h1
  clear h1 hv
  go_enter Tryz.func119, Tryz.ntmps119
  go_wp2_with fail
  refine (childDir_is c cv _).mono ?_
  rintro e w1 ⟨rfl, q1⟩
  have k1 := Keeps.below b mb vr q1
  have H1 : Hid ((Looks w1 b rb mb L xs vr ∧ Keeps w w1 b mb vr vr) ∧ Bx2 w.heap.size c cv w1 ∧ Off w1 b mb vr w.heap.size ∧ Off w1 b mb vr (w.heap.size + 1)) := ⟨⟨HL.out.1.1.later q1, HL.out.1.2.trans k1⟩, HL.out.2.1.later q1, (k1.off HL.out.2.2.1).1, (k1.off HL.out.2.2.2).1⟩
  clear q1 k1 HL HB
  rw [e1]
  go_wp2_with fail
  refine (wrongIf_no 9 _).mono ?_
  rintro e w9 ⟨rfl, hw9⟩
  obtain rfl := hw9.symm
  obtain ⟨⟨x0, x1⟩, _⟩ := H1.out.2.1.1
  go_wp2_with fail
  refine (bytesKey_is c HC.out.1 _).mono ?_
  rintro e w2 ⟨rfl, q2⟩
  have k2 := Keeps.below b mb vr q2
  have H2 : Hid ((Looks w2 b rb mb L xs vr ∧ Keeps w w2 b mb vr vr) ∧ Bx2 w.heap.size c cv w2 ∧ Off w2 b mb vr w.heap.size ∧ Off w2 b mb vr (w.heap.size + 1)) := ⟨⟨H1.out.1.1.later q2, H1.out.1.2.trans k2⟩, H1.out.2.1.later q2, (k2.off H1.out.2.2.1).1, (k2.off H1.out.2.2.2).1⟩
  clear q2 k2 H1 x0 x1
  go_wp2_with fail
  refine (look_is L b rb mb xs vr (kB c) _ H2.out.1.1 HC.out.2 hn (by have := HC.out.1; unfold kB; omega) hx).mono ?_
  rintro e w3 ⟨rfl, vr3, l3, k3⟩
  have H3 : Hid ((Looks w3 b rb mb L (addR xs (kB c)) vr3 ∧ Keeps w w3 b mb vr vr3) ∧ PBk w3 (w.heap.size + 1) ∧ Off w3 b mb vr3 (w.heap.size + 1)) := ⟨⟨l3, H2.out.1.2.trans k3⟩, H2.out.2.1.2.kept (k3.off H2.out.2.2.2).2, (k3.off H2.out.2.2.2).1⟩
  clear l3 k3 H2
  rw [HV.out]
  go_wp2_with (refine wpList_storeP rfl _ _ rfl (w.heap.size + 1) _ _ _ _ _ rfl rfl H3.out.2.1 (by kernel_rfl) ?_)
  refine bodyPost_ret (v := .agg #[.int .i64 0, .int .i64 0, .int .i64 v, .slice none 0 0, .slice none 0 0]) (results_pl Tryz.results119 _ _ _ _ _ _ _ _ rfl H3.out.2.1) rfl ⟨vr3, ⟨?_, ?_⟩, Or.inl ⟨rfl, _, rfl, OwnM.nil _ _ _ _, fun k _ e => by cases e⟩⟩
  · exact H3.out.1.1.offs H3.out.2.2 (fun k hk => heap_setRow _ _ _ _ hk)
  · exact H3.out.1.2.offs (by rw [size_setRow]) (fun k hk => heap_setRow _ _ _ _ hk) ⟨rfl, rfl, rfl⟩ (by omega)
end Go.Proofs.YtnchaccgenfhoaaGreat

namespace Go.Proofs.YtnchaccgenfhoaaGreat
open Go.RowKit

/-- What stands while a plan is made: what was looked at, and the boxes. -/
def Wk (w : World) (b rb mb : Nat) (L : Prs) (vr : Value) (kd d n td tn vv c cv : Int) (xs : List Int) (vz : Value) (X : World) : Prop :=
  (Looks X b rb mb L xs vz ∧ Keeps w X b mb vr vz) ∧ Bxs w.heap.size kd d n td tn vv c cv X ∧ Off X b mb vz w.heap.size ∧ Off X b mb vz (w.heap.size + 1) ∧ Off X b mb vz (w.heap.size + 2)
theorem Wk.keeps {w X X' : World} {b rb mb : Nat} {L : Prs} {vr vz vy : Value} {kd d n td tn vv c cv : Int} {xs ys : List Int} (h : Wk w b rb mb L vr kd d n td tn vv c cv xs vz X) (hl : Looks X' b rb mb L ys vy) (hk : Keeps X X' b mb vz vy) : Wk w b rb mb L vr kd d n td tn vv c cv ys vy X' :=
  ⟨⟨hl, h.1.2.trans hk⟩, h.2.1.kept (hk.off h.2.2.1).2 (hk.off h.2.2.2.1).2 (hk.off h.2.2.2.2).2, (hk.off h.2.2.1).1, (hk.off h.2.2.2.1).1, (hk.off h.2.2.2.2).1⟩
theorem Wk.later {w X X' : World} {b rb mb : Nat} {L : Prs} {vr vz : Value} {kd d n td tn vv c cv : Int} {xs : List Int} (h : Wk w b rb mb L vr kd d n td tn vv c cv xs vz X) (hb : Below X.heap.size X X') : Wk w b rb mb L vr kd d n td tn vv c cv xs vz X' := h.keeps (h.1.1.later hb) (Keeps.below _ _ _ hb)
theorem Wk.drew {w X : World} {b rb mb : Nat} {L : Prs} {vr vz : Value} {kd d n td tn vv c cv : Int} {xs : List Int} (h : Wk w b rb mb L vr kd d n td tn vv c cv xs vz X) : Wk w b rb mb L vr kd d n td tn vv c cv xs vz X.drew := h.later ⟨rfl, rfl, rfl, Nat.le_refl _, fun _ _ => rfl⟩
theorem Wk.alloc {w X : World} {b rb mb : Nat} {L : Prs} {vr vz : Value} {kd d n td tn vv c cv : Int} {xs : List Int} (h : Wk w b rb mb L vr kd d n td tn vv c cv xs vz X) (o : Obj) : Wk w b rb mb L vr kd d n td tn vv c cv xs vz (X.alloc o) := h.later (below_alloc _ _)
theorem Wk.new {w : World} {b rb mb : Nat} {L : Prs} {vr : Value} {xs : List Int} (h : Looks w b rb mb L xs vr) (kd d n td tn vv c cv : Int) : Wk w b rb mb L vr kd d n td tn vv c cv xs vr (((w.alloc (opO kd d n td tn vv)).alloc (chO c cv)).alloc zeroPl) :=
  ⟨⟨((h.alloc _).alloc _).alloc _, Keeps.below _ _ _ (below3 _ _ _ _)⟩, Bxs.new _ _ _ _ _ _ _ _ _, h.off2 (Nat.le_refl _) (by simp; omega), h.off2 (Nat.le_succ _) (by first | (simp; done) | (simp; omega)), h.off2 (by omega) (by simp)⟩
/-- The plan is told: its box, its writes in memory of their own. -/
theorem Wk.told {w X : World} {b rb mb : Nat} {L : Prs} {vr vz : Value} {kd d n td tn vv c cv : Int} {xs : List Int} (h : Wk w b rb mb L vr kd d n td tn vv c cv xs vz X) (hmb : mb < w.heap.size) (v : Int) (vw : Value) (m : Nat) (W : List Int) (cs : Array Value) (ho : OwnM X (w.heap.size + 3) 132 3 vw m W) (hd : ∀ k, vz.ownBlock = some k → vw.ownBlock ≠ some k) (e : Ending) (he : e = .returned (.agg #[.int .i64 0, .int .i64 0, .int .i64 v, .slice none 0 0, vw])) : PlanEnd w b rb mb L vr 0 v xs m W e (X.setRow (w.heap.size + 2) cs) :=
  ⟨vz, ⟨h.1.1.offs h.2.2.2.2 (fun k hk => heap_setRow _ _ _ _ hk), h.1.2.offs (by rw [size_setRow]) (fun k hk => heap_setRow _ _ _ _ hk) ⟨rfl, rfl, rfl⟩ (by omega)⟩, Or.inl ⟨rfl, vw, he, OwnM.monoP (OwnM.kept ho fun g hg _ => heap_setRow _ _ _ _ (by omega)) (by omega), hd⟩⟩
/-- .. a list literal as its writes. -/
theorem Wk.lit {w X : World} {b rb mb : Nat} {L : Prs} {vr vz : Value} {kd d n td tn vv c cv : Int} {xs : List Int} (h : Wk w b rb mb L vr kd d n td tn vv c cv xs vz X) (m : Nat) (W : List Int) (cs : Array Value) (hcs : cs = (W.map (Value.int .i64)).toArray) (hl : W.length = m * 3) (hm : m ≤ 1000) :
    OwnM (X.alloc (.cells cs 132)) (w.heap.size + 3) 132 3 (.slice (some ⟨X.heap.size, 0, none⟩) m m) m W ∧ ∀ k, vz.ownBlock = some k → (Value.slice (some ⟨X.heap.size, 0, none⟩) m m).ownBlock ≠ some k :=
  ⟨OwnM.monoP (OwnM.lit X 132 3 m W cs hcs hl (by unfold maxLen; omega)) (by have := h.2.1.lt; omega), fun k hk e => by have := (h.1.1.2.2.2.1.lt k hk).2; simp [Value.ownBlock] at e; omega⟩
theorem Wk.rowed {w X : World} {b rb mb : Nat} {L : Prs} {vr vz : Value} {kd d n td tn vv c cv : Int} {xs : List Int} (h : Wk w b rb mb L vr kd d n td tn vv c cv xs vz X) (hmb : mb < w.heap.size) (cs : Array Value) (hcs : cs.size = 5) : Wk w b rb mb L vr kd d n td tn vv c cv xs vz (X.setRow (w.heap.size + 2) cs) :=
  ⟨⟨h.1.1.offs h.2.2.2.2 (fun k hk => heap_setRow _ _ _ _ hk), h.1.2.offs (by rw [size_setRow]) (fun k hk => heap_setRow _ _ _ _ hk) ⟨rfl, rfl, rfl⟩ (by omega)⟩, h.2.1.row cs hcs, ⟨by rw [size_setRow]; exact h.2.2.1.1, h.2.2.1.2⟩, ⟨by rw [size_setRow]; exact h.2.2.2.1.1, h.2.2.2.1.2⟩, ⟨by rw [size_setRow]; exact h.2.2.2.2.1, h.2.2.2.2.2⟩⟩
set_option maxRecDepth 100000 in
set_option maxHeartbeats 4000000 in
theorem planMove_is (L : Prs) (b rb mb : Nat) (xs : List Int) (vr : Value) (kd d n td tn vv c cv : Int) (w : World) (h : Looks w b rb mb L xs vr) (hrs : Rises L) (hn : L.length ≤ 1000) (hd : 0 ≤ d ∧ d ≤ 9) (hnm : 0 ≤ n ∧ n ≤ 5) (htd : 0 ≤ td ∧ td ≤ 9) (htn : 0 ≤ tn ∧ tn ≤ 5) (hc : 0 ≤ c ∧ c ≤ 9) (hcv : 0 ≤ cv ∧ cv ≤ 9999) (hx : xs.length ≤ 800) (r v : Int) (ys : List Int) (m : Nat) (W : List Int) (hp : moveP L d n td tn c cv xs = (r, v, ys, m, W)) :
    Calls Tryz.prog 116 #[.pointer (some ⟨b, 0, none⟩), .agg #[.int .i64 kd, .int .i64 d, .int .i64 n, .int .i64 td, .int .i64 tn, .int .i64 vv], .agg #[.int .i64 c, .int .i64 cv]] w (PlanEnd w b rb mb L vr r v ys m W) := by
  have hmb : mb < w.heap.size := h.2.2.1.lt
  have HC : Hid (Rises L ∧ (0 ≤ d ∧ d ≤ 9) ∧ (0 ≤ n ∧ n ≤ 5) ∧ (0 ≤ td ∧ td ≤ 9) ∧ (0 ≤ tn ∧ tn ≤ 5) ∧ (0 ≤ c ∧ c ≤ 9)) := ⟨hrs, hd, hnm, htd, htn, hc⟩
  have HK : Hid (Wk w b rb mb L vr kd d n td tn vv c cv xs vr (((w.alloc (opO kd d n td tn vv)).alloc (chO c cv)).alloc zeroPl)) := Wk.new h _ _ _ _ _ _ _ _
  have hit2 := fun a0 a1 a2 b0 b1 b2 w => run_items2 a0 a1 a2 b0 b1 b2 w
  obtain ⟨hv0, hv9⟩ := hcv
  clear h hrs hd hnm htd htn hc
  unfold moveP at hp
  by_cases h1 : cv = 1000
  · subst h1
    by_cases h2 : td = d
    case neg =>
      have e3 : (td != d) = true := bne_iff_ne.2 h2
      rw [if_pos ⟨rfl, h2⟩] at hp
      simp only [Prod.mk.injEq] at hp
      obtain ⟨rfl, rfl, rfl, rfl, rfl⟩ := hp
      clear h2
      go_enter Tryz.func116, Tryz.ntmps116
      go_wp2_with fail
      refine (childDir_is c 1000 _).mono ?_
      rintro e w1 ⟨rfl, q1⟩
      have H1 : Hid (Wk w b rb mb L vr kd d n td tn vv c 1000 xs vr w1) := HK.out.later q1
      clear q1 HK
      obtain ⟨⟨⟨o0, o1, o2, o3, o4, o5⟩, _⟩, ⟨⟨o6, o7⟩, _⟩, _⟩ := H1.out.2.1
      go_wp2_with fail
      refine (wrongIf_so 10 _).mono ?_
      rintro e w9 ⟨rfl, hw9⟩
      obtain rfl := hw9.symm
      exact ⟨rfl, vr, H1.out.1, Or.inr ⟨by decide, rfl, rfl, rfl, rfl⟩⟩
    have e3 : (td != d) = false := by simp [h2]
    rw [if_neg (fun q => q.2 h2)] at hp
    clear h2
    go_enter Tryz.func116, Tryz.ntmps116
    go_wp2_with fail
    refine (childDir_is c 1000 _).mono ?_
    rintro e w1 ⟨rfl, q1⟩
    have H1 : Hid (Wk w b rb mb L vr kd d n td tn vv c 1000 xs vr w1) := HK.out.later q1
    clear q1 HK
    obtain ⟨⟨⟨o0, o1, o2, o3, o4, o5⟩, _⟩, ⟨⟨o6, o7⟩, _⟩, _⟩ := H1.out.2.1
    go_wp2_with fail
    refine (wrongIf_no 10 _).mono ?_
    rintro e w9 ⟨rfl, hw9⟩
    obtain rfl := hw9.symm
    obtain ⟨tt, htq⟩ : ∃ tt, targetP L td tn xs = tt := ⟨_, rfl⟩
    rw [htq] at hp
    obtain ⟨t, zs⟩ := tt
    have HT : Hid (targetP L td tn xs = (t, zs)) := htq
    clear htq
    by_cases h0 : t = 0
    case neg =>
      rw [if_neg h0] at hp
      simp only [Prod.mk.injEq] at hp
      obtain ⟨rfl, rfl, rfl, rfl, rfl⟩ := hp
      have HN : Hid (t ≠ 0) := h0
      clear h0
      go_wp2_with fail
      refine (needFree_is L b rb mb xs vr td tn _ H1.out.1.1 HC.out.1 hn HC.out.2.2.2.1 HC.out.2.2.2.2.1 (by omega) _ _ HT.out).mono ?_
      rintro e w2 ⟨he, vz, l2, k2⟩
      have H2 : Hid (Wk w b rb mb L vr kd d n td tn vv c 1000 zs vz w2) := H1.out.keeps l2 k2
      clear l2 k2 H1 o0 o1 o2 o3 o4 o5 o6 o7
      rcases he with ⟨q, _⟩ | ⟨_, rfl⟩
      · exact absurd q HN.out
      exact ⟨rfl, vz, H2.out.1, Or.inr ⟨HN.out, rfl, rfl, rfl, rfl⟩⟩
    subst h0
    rw [if_pos rfl] at hp
    simp only [Prod.mk.injEq] at hp
    obtain ⟨rfl, rfl, rfl, rfl, rfl⟩ := hp
    go_wp2_with fail
    refine (needFree_is L b rb mb xs vr td tn _ H1.out.1.1 HC.out.1 hn HC.out.2.2.2.1 HC.out.2.2.2.2.1 (by omega) _ _ HT.out).mono ?_
    rintro e w2 ⟨he, vz, l2, k2⟩
    have H2 : Hid (Wk w b rb mb L vr kd d n td tn vv c 1000 zs vz w2) := H1.out.keeps l2 k2
    clear l2 k2 H1 o0 o1 o2 o3 o4 o5 o6 o7
    rcases he with ⟨_, rfl⟩ | ⟨q, _⟩
    case inr => exact absurd rfl q
    go_upto_region 3 with fail
    refine wp_region_held_drew (S := Wk w b rb mb L vr kd d n td tn vv c 1000 zs vz) (by kernel_rfl) H2.out.drew (fun hS => ?_)
    refine tkH 0 ?_ hS (fun wx hx => ?_) ?_; rotate_left
    · obtain ⟨_, ⟨⟨⟨hx0, hx1, hx2, hx3, hx4, hx5⟩, _⟩, ⟨⟨hx6, hx7⟩, _⟩, _⟩, _⟩ := hx; go_simp; try with_reducible rfl
    refine tkH 1 ?_ hS (fun wx hx => ?_) ?_; rotate_left
    · obtain ⟨_, ⟨⟨⟨hx0, hx1, hx2, hx3, hx4, hx5⟩, _⟩, ⟨⟨hx6, hx7⟩, _⟩, _⟩, _⟩ := hx; go_simp; try with_reducible rfl
    refine tkH 2 ?_ hS (fun wx hx => ?_) ?_; rotate_left
    · obtain ⟨_, ⟨⟨⟨hx0, hx1, hx2, hx3, hx4, hx5⟩, _⟩, ⟨⟨hx6, hx7⟩, _⟩, _⟩, _⟩ := hx; go_simp; try with_reducible rfl
    refine tkH 3 ?_ hS (fun wx hx => ?_) ?_; rotate_left
    · obtain ⟨_, ⟨⟨⟨hx0, hx1, hx2, hx3, hx4, hx5⟩, _⟩, ⟨⟨hx6, hx7⟩, _⟩, _⟩, _⟩ := hx; go_simp; try with_reducible rfl
    refine tkH 6 ?_ hS (fun wx hx => ?_) ?_; rotate_left
    · obtain ⟨_, ⟨⟨⟨hx0, hx1, hx2, hx3, hx4, hx5⟩, _⟩, ⟨⟨hx6, hx7⟩, _⟩, _⟩, _⟩ := hx; go_simp; try with_reducible rfl
    refine tkH 7 ?_ hS (fun wx hx => ?_) ?_; rotate_left
    · obtain ⟨_, ⟨⟨⟨hx0, hx1, hx2, hx3, hx4, hx5⟩, _⟩, ⟨⟨hx6, hx7⟩, _⟩, _⟩, _⟩ := hx; go_simp; try with_reducible rfl
    refine tkH 8 ?_ hS (fun wx hx => ?_) ?_; rotate_left
    · obtain ⟨_, ⟨⟨⟨hx0, hx1, hx2, hx3, hx4, hx5⟩, _⟩, ⟨⟨hx6, hx7⟩, _⟩, _⟩, _⟩ := hx; go_simp; try with_reducible rfl
    refine tkH 9 ?_ hS (fun wx hx => ?_) ?_; rotate_left
    · obtain ⟨_, ⟨⟨⟨hx0, hx1, hx2, hx3, hx4, hx5⟩, _⟩, ⟨⟨hx6, hx7⟩, _⟩, _⟩, _⟩ := hx; go_simp; try with_reducible rfl
    refine tkH 11 ?_ hS (fun wx hx => ?_) ?_; rotate_left
    · obtain ⟨_, ⟨⟨⟨hx0, hx1, hx2, hx3, hx4, hx5⟩, _⟩, ⟨⟨hx6, hx7⟩, _⟩, _⟩, _⟩ := hx; go_simp; try with_reducible rfl
    refine tkH 12 ?_ hS (fun wx hx => ?_) ?_; rotate_left
    · obtain ⟨_, ⟨⟨⟨hx0, hx1, hx2, hx3, hx4, hx5⟩, _⟩, ⟨⟨hx6, hx7⟩, _⟩, _⟩, _⟩ := hx; go_simp; try with_reducible rfl
    refine rdH 4 (fun K hK => ?_)
    go_simp
    go_wp2_with fail
    refine (entryKey_is d n HC.out.2.1 HC.out.2.2.1 _).mono ?_
    rintro e w3 ⟨rfl, q1⟩
    have hS1 := hS.later q1
    clear q1 hS
    go_wp2_with fail
    refine hK.out _ _ hS1 (fun hS => ?_)
    clear hK K
    clear hS1
    refine rdH 5 (fun K hK => ?_)
    go_simp
    go_wp2_with fail
    refine (deleteOf_is (kE d n) _).mono ?_
    rintro e w4 ⟨rfl, q1⟩
    have hS1 := hS.later q1
    clear q1 hS
    go_wp2_with fail
    refine hK.out _ _ hS1 (fun hS => ?_)
    clear hK K
    clear hS1
    refine rdH 10 (fun K hK => ?_)
    go_simp
    go_wp2_with fail
    refine (entryKey_is td tn HC.out.2.2.2.1 HC.out.2.2.2.2.1 _).mono ?_
    rintro e w5 ⟨rfl, q1⟩
    have hS1 := hS.later q1
    clear q1 hS
    go_wp2_with fail
    refine hK.out _ _ hS1 (fun hS => ?_)
    clear hK K
    clear hS1
    refine rdH 13 (fun K hK => ?_)
    go_simp
    go_wp2_with fail
    refine (putTo_is (kE td tn) c _).mono ?_
    rintro e w6 ⟨rfl, q1⟩
    have hS1 := hS.later q1
    clear q1 hS
    go_wp2_with fail
    refine hK.out _ _ hS1 (fun hS => ?_)
    clear hK K
    clear hS1
    refine rdH 14 (fun K hK => ?_)
    go_simp
    have HW : Hid (_ ∧ _) := hS.lit 2 [kE d n, 2, 0, kE td tn, 1, c] #[.int .i64 (kE d n), .int .i64 2, .int .i64 0, .int .i64 (kE td tn), .int .i64 1, .int .i64 c] (by simp) rfl (by omega)
    have hS4 := hS.alloc (.cells #[.int .i64 (kE d n), .int .i64 2, .int .i64 0, .int .i64 (kE td tn), .int .i64 1, .int .i64 c] 132)
    clear hS
    refine hK.out _ _ hS4 (fun hS => ?_)
    clear hK K
    clear hS4
    refine tkH 15 ?_ hS (fun wx hx => ?_) ?_; rotate_left
    · obtain ⟨_, ⟨⟨⟨hx0, hx1, hx2, hx3, hx4, hx5⟩, _⟩, ⟨⟨hx6, hx7⟩, _⟩, _⟩, _⟩ := hx; go_simp; try with_reducible rfl
    refine rdH 16 (fun K hK => ?_)
    refine step_storeP rfl _ _ rfl (w.heap.size + 2) _ _ _ _ _ rfl rfl hS.2.1.2.2 (by kernel_rfl) ?_
    have HS5 : Hid (Wk w b rb mb L vr kd d n td tn vv c 1000 zs vz _) := hS
    have hS5 := hS.rowed hmb #[.int .i64 0, .int .i64 0, .int .i64 0, .slice none 0 0, .slice (some ⟨w6.heap.size, 0, none⟩) 2 2] rfl
    clear hS
    refine hK.out _ _ hS5 (fun hS => ?_)
    clear hK K
    clear hS5
    refine wpAnyH_done (by kernel_rfl) ?_ _
    go_simp
    go_wp2
    exact bodyPost_ret (v := .agg #[.int .i64 0, .int .i64 0, .int .i64 0, .slice none 0 0, .slice (some ⟨w6.heap.size, 0, none⟩) 2 2]) (results_pl Tryz.results116 _ _ _ _ _ _ _ _ rfl HS5.out.2.1.2.2) rfl (HS5.out.told hmb 0 _ _ _ _ HW.out.1 HW.out.2 _ rfl)
  have e1 : (cv == 1000) = false := beq_eq_false_iff_ne.2 h1
  rw [if_neg (fun q => h1 q.1)] at hp
  clear h1
  go_enter Tryz.func116, Tryz.ntmps116
  go_wp2_with fail
  refine (childDir_is c cv _).mono ?_
  rintro e w1 ⟨rfl, q1⟩
  have H1 : Hid (Wk w b rb mb L vr kd d n td tn vv c cv xs vr w1) := HK.out.later q1
  clear q1 HK
  obtain ⟨⟨⟨o0, o1, o2, o3, o4, o5⟩, _⟩, ⟨⟨o6, o7⟩, _⟩, _⟩ := H1.out.2.1
  rw [e1]
  go_wp2_with fail
  refine (wrongIf_no 10 _).mono ?_
  rintro e w9 ⟨rfl, hw9⟩
  obtain rfl := hw9.symm
  obtain ⟨tt, htq⟩ : ∃ tt, targetP L td tn xs = tt := ⟨_, rfl⟩
  rw [htq] at hp
  obtain ⟨t, zs⟩ := tt
  have HT : Hid (targetP L td tn xs = (t, zs)) := htq
  clear htq
  by_cases h0 : t = 0
  case neg =>
    rw [if_neg h0] at hp
    simp only [Prod.mk.injEq] at hp
    obtain ⟨rfl, rfl, rfl, rfl, rfl⟩ := hp
    have HN : Hid (t ≠ 0) := h0
    clear h0
    go_wp2_with fail
    refine (needFree_is L b rb mb xs vr td tn _ H1.out.1.1 HC.out.1 hn HC.out.2.2.2.1 HC.out.2.2.2.2.1 (by omega) _ _ HT.out).mono ?_
    rintro e w2 ⟨he, vz, l2, k2⟩
    have H2 : Hid (Wk w b rb mb L vr kd d n td tn vv c cv zs vz w2) := H1.out.keeps l2 k2
    clear l2 k2 H1 o0 o1 o2 o3 o4 o5 o6 o7
    rcases he with ⟨q, _⟩ | ⟨_, rfl⟩
    · exact absurd q HN.out
    exact ⟨rfl, vz, H2.out.1, Or.inr ⟨HN.out, rfl, rfl, rfl, rfl⟩⟩
  subst h0
  rw [if_pos rfl] at hp
  simp only [Prod.mk.injEq] at hp
  obtain ⟨rfl, rfl, rfl, rfl, rfl⟩ := hp
  go_wp2_with fail
  refine (needFree_is L b rb mb xs vr td tn _ H1.out.1.1 HC.out.1 hn HC.out.2.2.2.1 HC.out.2.2.2.2.1 (by omega) _ _ HT.out).mono ?_
  rintro e w2 ⟨he, vz, l2, k2⟩
  have H2 : Hid (Wk w b rb mb L vr kd d n td tn vv c cv zs vz w2) := H1.out.keeps l2 k2
  clear l2 k2 H1 o0 o1 o2 o3 o4 o5 o6 o7
  rcases he with ⟨_, rfl⟩ | ⟨q, _⟩
  case inr => exact absurd rfl q
  go_upto_region 3 with fail
  refine wp_region_held_drew (S := Wk w b rb mb L vr kd d n td tn vv c cv zs vz) (by kernel_rfl) H2.out.drew (fun hS => ?_)
  refine tkH 0 ?_ hS (fun wx hx => ?_) ?_; rotate_left
  · obtain ⟨_, ⟨⟨⟨hx0, hx1, hx2, hx3, hx4, hx5⟩, _⟩, ⟨⟨hx6, hx7⟩, _⟩, _⟩, _⟩ := hx; go_simp; try with_reducible rfl
  refine tkH 1 ?_ hS (fun wx hx => ?_) ?_; rotate_left
  · obtain ⟨_, ⟨⟨⟨hx0, hx1, hx2, hx3, hx4, hx5⟩, _⟩, ⟨⟨hx6, hx7⟩, _⟩, _⟩, _⟩ := hx; go_simp; try with_reducible rfl
  refine tkH 2 ?_ hS (fun wx hx => ?_) ?_; rotate_left
  · obtain ⟨_, ⟨⟨⟨hx0, hx1, hx2, hx3, hx4, hx5⟩, _⟩, ⟨⟨hx6, hx7⟩, _⟩, _⟩, _⟩ := hx; go_simp; try with_reducible rfl
  refine tkH 3 ?_ hS (fun wx hx => ?_) ?_; rotate_left
  · obtain ⟨_, ⟨⟨⟨hx0, hx1, hx2, hx3, hx4, hx5⟩, _⟩, ⟨⟨hx6, hx7⟩, _⟩, _⟩, _⟩ := hx; go_simp; try with_reducible rfl
  refine tkH 6 ?_ hS (fun wx hx => ?_) ?_; rotate_left
  · obtain ⟨_, ⟨⟨⟨hx0, hx1, hx2, hx3, hx4, hx5⟩, _⟩, ⟨⟨hx6, hx7⟩, _⟩, _⟩, _⟩ := hx; go_simp; try with_reducible rfl
  refine tkH 7 ?_ hS (fun wx hx => ?_) ?_; rotate_left
  · obtain ⟨_, ⟨⟨⟨hx0, hx1, hx2, hx3, hx4, hx5⟩, _⟩, ⟨⟨hx6, hx7⟩, _⟩, _⟩, _⟩ := hx; go_simp; try with_reducible rfl
  refine tkH 8 ?_ hS (fun wx hx => ?_) ?_; rotate_left
  · obtain ⟨_, ⟨⟨⟨hx0, hx1, hx2, hx3, hx4, hx5⟩, _⟩, ⟨⟨hx6, hx7⟩, _⟩, _⟩, _⟩ := hx; go_simp; try with_reducible rfl
  refine tkH 9 ?_ hS (fun wx hx => ?_) ?_; rotate_left
  · obtain ⟨_, ⟨⟨⟨hx0, hx1, hx2, hx3, hx4, hx5⟩, _⟩, ⟨⟨hx6, hx7⟩, _⟩, _⟩, _⟩ := hx; go_simp; try with_reducible rfl
  refine tkH 11 ?_ hS (fun wx hx => ?_) ?_; rotate_left
  · obtain ⟨_, ⟨⟨⟨hx0, hx1, hx2, hx3, hx4, hx5⟩, _⟩, ⟨⟨hx6, hx7⟩, _⟩, _⟩, _⟩ := hx; go_simp; try with_reducible rfl
  refine tkH 12 ?_ hS (fun wx hx => ?_) ?_; rotate_left
  · obtain ⟨_, ⟨⟨⟨hx0, hx1, hx2, hx3, hx4, hx5⟩, _⟩, ⟨⟨hx6, hx7⟩, _⟩, _⟩, _⟩ := hx; go_simp; try with_reducible rfl
  refine rdH 4 (fun K hK => ?_)
  go_simp
  go_wp2_with fail
  refine (entryKey_is d n HC.out.2.1 HC.out.2.2.1 _).mono ?_
  rintro e w3 ⟨rfl, q1⟩
  have hS1 := hS.later q1
  clear q1 hS
  go_wp2_with fail
  refine hK.out _ _ hS1 (fun hS => ?_)
  clear hK K
  clear hS1
  refine rdH 5 (fun K hK => ?_)
  go_simp
  go_wp2_with fail
  refine (deleteOf_is (kE d n) _).mono ?_
  rintro e w4 ⟨rfl, q1⟩
  have hS1 := hS.later q1
  clear q1 hS
  go_wp2_with fail
  refine hK.out _ _ hS1 (fun hS => ?_)
  clear hK K
  clear hS1
  refine rdH 10 (fun K hK => ?_)
  go_simp
  go_wp2_with fail
  refine (entryKey_is td tn HC.out.2.2.2.1 HC.out.2.2.2.2.1 _).mono ?_
  rintro e w5 ⟨rfl, q1⟩
  have hS1 := hS.later q1
  clear q1 hS
  go_wp2_with fail
  refine hK.out _ _ hS1 (fun hS => ?_)
  clear hK K
  clear hS1
  refine rdH 13 (fun K hK => ?_)
  go_simp
  go_wp2_with fail
  refine (putTo_is (kE td tn) c _).mono ?_
  rintro e w6 ⟨rfl, q1⟩
  have hS1 := hS.later q1
  clear q1 hS
  go_wp2_with fail
  refine hK.out _ _ hS1 (fun hS => ?_)
  clear hK K
  clear hS1
  refine rdH 14 (fun K hK => ?_)
  go_simp
  have HW : Hid (_ ∧ _) := hS.lit 2 [kE d n, 2, 0, kE td tn, 1, c] #[.int .i64 (kE d n), .int .i64 2, .int .i64 0, .int .i64 (kE td tn), .int .i64 1, .int .i64 c] (by simp) rfl (by omega)
  have hS4 := hS.alloc (.cells #[.int .i64 (kE d n), .int .i64 2, .int .i64 0, .int .i64 (kE td tn), .int .i64 1, .int .i64 c] 132)
  clear hS
  refine hK.out _ _ hS4 (fun hS => ?_)
  clear hK K
  clear hS4
  refine tkH 15 ?_ hS (fun wx hx => ?_) ?_; rotate_left
  · obtain ⟨_, ⟨⟨⟨hx0, hx1, hx2, hx3, hx4, hx5⟩, _⟩, ⟨⟨hx6, hx7⟩, _⟩, _⟩, _⟩ := hx; go_simp; try with_reducible rfl
  refine rdH 16 (fun K hK => ?_)
  refine step_storeP rfl _ _ rfl (w.heap.size + 2) _ _ _ _ _ rfl rfl hS.2.1.2.2 (by kernel_rfl) ?_
  have HS5 : Hid (Wk w b rb mb L vr kd d n td tn vv c cv zs vz _) := hS
  have hS5 := hS.rowed hmb #[.int .i64 0, .int .i64 0, .int .i64 0, .slice none 0 0, .slice (some ⟨w6.heap.size, 0, none⟩) 2 2] rfl
  clear hS
  refine hK.out _ _ hS5 (fun hS => ?_)
  clear hK K
  clear hS5
  refine wpAnyH_done (by kernel_rfl) ?_ _
  go_simp
  go_wp2
  exact bodyPost_ret (v := .agg #[.int .i64 0, .int .i64 0, .int .i64 0, .slice none 0 0, .slice (some ⟨w6.heap.size, 0, none⟩) 2 2]) (results_pl Tryz.results116 _ _ _ _ _ _ _ _ rfl HS5.out.2.1.2.2) rfl (HS5.out.told hmb 0 _ _ _ _ HW.out.1 HW.out.2 _ rfl)
end Go.Proofs.YtnchaccgenfhoaaGreat

namespace Go.Proofs.YtnchaccgenfhoaaGreat
open Go.RowKit

theorem wrap_id {a : Int} (h0 : -1 ≤ a) (h1 : a ≤ 100000) : IntKind.i64.wrap a = a := by simp [IntKind.wrap, IntKind.bits, IntKind.signed]; omega
set_option maxRecDepth 100000 in
set_option maxHeartbeats 4000000 in
theorem planLink_is (L : Prs) (b rb mb : Nat) (xs : List Int) (vr : Value) (kd d n td tn vv c cv : Int) (w : World) (h : Looks w b rb mb L xs vr) (hrs : Rises L) (hn : L.length ≤ 1000) (hd : 0 ≤ d ∧ d ≤ 9) (hnm : 0 ≤ n ∧ n ≤ 5) (htd : 0 ≤ td ∧ td ≤ 9) (htn : 0 ≤ tn ∧ tn ≤ 5) (hc : 0 ≤ c ∧ c ≤ 9) (hcv : 0 ≤ cv ∧ cv ≤ 9999) (hx : xs.length ≤ 800) (r v : Int) (ys : List Int) (m : Nat) (W : List Int) (hp : linkP L td tn c cv xs = (r, v, ys, m, W)) :
    Calls Tryz.prog 117 #[.pointer (some ⟨b, 0, none⟩), .agg #[.int .i64 kd, .int .i64 d, .int .i64 n, .int .i64 td, .int .i64 tn, .int .i64 vv], .agg #[.int .i64 c, .int .i64 cv]] w (PlanEnd w b rb mb L vr r v ys m W) := by
  have hmb : mb < w.heap.size := h.2.2.1.lt
  have HC : Hid (Rises L ∧ (0 ≤ d ∧ d ≤ 9) ∧ (0 ≤ n ∧ n ≤ 5) ∧ (0 ≤ td ∧ td ≤ 9) ∧ (0 ≤ tn ∧ tn ≤ 5) ∧ (0 ≤ c ∧ c ≤ 9)) := ⟨hrs, hd, hnm, htd, htn, hc⟩
  have HK : Hid (Wk w b rb mb L vr kd d n td tn vv c cv xs vr (((w.alloc (opO kd d n td tn vv)).alloc (chO c cv)).alloc zeroPl)) := Wk.new h _ _ _ _ _ _ _ _
  have hit2 := fun a0 a1 a2 b0 b1 b2 w => run_items2 a0 a1 a2 b0 b1 b2 w
  obtain ⟨hv0, hv9⟩ := hcv
  clear h hrs hd hnm htd htn hc
  unfold linkP at hp
  by_cases h1 : cv = 1000
  · subst h1
    rw [if_pos rfl] at hp
    simp only [Prod.mk.injEq] at hp
    obtain ⟨rfl, rfl, rfl, rfl, rfl⟩ := hp
    go_enter Tryz.func117, Tryz.ntmps117
    go_wp2_with fail
    refine (childDir_is c 1000 _).mono ?_
    rintro e w1 ⟨rfl, q1⟩
    have H1 : Hid (Wk w b rb mb L vr kd d n td tn vv c 1000 xs vr w1) := HK.out.later q1
    clear q1 HK
    go_wp2_with fail
    refine (wrongIf_so 9 _).mono ?_
    rintro e w9 ⟨rfl, hw9⟩
    obtain rfl := hw9.symm
    exact ⟨rfl, vr, H1.out.1, Or.inr ⟨by decide, rfl, rfl, rfl, rfl⟩⟩
  have e1 : (cv == 1000) = false := beq_eq_false_iff_ne.2 h1
  rw [if_neg h1] at hp
  clear h1
  go_enter Tryz.func117, Tryz.ntmps117
  go_wp2_with fail
  refine (childDir_is c cv _).mono ?_
  rintro e w1 ⟨rfl, q1⟩
  have H1 : Hid (Wk w b rb mb L vr kd d n td tn vv c cv xs vr w1) := HK.out.later q1
  clear q1 HK
  obtain ⟨⟨⟨o0, o1, o2, o3, o4, o5⟩, _⟩, ⟨⟨o6, o7⟩, _⟩, _⟩ := H1.out.2.1
  rw [e1]
  go_wp2_with fail
  refine (wrongIf_no 9 _).mono ?_
  rintro e w9 ⟨rfl, hw9⟩
  obtain rfl := hw9.symm
  obtain ⟨tt, htq⟩ : ∃ tt, targetP L td tn xs = tt := ⟨_, rfl⟩
  rw [htq] at hp
  obtain ⟨t, zs⟩ := tt
  have HT : Hid (targetP L td tn xs = (t, zs)) := htq
  clear htq
  by_cases h0 : t = 0
  case neg =>
    rw [if_neg h0] at hp
    simp only [Prod.mk.injEq] at hp
    obtain ⟨rfl, rfl, rfl, rfl, rfl⟩ := hp
    have HN : Hid (t ≠ 0) := h0
    clear h0
    go_wp2_with fail
    refine (needFree_is L b rb mb xs vr td tn _ H1.out.1.1 HC.out.1 hn HC.out.2.2.2.1 HC.out.2.2.2.2.1 (by omega) _ _ HT.out).mono ?_
    rintro e w2 ⟨he, vz, l2, k2⟩
    have H2 : Hid (Wk w b rb mb L vr kd d n td tn vv c cv zs vz w2) := H1.out.keeps l2 k2
    clear l2 k2 H1 o0 o1 o2 o3 o4 o5 o6 o7
    rcases he with ⟨q, _⟩ | ⟨_, rfl⟩
    · exact absurd q HN.out
    exact ⟨rfl, vz, H2.out.1, Or.inr ⟨HN.out, rfl, rfl, rfl, rfl⟩⟩
  subst h0
  rw [if_pos rfl] at hp
  go_wp2_with fail
  refine (needFree_is L b rb mb xs vr td tn _ H1.out.1.1 HC.out.1 hn HC.out.2.2.2.1 HC.out.2.2.2.2.1 (by omega) _ _ HT.out).mono ?_
  rintro e w2 ⟨he, vz, l2, k2⟩
  have H2 : Hid (Wk w b rb mb L vr kd d n td tn vv c cv zs vz w2) := H1.out.keeps l2 k2
  clear l2 k2 H1 o0 o1 o2 o3 o4 o5 o6 o7
  rcases he with ⟨_, rfl⟩ | ⟨q, _⟩
  case inr => exact absurd rfl q
  obtain ⟨⟨⟨o0, o1, o2, o3, o4, o5⟩, _⟩, ⟨⟨o6, o7⟩, _⟩, _⟩ := H2.out.2.1
  by_cases h2 : 2099 ≤ cv
  · have e2 : decide (2099 ≤ cv) = true := decide_eq_true h2
    rw [if_pos h2] at hp
    simp only [Prod.mk.injEq] at hp
    obtain ⟨rfl, rfl, rfl, rfl, rfl⟩ := hp
    clear h2
    go_wp2_with fail
    refine (wrongIf_so 2 _).mono ?_
    rintro e w9 ⟨rfl, hw9⟩
    obtain rfl := hw9.symm
    exact ⟨rfl, vz, H2.out.1, Or.inr ⟨by decide, rfl, rfl, rfl, rfl⟩⟩
  have e2 : decide (2099 ≤ cv) = false := decide_eq_false h2
  rw [if_neg h2] at hp
  simp only [Prod.mk.injEq] at hp
  obtain ⟨rfl, rfl, rfl, rfl, rfl⟩ := hp
  clear h2
  go_wp2_with fail
  refine (wrongIf_no 2 _).mono ?_
  rintro e w9 ⟨rfl, hw9⟩
  obtain rfl := hw9.symm
  clear o0 o1 o2 o3 o4 o5 o6 o7
  have hwr : IntKind.i64.wrap (cv + 1) = cv + 1 := wrap_id (by omega) (by omega)
  go_upto_region 4 with fail
  refine wp_region_held_drew (S := Wk w b rb mb L vr kd d n td tn vv c cv zs vz) (by kernel_rfl) H2.out.drew (fun hS => ?_)
  refine tkH 0 ?_ hS (fun wx hx => ?_) ?_; rotate_left
  · obtain ⟨_, ⟨⟨⟨hx0, hx1, hx2, hx3, hx4, hx5⟩, _⟩, ⟨⟨hx6, hx7⟩, _⟩, _⟩, _⟩ := hx; go_simp; try with_reducible rfl
  refine tkH 1 ?_ hS (fun wx hx => ?_) ?_; rotate_left
  · obtain ⟨_, ⟨⟨⟨hx0, hx1, hx2, hx3, hx4, hx5⟩, _⟩, ⟨⟨hx6, hx7⟩, _⟩, _⟩, _⟩ := hx; go_simp; try with_reducible rfl
  refine tkH 3 ?_ hS (fun wx hx => ?_) ?_; rotate_left
  · obtain ⟨_, ⟨⟨⟨hx0, hx1, hx2, hx3, hx4, hx5⟩, _⟩, ⟨⟨hx6, hx7⟩, _⟩, _⟩, _⟩ := hx; go_simp; try with_reducible rfl
  refine tkH 4 ?_ hS (fun wx hx => ?_) ?_; rotate_left
  · obtain ⟨_, ⟨⟨⟨hx0, hx1, hx2, hx3, hx4, hx5⟩, _⟩, ⟨⟨hx6, hx7⟩, _⟩, _⟩, _⟩ := hx; go_simp; try with_reducible rfl
  refine tkH 5 ?_ hS (fun wx hx => ?_) ?_; rotate_left
  · obtain ⟨_, ⟨⟨⟨hx0, hx1, hx2, hx3, hx4, hx5⟩, _⟩, ⟨⟨hx6, hx7⟩, _⟩, _⟩, _⟩ := hx; go_simp; try with_reducible rfl
  refine tkH 7 ?_ hS (fun wx hx => ?_) ?_; rotate_left
  · obtain ⟨_, ⟨⟨⟨hx0, hx1, hx2, hx3, hx4, hx5⟩, _⟩, ⟨⟨hx6, hx7⟩, _⟩, _⟩, _⟩ := hx; go_simp; try with_reducible rfl
  refine tkH 8 ?_ hS (fun wx hx => ?_) ?_; rotate_left
  · obtain ⟨_, ⟨⟨⟨hx0, hx1, hx2, hx3, hx4, hx5⟩, _⟩, ⟨⟨hx6, hx7⟩, _⟩, _⟩, _⟩ := hx; go_simp; try with_reducible rfl
  refine tkH 9 ?_ hS (fun wx hx => ?_) ?_; rotate_left
  · obtain ⟨_, ⟨⟨⟨hx0, hx1, hx2, hx3, hx4, hx5⟩, _⟩, ⟨⟨hx6, hx7⟩, _⟩, _⟩, _⟩ := hx; go_simp; try with_reducible rfl
  refine tkH 10 ?_ hS (fun wx hx => ?_) ?_; rotate_left
  · obtain ⟨_, ⟨⟨⟨hx0, hx1, hx2, hx3, hx4, hx5⟩, _⟩, ⟨⟨hx6, hx7⟩, _⟩, _⟩, _⟩ := hx; go_simp; try with_reducible rfl
  refine tkH 12 ?_ hS (fun wx hx => ?_) ?_; rotate_left
  · obtain ⟨_, ⟨⟨⟨hx0, hx1, hx2, hx3, hx4, hx5⟩, _⟩, ⟨⟨hx6, hx7⟩, _⟩, _⟩, _⟩ := hx; go_simp; try with_reducible rfl
  refine tkH 13 ?_ hS (fun wx hx => ?_) ?_; rotate_left
  · obtain ⟨_, ⟨⟨⟨hx0, hx1, hx2, hx3, hx4, hx5⟩, _⟩, ⟨⟨hx6, hx7⟩, _⟩, _⟩, _⟩ := hx; go_simp; try with_reducible rfl
  refine rdH 2 (fun K hK => ?_)
  go_simp
  go_wp2_with fail
  refine (inodeKey_is c HC.out.2.2.2.2.2 _).mono ?_
  rintro e w3 ⟨rfl, q1⟩
  have hS1 := hS.later q1
  clear q1 hS
  go_wp2_with fail
  refine hK.out _ _ hS1 (fun hS => ?_)
  clear hK K
  clear hS1
  refine rdH 6 (fun K hK => ?_)
  go_simp
  go_wp2_with fail
  refine (putTo_is (kI c) (cv + 1) _).mono ?_
  rintro e w4 ⟨rfl, q1⟩
  have hS1 := hS.later q1
  clear q1 hS
  go_wp2_with fail
  refine hK.out _ _ hS1 (fun hS => ?_)
  clear hK K
  clear hS1
  refine rdH 11 (fun K hK => ?_)
  go_simp
  go_wp2_with fail
  refine (entryKey_is td tn HC.out.2.2.2.1 HC.out.2.2.2.2.1 _).mono ?_
  rintro e w5 ⟨rfl, q1⟩
  have hS1 := hS.later q1
  clear q1 hS
  go_wp2_with fail
  refine hK.out _ _ hS1 (fun hS => ?_)
  clear hK K
  clear hS1
  refine rdH 14 (fun K hK => ?_)
  go_simp
  go_wp2_with fail
  refine (putTo_is (kE td tn) c _).mono ?_
  rintro e w6 ⟨rfl, q1⟩
  have hS1 := hS.later q1
  clear q1 hS
  go_wp2_with fail
  refine hK.out _ _ hS1 (fun hS => ?_)
  clear hK K
  clear hS1
  refine rdH 15 (fun K hK => ?_)
  go_simp
  have HW : Hid (_ ∧ _) := hS.lit 2 [kI c, 1, cv + 1, kE td tn, 1, c] #[.int .i64 (kI c), .int .i64 1, .int .i64 (cv + 1), .int .i64 (kE td tn), .int .i64 1, .int .i64 c] (by simp) rfl (by omega)
  have hS4 := hS.alloc (.cells #[.int .i64 (kI c), .int .i64 1, .int .i64 (cv + 1), .int .i64 (kE td tn), .int .i64 1, .int .i64 c] 132)
  clear hS
  refine hK.out _ _ hS4 (fun hS => ?_)
  clear hK K
  clear hS4
  refine tkH 16 ?_ hS (fun wx hx => ?_) ?_; rotate_left
  · obtain ⟨_, ⟨⟨⟨hx0, hx1, hx2, hx3, hx4, hx5⟩, _⟩, ⟨⟨hx6, hx7⟩, _⟩, _⟩, _⟩ := hx; go_simp; try with_reducible rfl
  refine rdH 17 (fun K hK => ?_)
  refine step_storeP rfl _ _ rfl (w.heap.size + 2) _ _ _ _ _ rfl rfl hS.2.1.2.2 (by kernel_rfl) ?_
  have HS5 : Hid (Wk w b rb mb L vr kd d n td tn vv c cv zs vz _) := hS
  have hS5 := hS.rowed hmb #[.int .i64 0, .int .i64 0, .int .i64 0, .slice none 0 0, .slice (some ⟨w6.heap.size, 0, none⟩) 2 2] rfl
  clear hS
  refine hK.out _ _ hS5 (fun hS => ?_)
  clear hK K
  clear hS5
  refine wpAnyH_done (by kernel_rfl) ?_ _
  go_simp
  go_wp2
  exact bodyPost_ret (v := .agg #[.int .i64 0, .int .i64 0, .int .i64 0, .slice none 0 0, .slice (some ⟨w6.heap.size, 0, none⟩) 2 2]) (results_pl Tryz.results117 _ _ _ _ _ _ _ _ rfl HS5.out.2.1.2.2) rfl (HS5.out.told hmb 0 _ _ _ _ HW.out.1 HW.out.2 _ rfl)
/-- What stands while a new one is planned. -/
def Wn (w : World) (b rb mb : Nat) (L : Prs) (vr : Value) (kd d n td tn vv : Int) (xs : List Int) (vz : Value) (X : World) : Prop :=
  (Looks X b rb mb L xs vz ∧ Keeps w X b mb vr vz) ∧ (opB X w.heap.size kd d n td tn vv ∧ PBk X (w.heap.size + 1)) ∧ Off X b mb vz w.heap.size ∧ Off X b mb vz (w.heap.size + 1)
theorem Wn.keeps {w X X' : World} {b rb mb : Nat} {L : Prs} {vr vz vy : Value} {kd d n td tn vv : Int} {xs ys : List Int} (h : Wn w b rb mb L vr kd d n td tn vv xs vz X) (hl : Looks X' b rb mb L ys vy) (hk : Keeps X X' b mb vz vy) : Wn w b rb mb L vr kd d n td tn vv ys vy X' :=
  ⟨⟨hl, h.1.2.trans hk⟩, ⟨h.2.1.1.kept (hk.off h.2.2.1).2, h.2.1.2.kept (hk.off h.2.2.2).2⟩, (hk.off h.2.2.1).1, (hk.off h.2.2.2).1⟩
theorem Wn.later {w X X' : World} {b rb mb : Nat} {L : Prs} {vr vz : Value} {kd d n td tn vv : Int} {xs : List Int} (h : Wn w b rb mb L vr kd d n td tn vv xs vz X) (hb : Below X.heap.size X X') : Wn w b rb mb L vr kd d n td tn vv xs vz X' := h.keeps (h.1.1.later hb) (Keeps.below _ _ _ hb)
theorem Wn.drew {w X : World} {b rb mb : Nat} {L : Prs} {vr vz : Value} {kd d n td tn vv : Int} {xs : List Int} (h : Wn w b rb mb L vr kd d n td tn vv xs vz X) : Wn w b rb mb L vr kd d n td tn vv xs vz X.drew := h.later ⟨rfl, rfl, rfl, Nat.le_refl _, fun _ _ => rfl⟩
theorem Wn.alloc {w X : World} {b rb mb : Nat} {L : Prs} {vr vz : Value} {kd d n td tn vv : Int} {xs : List Int} (h : Wn w b rb mb L vr kd d n td tn vv xs vz X) (o : Obj) : Wn w b rb mb L vr kd d n td tn vv xs vz (X.alloc o) := h.later (below_alloc _ _)
theorem Wn.new {w : World} {b rb mb : Nat} {L : Prs} {vr : Value} {xs : List Int} (h : Looks w b rb mb L xs vr) (kd d n td tn vv : Int) : Wn w b rb mb L vr kd d n td tn vv xs vr ((w.alloc (opO kd d n td tn vv)).alloc zeroPl) := by
  refine ⟨⟨(h.alloc _).alloc _, Keeps.below _ _ _ ((below_alloc _ _).alloc (by simp) _)⟩, ⟨(Blk6.new w _ _ _ _ _ _ _).alloc _, ?_⟩, h.off2 (Nat.le_refl _) (by simp; omega), h.off2 (Nat.le_succ _) (by simp)⟩
  have q := PBk.new (w.alloc (opO kd d n td tn vv)) (.int .i64 0) (.int .i64 0) (.int .i64 0) (.slice none 0 0) (.slice none 0 0)
  rwa [World.size_alloc] at q
theorem Wn.rowed {w X : World} {b rb mb : Nat} {L : Prs} {vr vz : Value} {kd d n td tn vv : Int} {xs : List Int} (h : Wn w b rb mb L vr kd d n td tn vv xs vz X) (hmb : mb < w.heap.size) (cs : Array Value) (hcs : cs.size = 5) : Wn w b rb mb L vr kd d n td tn vv xs vz (X.setRow (w.heap.size + 1) cs) := by
  refine ⟨⟨h.1.1.offs h.2.2.2 (fun k hk => heap_setRow _ _ _ _ hk), h.1.2.offs (by rw [size_setRow]) (fun k hk => heap_setRow _ _ _ _ hk) ⟨rfl, rfl, rfl⟩ (by omega)⟩, ⟨h.2.1.1.kept (heap_setRow _ _ _ _ (by omega)), ?_⟩, ⟨by rw [size_setRow]; exact h.2.2.1.1, h.2.2.1.2⟩, ⟨by rw [size_setRow]; exact h.2.2.2.1, h.2.2.2.2⟩⟩
  obtain ⟨old, hg, _⟩ := h.2.1.2
  exact ⟨cs, by simp [World.setRow, Array.getElem?_modify, hg], hcs⟩
theorem Wn.told {w X : World} {b rb mb : Nat} {L : Prs} {vr vz : Value} {kd d n td tn vv : Int} {xs : List Int} (h : Wn w b rb mb L vr kd d n td tn vv xs vz X) (hmb : mb < w.heap.size) (v : Int) (vw : Value) (m : Nat) (W : List Int) (cs : Array Value) (ho : OwnM X (w.heap.size + 2) 132 3 vw m W) (hd : ∀ k, vz.ownBlock = some k → vw.ownBlock ≠ some k) (e : Ending) (he : e = .returned (.agg #[.int .i64 0, .int .i64 0, .int .i64 v, .slice none 0 0, vw])) : PlanEnd w b rb mb L vr 0 v xs m W e (X.setRow (w.heap.size + 1) cs) :=
  ⟨vz, ⟨h.1.1.offs h.2.2.2 (fun k hk => heap_setRow _ _ _ _ hk), h.1.2.offs (by rw [size_setRow]) (fun k hk => heap_setRow _ _ _ _ hk) ⟨rfl, rfl, rfl⟩ (by omega)⟩, Or.inl ⟨rfl, vw, he, OwnM.monoP (OwnM.kept ho fun g hg _ => heap_setRow _ _ _ _ (by omega)) (by omega), hd⟩⟩
theorem Wn.lit {w X : World} {b rb mb : Nat} {L : Prs} {vr vz : Value} {kd d n td tn vv : Int} {xs : List Int} (h : Wn w b rb mb L vr kd d n td tn vv xs vz X) (m : Nat) (W : List Int) (cs : Array Value) (hcs : cs = (W.map (Value.int .i64)).toArray) (hl : W.length = m * 3) (hm : m ≤ 1000) :
    OwnM (X.alloc (.cells cs 132)) (w.heap.size + 2) 132 3 (.slice (some ⟨X.heap.size, 0, none⟩) m m) m W ∧ ∀ k, vz.ownBlock = some k → (Value.slice (some ⟨X.heap.size, 0, none⟩) m m).ownBlock ≠ some k :=
  ⟨OwnM.monoP (OwnM.lit X 132 3 m W cs hcs hl (by unfold maxLen; omega)) (by have := h.2.1.2.lt; omega), fun k hk e => by have := (h.1.1.2.2.2.1.lt k hk).2; simp [Value.ownBlock] at e; omega⟩
theorem run_items3 (a0 a1 a2 b0 b1 b2 c0 c1 c2 : Int) (w : World) : (Instr.buildSlice 79 3 #[(0, .agg #[.int .i64 a0, .int .i64 a1, .int .i64 a2]), (1, .agg #[.int .i64 b0, .int .i64 b1, .int .i64 b2]), (2, .agg #[.int .i64 c0, .int .i64 c1, .int .i64 c2])]).run Tryz.prog w = .ok (.slice (some ⟨w.heap.size, 0, none⟩) 3 3) (w.alloc (.cells #[.int .i64 a0, .int .i64 a1, .int .i64 a2, .int .i64 b0, .int .i64 b1, .int .i64 b2, .int .i64 c0, .int .i64 c1, .int .i64 c2] 132)) := by
  first | kernel_rfl | rfl
set_option maxRecDepth 100000 in
set_option maxHeartbeats 4000000 in
theorem planNew_is (L : Prs) (b rb mb : Nat) (xs : List Int) (vr : Value) (kd d n td tn vv : Int) (w : World) (h : Looks w b rb mb L xs vr) (hrs : Rises L) (hn : L.length ≤ 1000) (hd : 0 ≤ d ∧ d ≤ 9) (hnm : 0 ≤ n ∧ n ≤ 5) (hkd : kd = 1 ∨ kd = 2) (hx : xs.length ≤ 900) (r v : Int) (ys : List Int) (m : Nat) (W : List Int) (hp : makeP L kd d n xs = (r, v, ys, m, W)) :
    Calls Tryz.prog 113 #[.pointer (some ⟨b, 0, none⟩), .agg #[.int .i64 kd, .int .i64 d, .int .i64 n, .int .i64 td, .int .i64 tn, .int .i64 vv]] w (PlanEnd w b rb mb L vr r v ys m W) := by
  have hmb : mb < w.heap.size := h.2.2.1.lt
  have HC : Hid (Rises L ∧ (0 ≤ d ∧ d ≤ 9) ∧ (0 ≤ n ∧ n ≤ 5)) := ⟨hrs, hd, hnm⟩
  have HK : Hid (Wn w b rb mb L vr kd d n td tn vv xs vr ((w.alloc (opO kd d n td tn vv)).alloc zeroPl)) := Wn.new h _ _ _ _ _ _
  have hit3 := fun a0 a1 a2 b0 b1 b2 c0 c1 c2 w => run_items3 a0 a1 a2 b0 b1 b2 c0 c1 c2 w
  have fs := fun h v w => field_sight1 h v w
  obtain ⟨s, hsq⟩ : ∃ s, lookF L 0 = s := ⟨_, rfl⟩
  obtain ⟨sh, sz⟩ := s
  have HL : Hid (lookF L 0 = (sh, sz)) := hsq
  unfold makeP at hp
  rw [hsq] at hp
  clear h hrs hd hnm hsq
  by_cases h1 : 1 ≤ sz ∧ sz ≤ 9
  case neg =>
    rw [if_neg h1] at hp
    simp only [Prod.mk.injEq] at hp
    obtain ⟨rfl, rfl, rfl, rfl, rfl⟩ := hp
    by_cases h2 : sz < 1
    focus
      have d1 : decide (sz < 1) = true := decide_eq_true h2
    rotate_left
    focus
      have d1 : decide (sz < 1) = false := decide_eq_false h2
      have d2 : decide (9 < sz) = true := decide_eq_true (by omega)
    rotate_left
    all_goals
      clear h1 h2 hkd
      go_enter Tryz.func113, Tryz.ntmps113
      go_wp2_with fail
      refine (nextKey_is _).mono ?_
      rintro e w1 ⟨rfl, q1⟩
      have H1 : Hid (Wn w b rb mb L vr kd d n td tn vv xs vr w1) := HK.out.later q1
      clear q1 HK
      go_wp2_with fail
      refine (look_is L b rb mb xs vr 0 _ H1.out.1.1 HC.out.1 hn (by omega) (by omega)).mono ?_
      rintro e w2 ⟨rfl, vz, l2, k2⟩
      have H2 : Hid (Wn w b rb mb L vr kd d n td tn vv (addR xs 0) vz w2) := H1.out.keeps l2 k2
      clear l2 k2 H1
      rw [HL.out]
      go_wp2_with fail
      refine (wrongIf_so 2 _).mono ?_
      rintro e w9 ⟨rfl, hw9⟩
      obtain rfl := hw9.symm
      exact ⟨rfl, vz, H2.out.1, Or.inr ⟨by decide, rfl, rfl, rfl, rfl⟩⟩
  rw [if_pos h1] at hp
  simp only [Prod.mk.injEq] at hp
  obtain ⟨rfl, rfl, rfl, rfl, rfl⟩ := hp
  have HZ : Hid (0 ≤ sz ∧ sz ≤ 9) := ⟨by omega, h1.2⟩
  have h8 := h1.1
  have h9 := h1.2
  have d1 : decide (sz < 1) = false := decide_eq_false (by omega)
  have d2 : decide (9 < sz) = false := decide_eq_false (by omega)
  clear h1
  rcases hkd with rfl | rfl
  focus
    rw [if_pos rfl]
    go_enter Tryz.func113, Tryz.ntmps113
    go_wp2_with fail
    refine (nextKey_is _).mono ?_
    rintro e w1 ⟨rfl, q1⟩
    have H1 : Hid (Wn w b rb mb L vr 1 d n td tn vv xs vr w1) := HK.out.later q1
    clear q1 HK
    go_wp2_with fail
    refine (look_is L b rb mb xs vr 0 _ H1.out.1.1 HC.out.1 hn (by omega) (by omega)).mono ?_
    rintro e w2 ⟨rfl, vz, l2, k2⟩
    have H2 : Hid (Wn w b rb mb L vr 1 d n td tn vv (addR xs 0) vz w2) := H1.out.keeps l2 k2
    clear l2 k2 H1
    rw [HL.out]
    go_wp2_with fail
    refine (wrongIf_no 2 _).mono ?_
    rintro e w9 ⟨rfl, hw9⟩
    obtain rfl := hw9.symm
    obtain ⟨⟨o0, o1, o2, o3, o4, o5⟩, _⟩ := H2.out.2.1.1
    have hwr : IntKind.i64.wrap (sz + 1) = sz + 1 := wrap_id (by omega) (by omega)
    go_upto_region 6 with fail
    refine wp_region_held_drew (S := Wn w b rb mb L vr 1 d n td tn vv (addR xs 0) vz) (by kernel_rfl) H2.out.drew (fun hS => ?_)
    refine tkH 0 ?_ hS (fun wx hx => ?_) ?_; rotate_left
    · obtain ⟨_, ⟨⟨⟨hx0, hx1, hx2, hx3, hx4, hx5⟩, _⟩, _⟩, _⟩ := hx; go_simp; try with_reducible rfl
    refine tkH 2 ?_ hS (fun wx hx => ?_) ?_; rotate_left
    · obtain ⟨_, ⟨⟨⟨hx0, hx1, hx2, hx3, hx4, hx5⟩, _⟩, _⟩, _⟩ := hx; go_simp; try with_reducible rfl
    refine tkH 3 ?_ hS (fun wx hx => ?_) ?_; rotate_left
    · obtain ⟨_, ⟨⟨⟨hx0, hx1, hx2, hx3, hx4, hx5⟩, _⟩, _⟩, _⟩ := hx; go_simp; try with_reducible rfl
    refine tkH 5 ?_ hS (fun wx hx => ?_) ?_; rotate_left
    · obtain ⟨_, ⟨⟨⟨hx0, hx1, hx2, hx3, hx4, hx5⟩, _⟩, _⟩, _⟩ := hx; go_simp; try with_reducible rfl
    refine tkH 7 ?_ hS (fun wx hx => ?_) ?_; rotate_left
    · obtain ⟨_, ⟨⟨⟨hx0, hx1, hx2, hx3, hx4, hx5⟩, _⟩, _⟩, _⟩ := hx; go_simp; try with_reducible rfl
    refine tkH 9 ?_ hS (fun wx hx => ?_) ?_; rotate_left
    · obtain ⟨_, ⟨⟨⟨hx0, hx1, hx2, hx3, hx4, hx5⟩, _⟩, _⟩, _⟩ := hx; go_simp; try with_reducible rfl
    refine tkH 10 ?_ hS (fun wx hx => ?_) ?_; rotate_left
    · obtain ⟨_, ⟨⟨⟨hx0, hx1, hx2, hx3, hx4, hx5⟩, _⟩, _⟩, _⟩ := hx; go_simp; try with_reducible rfl
    refine tkH 11 ?_ hS (fun wx hx => ?_) ?_; rotate_left
    · obtain ⟨_, ⟨⟨⟨hx0, hx1, hx2, hx3, hx4, hx5⟩, _⟩, _⟩, _⟩ := hx; go_simp; try with_reducible rfl
    refine tkH 12 ?_ hS (fun wx hx => ?_) ?_; rotate_left
    · obtain ⟨_, ⟨⟨⟨hx0, hx1, hx2, hx3, hx4, hx5⟩, _⟩, _⟩, _⟩ := hx; go_simp; try with_reducible rfl
    refine tkH 14 ?_ hS (fun wx hx => ?_) ?_; rotate_left
    · obtain ⟨_, ⟨⟨⟨hx0, hx1, hx2, hx3, hx4, hx5⟩, _⟩, _⟩, _⟩ := hx; go_simp; try with_reducible rfl
    refine rdH 1 (fun K hK => ?_)
    go_simp
    go_wp2_with fail
    refine (nextKey_is  _).mono ?_
    rintro e w3 ⟨rfl, q1⟩
    have hS1 := hS.later q1
    clear q1 hS
    go_wp2_with fail
    refine hK.out _ _ hS1 (fun hS => ?_)
    clear hK K
    clear hS1
    refine rdH 4 (fun K hK => ?_)
    go_simp
    go_wp2_with fail
    refine (putTo_is 0 (sz + 1) _).mono ?_
    rintro e w4 ⟨rfl, q1⟩
    have hS1 := hS.later q1
    clear q1 hS
    go_wp2_with fail
    refine hK.out _ _ hS1 (fun hS => ?_)
    clear hK K
    clear hS1
    refine rdH 6 (fun K hK => ?_)
    go_simp
    go_wp2_with fail
    refine (inodeKey_is sz HZ.out _).mono ?_
    rintro e w5 ⟨rfl, q1⟩
    have hS1 := hS.later q1
    clear q1 hS
    go_wp2_with fail
    refine hK.out _ _ hS1 (fun hS => ?_)
    clear hK K
    clear hS1
    refine rdH 8 (fun K hK => ?_)
    go_simp
    go_wp2_with fail
    refine (putTo_is (kI sz) 2001 _).mono ?_
    rintro e w6 ⟨rfl, q1⟩
    have hS1 := hS.later q1
    clear q1 hS
    go_wp2_with fail
    refine hK.out _ _ hS1 (fun hS => ?_)
    clear hK K
    clear hS1
    refine rdH 13 (fun K hK => ?_)
    go_simp
    go_wp2_with fail
    refine (entryKey_is d n HC.out.2.1 HC.out.2.2 _).mono ?_
    rintro e w7 ⟨rfl, q1⟩
    have hS1 := hS.later q1
    clear q1 hS
    go_wp2_with fail
    refine hK.out _ _ hS1 (fun hS => ?_)
    clear hK K
    clear hS1
    refine rdH 15 (fun K hK => ?_)
    go_simp
    go_wp2_with fail
    refine (putTo_is (kE d n) sz _).mono ?_
    rintro e w8 ⟨rfl, q1⟩
    have hS1 := hS.later q1
    clear q1 hS
    go_wp2_with fail
    refine hK.out _ _ hS1 (fun hS => ?_)
    clear hK K
    clear hS1
    refine rdH 16 (fun K hK => ?_)
    go_simp
    have HW : Hid (_ ∧ _) := hS.lit 3 [0, 1, sz + 1, kI sz, 1, 2001, kE d n, 1, sz] #[.int .i64 0, .int .i64 1, .int .i64 (sz + 1), .int .i64 (kI sz), .int .i64 1, .int .i64 2001, .int .i64 (kE d n), .int .i64 1, .int .i64 sz] (by simp) rfl (by omega)
    have hS4 := hS.alloc (.cells #[.int .i64 0, .int .i64 1, .int .i64 (sz + 1), .int .i64 (kI sz), .int .i64 1, .int .i64 2001, .int .i64 (kE d n), .int .i64 1, .int .i64 sz] 132)
    clear hS
    refine hK.out _ _ hS4 (fun hS => ?_)
    clear hK K
    clear hS4
    refine tkH 17 ?_ hS (fun wx hx => ?_) ?_; rotate_left
    · obtain ⟨_, ⟨⟨⟨hx0, hx1, hx2, hx3, hx4, hx5⟩, _⟩, _⟩, _⟩ := hx; go_simp; try with_reducible rfl
    refine rdH 18 (fun K hK => ?_)
    refine step_storeP rfl _ _ rfl (w.heap.size + 1) _ _ _ _ _ rfl rfl hS.2.1.2 (by kernel_rfl) ?_
    have HS5 : Hid (Wn w b rb mb L vr 1 d n td tn vv (addR xs 0) vz _) := hS
  rotate_left
  focus
    rw [if_neg (show ¬ ((2 : Int) = 1) by omega)]
    go_enter Tryz.func113, Tryz.ntmps113
    go_wp2_with fail
    refine (nextKey_is _).mono ?_
    rintro e w1 ⟨rfl, q1⟩
    have H1 : Hid (Wn w b rb mb L vr 2 d n td tn vv xs vr w1) := HK.out.later q1
    clear q1 HK
    go_wp2_with fail
    refine (look_is L b rb mb xs vr 0 _ H1.out.1.1 HC.out.1 hn (by omega) (by omega)).mono ?_
    rintro e w2 ⟨rfl, vz, l2, k2⟩
    have H2 : Hid (Wn w b rb mb L vr 2 d n td tn vv (addR xs 0) vz w2) := H1.out.keeps l2 k2
    clear l2 k2 H1
    rw [HL.out]
    go_wp2_with fail
    refine (wrongIf_no 2 _).mono ?_
    rintro e w9 ⟨rfl, hw9⟩
    obtain rfl := hw9.symm
    obtain ⟨⟨o0, o1, o2, o3, o4, o5⟩, _⟩ := H2.out.2.1.1
    have hwr : IntKind.i64.wrap (sz + 1) = sz + 1 := wrap_id (by omega) (by omega)
    go_upto_region 6 with fail
    refine wp_region_held_drew (S := Wn w b rb mb L vr 2 d n td tn vv (addR xs 0) vz) (by kernel_rfl) H2.out.drew (fun hS => ?_)
    refine tkH 0 ?_ hS (fun wx hx => ?_) ?_; rotate_left
    · obtain ⟨_, ⟨⟨⟨hx0, hx1, hx2, hx3, hx4, hx5⟩, _⟩, _⟩, _⟩ := hx; go_simp; try with_reducible rfl
    refine tkH 2 ?_ hS (fun wx hx => ?_) ?_; rotate_left
    · obtain ⟨_, ⟨⟨⟨hx0, hx1, hx2, hx3, hx4, hx5⟩, _⟩, _⟩, _⟩ := hx; go_simp; try with_reducible rfl
    refine tkH 3 ?_ hS (fun wx hx => ?_) ?_; rotate_left
    · obtain ⟨_, ⟨⟨⟨hx0, hx1, hx2, hx3, hx4, hx5⟩, _⟩, _⟩, _⟩ := hx; go_simp; try with_reducible rfl
    refine tkH 5 ?_ hS (fun wx hx => ?_) ?_; rotate_left
    · obtain ⟨_, ⟨⟨⟨hx0, hx1, hx2, hx3, hx4, hx5⟩, _⟩, _⟩, _⟩ := hx; go_simp; try with_reducible rfl
    refine tkH 7 ?_ hS (fun wx hx => ?_) ?_; rotate_left
    · obtain ⟨_, ⟨⟨⟨hx0, hx1, hx2, hx3, hx4, hx5⟩, _⟩, _⟩, _⟩ := hx; go_simp; try with_reducible rfl
    refine tkH 9 ?_ hS (fun wx hx => ?_) ?_; rotate_left
    · obtain ⟨_, ⟨⟨⟨hx0, hx1, hx2, hx3, hx4, hx5⟩, _⟩, _⟩, _⟩ := hx; go_simp; try with_reducible rfl
    refine tkH 10 ?_ hS (fun wx hx => ?_) ?_; rotate_left
    · obtain ⟨_, ⟨⟨⟨hx0, hx1, hx2, hx3, hx4, hx5⟩, _⟩, _⟩, _⟩ := hx; go_simp; try with_reducible rfl
    refine tkH 11 ?_ hS (fun wx hx => ?_) ?_; rotate_left
    · obtain ⟨_, ⟨⟨⟨hx0, hx1, hx2, hx3, hx4, hx5⟩, _⟩, _⟩, _⟩ := hx; go_simp; try with_reducible rfl
    refine tkH 12 ?_ hS (fun wx hx => ?_) ?_; rotate_left
    · obtain ⟨_, ⟨⟨⟨hx0, hx1, hx2, hx3, hx4, hx5⟩, _⟩, _⟩, _⟩ := hx; go_simp; try with_reducible rfl
    refine tkH 14 ?_ hS (fun wx hx => ?_) ?_; rotate_left
    · obtain ⟨_, ⟨⟨⟨hx0, hx1, hx2, hx3, hx4, hx5⟩, _⟩, _⟩, _⟩ := hx; go_simp; try with_reducible rfl
    refine rdH 1 (fun K hK => ?_)
    go_simp
    go_wp2_with fail
    refine (nextKey_is  _).mono ?_
    rintro e w3 ⟨rfl, q1⟩
    have hS1 := hS.later q1
    clear q1 hS
    go_wp2_with fail
    refine hK.out _ _ hS1 (fun hS => ?_)
    clear hK K
    clear hS1
    refine rdH 4 (fun K hK => ?_)
    go_simp
    go_wp2_with fail
    refine (putTo_is 0 (sz + 1) _).mono ?_
    rintro e w4 ⟨rfl, q1⟩
    have hS1 := hS.later q1
    clear q1 hS
    go_wp2_with fail
    refine hK.out _ _ hS1 (fun hS => ?_)
    clear hK K
    clear hS1
    refine rdH 6 (fun K hK => ?_)
    go_simp
    go_wp2_with fail
    refine (inodeKey_is sz HZ.out _).mono ?_
    rintro e w5 ⟨rfl, q1⟩
    have hS1 := hS.later q1
    clear q1 hS
    go_wp2_with fail
    refine hK.out _ _ hS1 (fun hS => ?_)
    clear hK K
    clear hS1
    refine rdH 8 (fun K hK => ?_)
    go_simp
    go_wp2_with fail
    refine (putTo_is (kI sz) 1000 _).mono ?_
    rintro e w6 ⟨rfl, q1⟩
    have hS1 := hS.later q1
    clear q1 hS
    go_wp2_with fail
    refine hK.out _ _ hS1 (fun hS => ?_)
    clear hK K
    clear hS1
    refine rdH 13 (fun K hK => ?_)
    go_simp
    go_wp2_with fail
    refine (entryKey_is d n HC.out.2.1 HC.out.2.2 _).mono ?_
    rintro e w7 ⟨rfl, q1⟩
    have hS1 := hS.later q1
    clear q1 hS
    go_wp2_with fail
    refine hK.out _ _ hS1 (fun hS => ?_)
    clear hK K
    clear hS1
    refine rdH 15 (fun K hK => ?_)
    go_simp
    go_wp2_with fail
    refine (putTo_is (kE d n) sz _).mono ?_
    rintro e w8 ⟨rfl, q1⟩
    have hS1 := hS.later q1
    clear q1 hS
    go_wp2_with fail
    refine hK.out _ _ hS1 (fun hS => ?_)
    clear hK K
    clear hS1
    refine rdH 16 (fun K hK => ?_)
    go_simp
    have HW : Hid (_ ∧ _) := hS.lit 3 [0, 1, sz + 1, kI sz, 1, 1000, kE d n, 1, sz] #[.int .i64 0, .int .i64 1, .int .i64 (sz + 1), .int .i64 (kI sz), .int .i64 1, .int .i64 1000, .int .i64 (kE d n), .int .i64 1, .int .i64 sz] (by simp) rfl (by omega)
    have hS4 := hS.alloc (.cells #[.int .i64 0, .int .i64 1, .int .i64 (sz + 1), .int .i64 (kI sz), .int .i64 1, .int .i64 1000, .int .i64 (kE d n), .int .i64 1, .int .i64 sz] 132)
    clear hS
    refine hK.out _ _ hS4 (fun hS => ?_)
    clear hK K
    clear hS4
    refine tkH 17 ?_ hS (fun wx hx => ?_) ?_; rotate_left
    · obtain ⟨_, ⟨⟨⟨hx0, hx1, hx2, hx3, hx4, hx5⟩, _⟩, _⟩, _⟩ := hx; go_simp; try with_reducible rfl
    refine rdH 18 (fun K hK => ?_)
    refine step_storeP rfl _ _ rfl (w.heap.size + 1) _ _ _ _ _ rfl rfl hS.2.1.2 (by kernel_rfl) ?_
    have HS5 : Hid (Wn w b rb mb L vr 2 d n td tn vv (addR xs 0) vz _) := hS
  rotate_left
  all_goals
    have hS5 := hS.rowed hmb #[.int .i64 0, .int .i64 0, .int .i64 sz, .slice none 0 0, .slice (some ⟨w8.heap.size, 0, none⟩) 3 3] rfl
    clear hS
    refine hK.out _ _ hS5 (fun hS => ?_)
    clear hK K
    clear hS5
    refine wpAnyH_done (by kernel_rfl) ?_ _
    go_simp
    go_wp2
    exact bodyPost_ret (v := .agg #[.int .i64 0, .int .i64 0, .int .i64 sz, .slice none 0 0, .slice (some ⟨w8.heap.size, 0, none⟩) 3 3]) (results_pl Tryz.results113 _ _ _ _ _ _ _ _ rfl HS5.out.2.1.2) rfl (HS5.out.told hmb sz _ _ _ _ HW.out.1 HW.out.2 _ rfl)
end Go.Proofs.YtnchaccgenfhoaaGreat

namespace Go.Proofs.YtnchaccgenfhoaaGreat
open Go.RowKit

theorem Wk.grew {w X X' : World} {b rb mb : Nat} {L : Prs} {vr vz vw : Value} {kd d n td tn vv c cv : Int} {xs : List Int} (h : Wk w b rb mb L vr kd d n td tn vv c cv xs vz X) (hmb : mb < w.heap.size) (hbw : b < w.heap.size) (hvw : ∀ k, vw.ownBlock = some k → w.heap.size + 3 ≤ k) (hd : ∀ k, vz.ownBlock = some k → vw.ownBlock ≠ some k) (hs : X.heap.size ≤ X'.heap.size) (ho : X'.os = X.os ∧ X'.tape = X.tape ∧ X'.output = X.output) (hk : ∀ k, k < X.heap.size → vw.ownBlock ≠ some k → X'.heap[k]? = X.heap[k]?) : Wk w b rb mb L vr kd d n td tn vv c cv xs vz X' := by
  have low : ∀ k, k < w.heap.size + 3 → k < X.heap.size → X'.heap[k]? = X.heap[k]? := fun k h1 h2 => hk k h2 (fun e => by have := hvw k e; omega)
  have hl := h.2.1.lt
  have hi : OwnM X (b + 1) 2 1 vz xs.length xs := h.1.1.2.2.2.1
  refine ⟨⟨⟨h.1.1.1.kept (low b (by omega) h.1.1.1.lt), h.1.1.2.1.kept (fun k h1 h2 => low k (by omega) h1) h.1.1.2.2.2.2.1, h.1.1.2.2.1.kept (low mb (by omega) h.1.1.2.2.1.lt), OwnM.keptB hi (fun k hq => hk k (OwnM.block hi k hq).2 (hd k hq)), h.1.1.2.2.2.2⟩, ?_⟩, h.2.1.kept (low _ (by omega) (by omega)) (low _ (by omega) (by omega)) (low _ (by omega) (by omega)), ⟨Nat.lt_of_lt_of_le h.2.2.1.1 hs, h.2.2.1.2⟩, ⟨Nat.lt_of_lt_of_le h.2.2.2.1.1 hs, h.2.2.2.1.2⟩, ⟨Nat.lt_of_lt_of_le h.2.2.2.2.1 hs, h.2.2.2.2.2⟩⟩
  exact ⟨⟨ho.1.trans h.1.2.1.1, ho.2.1.trans h.1.2.1.2.1, ho.2.2.trans h.1.2.1.2.2⟩, Nat.le_trans h.1.2.2.1 hs, fun k h1 h2 h3 h4 => (low k (by omega) (Nat.lt_of_lt_of_le h1 h.1.2.2.1)).trans (h.1.2.2.2.1 k h1 h2 h3 h4), h.1.2.2.2.2⟩
/-- The writes under way. -/
def Wri (w X : World) (vz vw : Value) (m : Nat) (W : List Int) : Prop := OwnM X (w.heap.size + 3) 132 3 vw m W ∧ ∀ k, vz.ownBlock = some k → vw.ownBlock ≠ some k
theorem Wri.later {w X X' : World} {vz vw : Value} {m : Nat} {W : List Int} (h : Wri w X vz vw m W) (hb : Below X.heap.size X X') : Wri w X' vz vw m W := ⟨OwnM.later h.1 hb, h.2⟩
/-- Behind an append to the writes. -/
theorem Wk.app {w X X6 : World} {b rb mb : Nat} {L : Prs} {vr vz : Value} {kd d n td tn vv c cv : Int} {xs : List Int} {ao ao1 : Option Addr} {m q cp cp1 : Nat} {W V : List Int} {lit : Obj} (h : Wk w b rb mb L vr kd d n td tn vv c cv xs vz X) (hw : Wri w X vz (.slice ao m cp) m W) (hmb : mb < w.heap.size) (hbw : b < w.heap.size)
    (O6 : OwnM X6 (w.heap.size + 3) 132 3 (.slice ao1 (m + q) cp1) (m + q) (W ++ V)) (G6 : (X.alloc lit).grownBy X6 (Value.slice ao m cp).ownBlock)
    (N6 : (Value.slice ao1 (m + q) cp1).ownBlock = (Value.slice ao m cp).ownBlock ∨ (Value.slice ao1 (m + q) cp1).ownBlock = some (X.alloc lit).heap.size) :
    Wk w b rb mb L vr kd d n td tn vv c cv xs vz X6 ∧ Wri w X6 vz (.slice ao1 (m + q) cp1) (m + q) (W ++ V) := by
  refine ⟨h.grew hmb hbw (fun k hk => (OwnM.block hw.1 k hk).1) hw.2 (Nat.le_trans (by simp) G6.size) ⟨G6.os, G6.tape, G6.output⟩ (fun k h1 h2 => (G6.block k (by simp; omega) (fun e => h2 e.symm)).trans (Below.heap_alloc X _ k h1)), O6, fun k hk e => ?_⟩
  rcases N6 with p | p
  · exact hw.2 k hk (by rw [← p]; exact e)
  · rw [p] at e
    have h1 := (h.1.1.2.2.2.1.lt k hk).2
    have := Option.some.inj e
    simp at this
    omega
theorem row_item2 (Y : World) (a0 a1 a2 b0 b1 b2 : Int) : Row (Y.alloc (.cells #[.int .i64 a0, .int .i64 a1, .int .i64 a2, .int .i64 b0, .int .i64 b1, .int .i64 b2] 132)) Y.heap.size 3 2 (fun p => [a0, a1, a2, b0, b1, b2].getD p 0) (.slice (some ⟨Y.heap.size, 0, none⟩) 2 2) :=
  (OwnM.rowL (OwnM.lit Y 132 3 2 [a0, a1, a2, b0, b1, b2] #[.int .i64 a0, .int .i64 a1, .int .i64 a2, .int .i64 b0, .int .i64 b1, .int .i64 b2] (by simp) rfl (by unfold maxLen; omega))).1
set_option maxRecDepth 100000 in
set_option maxHeartbeats 4000000 in
theorem planRemove_is (L : Prs) (b rb mb : Nat) (xs : List Int) (vr : Value) (kd d n td tn vv c cv : Int) (w : World) (h : Looks w b rb mb L xs vr) (hrs : Rises L) (hn : L.length ≤ 1000) (hd : 0 ≤ d ∧ d ≤ 9) (hnm : 0 ≤ n ∧ n ≤ 5) (htd : 0 ≤ td ∧ td ≤ 9) (htn : 0 ≤ tn ∧ tn ≤ 5) (hc : 0 ≤ c ∧ c ≤ 9) (hcv : 0 ≤ cv ∧ cv ≤ 9999) (hx : xs.length ≤ 800) (r v : Int) (ys : List Int) (m : Nat) (W : List Int) (hp : removeP L d n c cv xs = (r, v, ys, m, W)) :
    Calls Tryz.prog 115 #[.pointer (some ⟨b, 0, none⟩), .agg #[.int .i64 kd, .int .i64 d, .int .i64 n, .int .i64 td, .int .i64 tn, .int .i64 vv], .agg #[.int .i64 c, .int .i64 cv]] w (PlanEnd w b rb mb L vr r v ys m W) := by
  have hmb : mb < w.heap.size := h.2.2.1.lt
  have hb0 : b < w.heap.size := h.1.lt
  have HC : Hid (Rises L ∧ (0 ≤ d ∧ d ≤ 9) ∧ (0 ≤ n ∧ n ≤ 5) ∧ (0 ≤ td ∧ td ≤ 9) ∧ (0 ≤ tn ∧ tn ≤ 5) ∧ (0 ≤ c ∧ c ≤ 9)) := ⟨hrs, hd, hnm, htd, htn, hc⟩
  have HK : Hid (Wk w b rb mb L vr kd d n td tn vv c cv xs vr (((w.alloc (opO kd d n td tn vv)).alloc (chO c cv)).alloc zeroPl)) := Wk.new h _ _ _ _ _ _ _ _
  have hit2 := fun a0 a1 a2 b0 b1 b2 w => run_items2 a0 a1 a2 b0 b1 b2 w
  obtain ⟨hv0, hv9⟩ := hcv
  clear h hrs hd hnm htd htn hc
  have hbw : b < w.heap.size := hb0
  have hit := fun a0 a1 a2 w => run_item1 a0 a1 a2 w
  obtain ⟨i0, hi, hz⟩ : ∃ i, Tryz.prog.info? 132 = some i ∧ (i.zero, i.size, i.bytes) = (some (.agg #[.int .i64 0, .int .i64 0, .int .i64 0]), 3, 24) := by
    have := info_itemL
    cases q : Tryz.prog.info? 132 with
    | none => rw [q] at this; cases this
    | some i => rw [q] at this; exact ⟨i, rfl, Option.some.inj this⟩
  simp only [Prod.mk.injEq] at hz
  obtain ⟨hz0, hz1, hz2⟩ := hz
  unfold removeP at hp
  by_cases h1 : cv = 1000
  case neg =>
    have e1 : (cv == 1000) = false := beq_eq_false_iff_ne.2 h1
    rw [if_neg h1] at hp
    by_cases h2 : 2001 < cv
    · have e2 : decide (2001 < cv) = true := decide_eq_true h2
      have hwr : IntKind.i64.wrap (cv - 1) = cv - 1 := wrap_id (by omega) (by omega)
      rw [if_pos h2] at hp
      simp only [Prod.mk.injEq] at hp
      obtain ⟨rfl, rfl, rfl, rfl, rfl⟩ := hp
      clear h1 h2
      go_enter Tryz.func115, Tryz.ntmps115
      obtain ⟨⟨⟨o0, o1, o2, o3, o4, o5⟩, _⟩, ⟨⟨o6, o7⟩, _⟩, _⟩ := HK.out.2.1
      go_wp2_with fail
      refine (entryKey_is d n HC.out.2.1 HC.out.2.2.1 _).mono ?_
      rintro e w1 ⟨rfl, q1⟩
      have H1 : Hid (Wk w b rb mb L vr kd d n td tn vv c cv xs vr w1) := HK.out.later q1
      clear q1 HK o0 o1 o2 o3 o4 o5 o6 o7
      go_wp2_with fail
      refine (deleteOf_is (kE d n) _).mono ?_
      rintro e w2 ⟨rfl, q2⟩
      have H2 : Hid (Wk w b rb mb L vr kd d n td tn vv c cv xs vr (w2.alloc (.cells #[.int .i64 (kE d n), .int .i64 2, .int .i64 0] 132)) ∧ Wri w (w2.alloc (.cells #[.int .i64 (kE d n), .int .i64 2, .int .i64 0] 132)) vr (.slice (some ⟨w2.heap.size, 0, none⟩) 1 1) 1 [kE d n, 2, 0]) := ⟨(H1.out.later q2).alloc _, (H1.out.later q2).lit 1 [kE d n, 2, 0] _ (by simp) rfl (by omega)⟩
      clear q2 H1
      obtain ⟨⟨⟨o0, o1, o2, o3, o4, o5⟩, _⟩, ⟨⟨o6, o7⟩, _⟩, _⟩ := H2.out.1.2.1
      go_wp2_with fail
      refine (childDir_is c cv _).mono ?_
      rintro e w3 ⟨rfl, q3⟩
      have H3 : Hid (Wk w b rb mb L vr kd d n td tn vv c cv xs vr w3 ∧ Wri w w3 vr (.slice (some ⟨w2.heap.size, 0, none⟩) 1 1) 1 [kE d n, 2, 0]) := ⟨H2.out.1.later q3, H2.out.2.later q3⟩
      clear q3 H2 o0 o1 o2 o3 o4 o5 o6 o7
      obtain ⟨⟨⟨o0, o1, o2, o3, o4, o5⟩, _⟩, ⟨⟨o6, o7⟩, _⟩, _⟩ := H3.out.1.2.1
      rw [e1]
      go_upto_region 7 with fail
      refine wp_region_held_drew (S := Wk w b rb mb L vr kd d n td tn vv c cv xs vr) (by kernel_rfl) H3.out.1.drew (fun hS => ?_)
      have G0 : Hid (Wri w w3.drew vr (.slice (some ⟨w2.heap.size, 0, none⟩) 1 1) 1 [kE d n, 2, 0]) := H3.out.2.later ⟨rfl, rfl, rfl, Nat.le_refl _, fun _ _ => rfl⟩
      clear H3 o0 o1 o2 o3 o4 o5 o6 o7
      generalize w3.drew = w3 at G0 hS ⊢
      refine tkH 0 ?_ hS (fun wx hx => ?_) ?_; rotate_left
      · obtain ⟨_, ⟨⟨⟨hx0, hx1, hx2, hx3, hx4, hx5⟩, _⟩, ⟨⟨hx6, hx7⟩, _⟩, _⟩, _⟩ := hx; go_simp; try with_reducible rfl
      refine tkH 1 ?_ hS (fun wx hx => ?_) ?_; rotate_left
      · obtain ⟨_, ⟨⟨⟨hx0, hx1, hx2, hx3, hx4, hx5⟩, _⟩, ⟨⟨hx6, hx7⟩, _⟩, _⟩, _⟩ := hx; go_simp; try with_reducible rfl
      refine tkH 2 ?_ hS (fun wx hx => ?_) ?_; rotate_left
      · obtain ⟨_, ⟨⟨⟨hx0, hx1, hx2, hx3, hx4, hx5⟩, _⟩, ⟨⟨hx6, hx7⟩, _⟩, _⟩, _⟩ := hx; go_simp; try with_reducible rfl
      refine tkH 4 ?_ hS (fun wx hx => ?_) ?_; rotate_left
      · obtain ⟨_, ⟨⟨⟨hx0, hx1, hx2, hx3, hx4, hx5⟩, _⟩, ⟨⟨hx6, hx7⟩, _⟩, _⟩, _⟩ := hx; go_simp; try with_reducible rfl
      refine tkH 5 ?_ hS (fun wx hx => ?_) ?_; rotate_left
      · obtain ⟨_, ⟨⟨⟨hx0, hx1, hx2, hx3, hx4, hx5⟩, _⟩, ⟨⟨hx6, hx7⟩, _⟩, _⟩, _⟩ := hx; go_simp; try with_reducible rfl
      refine tkH 6 ?_ hS (fun wx hx => ?_) ?_; rotate_left
      · obtain ⟨_, ⟨⟨⟨hx0, hx1, hx2, hx3, hx4, hx5⟩, _⟩, ⟨⟨hx6, hx7⟩, _⟩, _⟩, _⟩ := hx; go_simp; try with_reducible rfl
      refine rdH 3 (fun K hK => ?_)
      go_simp
      go_wp2_with fail
      refine (inodeKey_is c HC.out.2.2.2.2.2 _).mono ?_
      rintro e w4 ⟨rfl, q1⟩
      have hS1 := hS.later q1
      have G1 : Hid (Wri w w4 _ _ _ _) := G0.out.later q1
      clear q1 hS G0
      go_wp2_with fail
      refine hK.out _ _ hS1 (fun hS => ?_)
      clear hK K
      clear hS1
      refine rdH 7 (fun K hK => ?_)
      go_simp
      go_wp2_with fail
      refine (putTo_is (kI c) (cv - 1) _).mono ?_
      rintro e w5 ⟨rfl, q1⟩
      have hS1 := hS.later q1
      have G2 : Hid (Wri w w5 _ _ _ _) := G1.out.later q1
      clear q1 hS G1
      go_wp2_with fail
      refine hK.out _ _ hS1 (fun hS => ?_)
      clear hK K
      clear hS1
      refine rdH 8 (fun K hK => ?_)
      go_simp
      have hS4 := hS.alloc (.cells #[.int .i64 (kI c), .int .i64 1, .int .i64 (cv - 1)] 132)
      have G9 : Hid (Wk w b rb mb L vr kd d n td tn vv c cv xs vr w5) := hS
      have G9b : w.heap.size + 2 < w5.heap.size := hS.2.1.lt
      clear hS
      refine hK.out _ _ hS4 (fun hS => ?_)
      clear hK K
      clear hS4
      refine rdH 9 (fun K hK => ?_)
      have H9 : Hid (Wri w w5 vr (.slice (some ⟨w2.heap.size, 0, none⟩) 1 1) 1 [kE d n, 2, 0]) := G2
      have H9b := G9b
      refine step_appL 132 i0 (.agg #[.int .i64 0, .int .i64 0, .int .i64 0]) 3 24 (by rfl) _ _ 79 (by rfl) Tryz.underlying79 hi hz0 hz1 hz2 rfl (by omega) (by omega) _ (w.heap.size + 3) 1 [kE d n, 2, 0] (.slice (some ⟨w2.heap.size, 0, none⟩) 1 1) (by rfl) (OwnM.later H9.out.1 (below_alloc _ _)) w5.heap.size 1 (fun p => [kI c, 1, cv - 1].getD p 0) (.slice (some ⟨w5.heap.size, 0, none⟩) 1 1) (by rfl) (row_item1 w5 _ _ _) (by omega) (by have := H9b; simp; omega) ?_
      intro ao1 cp1 w7 O6 G6 N6
      have HF : Hid (_ ∧ _) := G9.out.app H9.out hmb hbw O6 G6 N6
      have hS7 := HF.out.1
      clear O6 G6 N6 G9 H9 G2 hS
      refine hK.out _ _ hS7 (fun hS => ?_)
      clear hK K
      clear hS7
      refine tkH 10 ?_ hS (fun wx hx => ?_) ?_; rotate_left
      · obtain ⟨_, ⟨⟨⟨hx0, hx1, hx2, hx3, hx4, hx5⟩, _⟩, ⟨⟨hx6, hx7⟩, _⟩, _⟩, _⟩ := hx; go_simp; try with_reducible rfl
      refine wpAnyH_done (by kernel_rfl) ?_ _
      go_simp
      clear hS
      go_wp2_with (refine wpList_storeP rfl _ _ rfl (w.heap.size + 2) _ _ _ _ _ rfl rfl HF.out.1.2.1.2.2 (by kernel_rfl) ?_)
      exact bodyPost_ret (v := .agg #[.int .i64 0, .int .i64 0, .int .i64 0, .slice none 0 0, .slice ao1 (1 + 1) cp1]) (results_pl Tryz.results115 _ _ _ _ _ _ _ _ rfl HF.out.1.2.1.2.2) rfl (HF.out.1.told hmb 0 _ _ _ _ HF.out.2.1 HF.out.2.2 _ rfl)
    · have e2 : decide (2001 < cv) = false := decide_eq_false h2
      rw [if_neg h2] at hp
      simp only [Prod.mk.injEq] at hp
      obtain ⟨rfl, rfl, rfl, rfl, rfl⟩ := hp
      clear h1 h2
      go_enter Tryz.func115, Tryz.ntmps115
      obtain ⟨⟨⟨o0, o1, o2, o3, o4, o5⟩, _⟩, ⟨⟨o6, o7⟩, _⟩, _⟩ := HK.out.2.1
      go_wp2_with fail
      refine (entryKey_is d n HC.out.2.1 HC.out.2.2.1 _).mono ?_
      rintro e w1 ⟨rfl, q1⟩
      have H1 : Hid (Wk w b rb mb L vr kd d n td tn vv c cv xs vr w1) := HK.out.later q1
      clear q1 HK o0 o1 o2 o3 o4 o5 o6 o7
      go_wp2_with fail
      refine (deleteOf_is (kE d n) _).mono ?_
      rintro e w2 ⟨rfl, q2⟩
      have H2 : Hid (Wk w b rb mb L vr kd d n td tn vv c cv xs vr (w2.alloc (.cells #[.int .i64 (kE d n), .int .i64 2, .int .i64 0] 132)) ∧ Wri w (w2.alloc (.cells #[.int .i64 (kE d n), .int .i64 2, .int .i64 0] 132)) vr (.slice (some ⟨w2.heap.size, 0, none⟩) 1 1) 1 [kE d n, 2, 0]) := ⟨(H1.out.later q2).alloc _, (H1.out.later q2).lit 1 [kE d n, 2, 0] _ (by simp) rfl (by omega)⟩
      clear q2 H1
      obtain ⟨⟨⟨o0, o1, o2, o3, o4, o5⟩, _⟩, ⟨⟨o6, o7⟩, _⟩, _⟩ := H2.out.1.2.1
      go_wp2_with fail
      refine (childDir_is c cv _).mono ?_
      rintro e w3 ⟨rfl, q3⟩
      have H3 : Hid (Wk w b rb mb L vr kd d n td tn vv c cv xs vr w3 ∧ Wri w w3 vr (.slice (some ⟨w2.heap.size, 0, none⟩) 1 1) 1 [kE d n, 2, 0]) := ⟨H2.out.1.later q3, H2.out.2.later q3⟩
      clear q3 H2 o0 o1 o2 o3 o4 o5 o6 o7
      obtain ⟨⟨⟨o0, o1, o2, o3, o4, o5⟩, _⟩, ⟨⟨o6, o7⟩, _⟩, _⟩ := H3.out.1.2.1
      rw [e1]
      go_upto_region 2 with fail
      refine wp_region_held_drew (S := Wk w b rb mb L vr kd d n td tn vv c cv xs vr) (by kernel_rfl) H3.out.1.drew (fun hS => ?_)
      have G0 : Hid (Wri w w3.drew vr (.slice (some ⟨w2.heap.size, 0, none⟩) 1 1) 1 [kE d n, 2, 0]) := H3.out.2.later ⟨rfl, rfl, rfl, Nat.le_refl _, fun _ _ => rfl⟩
      clear H3 o0 o1 o2 o3 o4 o5 o6 o7
      generalize w3.drew = w3 at G0 hS ⊢
      refine tkH 0 ?_ hS (fun wx hx => ?_) ?_; rotate_left
      · obtain ⟨_, ⟨⟨⟨hx0, hx1, hx2, hx3, hx4, hx5⟩, _⟩, ⟨⟨hx6, hx7⟩, _⟩, _⟩, _⟩ := hx; go_simp; try with_reducible rfl
      refine tkH 1 ?_ hS (fun wx hx => ?_) ?_; rotate_left
      · obtain ⟨_, ⟨⟨⟨hx0, hx1, hx2, hx3, hx4, hx5⟩, _⟩, ⟨⟨hx6, hx7⟩, _⟩, _⟩, _⟩ := hx; go_simp; try with_reducible rfl
      refine tkH 2 ?_ hS (fun wx hx => ?_) ?_; rotate_left
      · obtain ⟨_, ⟨⟨⟨hx0, hx1, hx2, hx3, hx4, hx5⟩, _⟩, ⟨⟨hx6, hx7⟩, _⟩, _⟩, _⟩ := hx; go_simp; try with_reducible rfl
      refine tkH 5 ?_ hS (fun wx hx => ?_) ?_; rotate_left
      · obtain ⟨_, ⟨⟨⟨hx0, hx1, hx2, hx3, hx4, hx5⟩, _⟩, ⟨⟨hx6, hx7⟩, _⟩, _⟩, _⟩ := hx; go_simp; try with_reducible rfl
      refine tkH 6 ?_ hS (fun wx hx => ?_) ?_; rotate_left
      · obtain ⟨_, ⟨⟨⟨hx0, hx1, hx2, hx3, hx4, hx5⟩, _⟩, ⟨⟨hx6, hx7⟩, _⟩, _⟩, _⟩ := hx; go_simp; try with_reducible rfl
      refine rdH 3 (fun K hK => ?_)
      go_simp
      go_wp2_with fail
      refine (inodeKey_is c HC.out.2.2.2.2.2 _).mono ?_
      rintro e w4 ⟨rfl, q1⟩
      have hS1 := hS.later q1
      have G1 : Hid (Wri w w4 _ _ _ _) := G0.out.later q1
      clear q1 hS G0
      go_wp2_with fail
      refine hK.out _ _ hS1 (fun hS => ?_)
      clear hK K
      clear hS1
      refine rdH 4 (fun K hK => ?_)
      go_simp
      go_wp2_with fail
      refine (deleteOf_is (kI c) _).mono ?_
      rintro e w5 ⟨rfl, q1⟩
      have hS1 := hS.later q1
      have G2 : Hid (Wri w w5 _ _ _ _) := G1.out.later q1
      clear q1 hS G1
      go_wp2_with fail
      refine hK.out _ _ hS1 (fun hS => ?_)
      clear hK K
      clear hS1
      refine rdH 7 (fun K hK => ?_)
      go_simp
      go_wp2_with fail
      refine (bytesKey_is c HC.out.2.2.2.2.2 _).mono ?_
      rintro e w6 ⟨rfl, q1⟩
      have hS1 := hS.later q1
      have G3 : Hid (Wri w w6 _ _ _ _) := G2.out.later q1
      clear q1 hS G2
      go_wp2_with fail
      refine hK.out _ _ hS1 (fun hS => ?_)
      clear hK K
      clear hS1
      refine rdH 8 (fun K hK => ?_)
      go_simp
      go_wp2_with fail
      refine (deleteOf_is (kB c) _).mono ?_
      rintro e w7x ⟨rfl, q1⟩
      have hS1 := hS.later q1
      have G4 : Hid (Wri w w7x _ _ _ _) := G3.out.later q1
      clear q1 hS G3
      go_wp2_with fail
      refine hK.out _ _ hS1 (fun hS => ?_)
      clear hK K
      clear hS1
      refine rdH 9 (fun K hK => ?_)
      go_simp
      have hS4 := hS.alloc (.cells #[.int .i64 (kI c), .int .i64 2, .int .i64 0, .int .i64 (kB c), .int .i64 2, .int .i64 0] 132)
      have G9 : Hid (Wk w b rb mb L vr kd d n td tn vv c cv xs vr w7x) := hS
      have G9b : w.heap.size + 2 < w7x.heap.size := hS.2.1.lt
      clear hS
      refine hK.out _ _ hS4 (fun hS => ?_)
      clear hK K
      clear hS4
      refine rdH 10 (fun K hK => ?_)
      have H9 : Hid (Wri w w7x vr (.slice (some ⟨w2.heap.size, 0, none⟩) 1 1) 1 [kE d n, 2, 0]) := G4
      have H9b := G9b
      refine step_appL 132 i0 (.agg #[.int .i64 0, .int .i64 0, .int .i64 0]) 3 24 (by rfl) _ _ 79 (by rfl) Tryz.underlying79 hi hz0 hz1 hz2 rfl (by omega) (by omega) _ (w.heap.size + 3) 1 [kE d n, 2, 0] (.slice (some ⟨w2.heap.size, 0, none⟩) 1 1) (by rfl) (OwnM.later H9.out.1 (below_alloc _ _)) w7x.heap.size 2 (fun p => [kI c, 2, 0, kB c, 2, 0].getD p 0) (.slice (some ⟨w7x.heap.size, 0, none⟩) 2 2) (by rfl) (row_item2 w7x _ _ _ _ _ _) (by omega) (by have := H9b; simp; omega) ?_
      intro ao1 cp1 w7 O6 G6 N6
      have HF : Hid (_ ∧ _) := G9.out.app H9.out hmb hbw O6 G6 N6
      have hS7 := HF.out.1
      clear O6 G6 N6 G9 H9 G4 hS
      refine hK.out _ _ hS7 (fun hS => ?_)
      clear hK K
      clear hS7
      refine tkH 11 ?_ hS (fun wx hx => ?_) ?_; rotate_left
      · obtain ⟨_, ⟨⟨⟨hx0, hx1, hx2, hx3, hx4, hx5⟩, _⟩, ⟨⟨hx6, hx7⟩, _⟩, _⟩, _⟩ := hx; go_simp; try with_reducible rfl
      refine wpAnyH_done (by kernel_rfl) ?_ _
      go_simp
      clear hS
      go_wp2_with (refine wpList_storeP rfl _ _ rfl (w.heap.size + 2) _ _ _ _ _ rfl rfl HF.out.1.2.1.2.2 (by kernel_rfl) ?_)
      exact bodyPost_ret (v := .agg #[.int .i64 0, .int .i64 0, .int .i64 0, .slice none 0 0, .slice ao1 (1 + 2) cp1]) (results_pl Tryz.results115 _ _ _ _ _ _ _ _ rfl HF.out.1.2.1.2.2) rfl (HF.out.1.told hmb 0 _ _ _ _ HF.out.2.1 HF.out.2.2 _ rfl)
  subst h1
  rw [if_pos rfl] at hp
  obtain ⟨em, hem⟩ : ∃ em, emptyP L c 6 0 xs = em := ⟨_, rfl⟩
  rw [hem] at hp
  obtain ⟨t, zs⟩ := em
  have HE : Hid (emptyP L c 6 0 xs = (t, zs)) := hem
  clear hem
  cases t with
  | false =>
    simp only [Bool.false_eq_true, if_false, Prod.mk.injEq] at hp
    obtain ⟨rfl, rfl, rfl, rfl, rfl⟩ := hp
    go_enter Tryz.func115, Tryz.ntmps115
    obtain ⟨⟨⟨o0, o1, o2, o3, o4, o5⟩, _⟩, ⟨⟨o6, o7⟩, _⟩, _⟩ := HK.out.2.1
    go_wp2_with fail
    refine (entryKey_is d n HC.out.2.1 HC.out.2.2.1 _).mono ?_
    rintro e w1 ⟨rfl, q1⟩
    have H1 : Hid (Wk w b rb mb L vr kd d n td tn vv c 1000 xs vr w1) := HK.out.later q1
    clear q1 HK o0 o1 o2 o3 o4 o5 o6 o7
    go_wp2_with fail
    refine (deleteOf_is (kE d n) _).mono ?_
    rintro e w2 ⟨rfl, q2⟩
    have H2 : Hid (Wk w b rb mb L vr kd d n td tn vv c 1000 xs vr (w2.alloc (.cells #[.int .i64 (kE d n), .int .i64 2, .int .i64 0] 132)) ∧ Wri w (w2.alloc (.cells #[.int .i64 (kE d n), .int .i64 2, .int .i64 0] 132)) vr (.slice (some ⟨w2.heap.size, 0, none⟩) 1 1) 1 [kE d n, 2, 0]) := ⟨(H1.out.later q2).alloc _, (H1.out.later q2).lit 1 [kE d n, 2, 0] _ (by simp) rfl (by omega)⟩
    clear q2 H1
    obtain ⟨⟨⟨o0, o1, o2, o3, o4, o5⟩, _⟩, ⟨⟨o6, o7⟩, _⟩, _⟩ := H2.out.1.2.1
    go_wp2_with fail
    refine (childDir_is c 1000 _).mono ?_
    rintro e w3 ⟨rfl, q3⟩
    have H3 : Hid (Wk w b rb mb L vr kd d n td tn vv c 1000 xs vr w3 ∧ Wri w w3 vr (.slice (some ⟨w2.heap.size, 0, none⟩) 1 1) 1 [kE d n, 2, 0]) := ⟨H2.out.1.later q3, H2.out.2.later q3⟩
    clear q3 H2 o0 o1 o2 o3 o4 o5 o6 o7
    obtain ⟨⟨⟨o0, o1, o2, o3, o4, o5⟩, _⟩, ⟨⟨o6, o7⟩, _⟩, _⟩ := H3.out.1.2.1
    go_wp2_with fail
    refine (needEmpty_is L b rb mb xs vr c _ H3.out.1.1.1 HC.out.1 hn HC.out.2.2.2.2.2 (by omega) false zs 1 HE.out rfl).mono ?_
    rintro e w4 ⟨he, vz, l4, k4⟩
    have H4 : Hid (Wk w b rb mb L vr kd d n td tn vv c 1000 zs vz w4) := H3.out.1.keeps l4 k4
    clear l4 k4
    rcases he with ⟨q, _⟩ | ⟨_, rfl⟩
    · exact absurd q (by decide)
    exact ⟨rfl, vz, H4.out.1, Or.inr ⟨by decide, rfl, rfl, rfl, rfl⟩⟩
  | true =>
    simp only [if_true, Prod.mk.injEq] at hp
    obtain ⟨rfl, rfl, rfl, rfl, rfl⟩ := hp
    go_enter Tryz.func115, Tryz.ntmps115
    obtain ⟨⟨⟨o0, o1, o2, o3, o4, o5⟩, _⟩, ⟨⟨o6, o7⟩, _⟩, _⟩ := HK.out.2.1
    go_wp2_with fail
    refine (entryKey_is d n HC.out.2.1 HC.out.2.2.1 _).mono ?_
    rintro e w1 ⟨rfl, q1⟩
    have H1 : Hid (Wk w b rb mb L vr kd d n td tn vv c 1000 xs vr w1) := HK.out.later q1
    clear q1 HK o0 o1 o2 o3 o4 o5 o6 o7
    go_wp2_with fail
    refine (deleteOf_is (kE d n) _).mono ?_
    rintro e w2 ⟨rfl, q2⟩
    have H2 : Hid (Wk w b rb mb L vr kd d n td tn vv c 1000 xs vr (w2.alloc (.cells #[.int .i64 (kE d n), .int .i64 2, .int .i64 0] 132)) ∧ Wri w (w2.alloc (.cells #[.int .i64 (kE d n), .int .i64 2, .int .i64 0] 132)) vr (.slice (some ⟨w2.heap.size, 0, none⟩) 1 1) 1 [kE d n, 2, 0]) := ⟨(H1.out.later q2).alloc _, (H1.out.later q2).lit 1 [kE d n, 2, 0] _ (by simp) rfl (by omega)⟩
    clear q2 H1
    obtain ⟨⟨⟨o0, o1, o2, o3, o4, o5⟩, _⟩, ⟨⟨o6, o7⟩, _⟩, _⟩ := H2.out.1.2.1
    go_wp2_with fail
    refine (childDir_is c 1000 _).mono ?_
    rintro e w3 ⟨rfl, q3⟩
    have H3 : Hid (Wk w b rb mb L vr kd d n td tn vv c 1000 xs vr w3 ∧ Wri w w3 vr (.slice (some ⟨w2.heap.size, 0, none⟩) 1 1) 1 [kE d n, 2, 0]) := ⟨H2.out.1.later q3, H2.out.2.later q3⟩
    clear q3 H2 o0 o1 o2 o3 o4 o5 o6 o7
    obtain ⟨⟨⟨o0, o1, o2, o3, o4, o5⟩, _⟩, ⟨⟨o6, o7⟩, _⟩, _⟩ := H3.out.1.2.1
    go_wp2_with fail
    refine (needEmpty_is L b rb mb xs vr c _ H3.out.1.1.1 HC.out.1 hn HC.out.2.2.2.2.2 (by omega) true zs 0 HE.out rfl).mono ?_
    rintro e w4 ⟨he, vz, l4, k4⟩
    have hoff : Off w3 b mb vr w2.heap.size := ⟨(OwnM.block H3.out.2.1 w2.heap.size rfl).2, by have := (OwnM.block H3.out.2.1 w2.heap.size rfl).1; omega, by have := (OwnM.block H3.out.2.1 w2.heap.size rfl).1; omega, fun e => H3.out.2.2 _ e rfl⟩
    have H4 : Hid (Wk w b rb mb L vr kd d n td tn vv c 1000 zs vz w4 ∧ Wri w w4 vz (.slice (some ⟨w2.heap.size, 0, none⟩) 1 1) 1 [kE d n, 2, 0]) := ⟨H3.out.1.keeps l4 k4, OwnM.keptB H3.out.2.1 (fun k hk => by cases hk; exact (k4.off hoff).2), fun k hk e => by cases e; exact (k4.off hoff).1.2.2.2 hk⟩
    clear l4 k4 H3 hoff o0 o1 o2 o3 o4 o5 o6 o7
    rcases he with ⟨_, rfl⟩ | ⟨q, _⟩
    case inr => exact absurd rfl q
    obtain ⟨⟨⟨o0, o1, o2, o3, o4, o5⟩, _⟩, ⟨⟨o6, o7⟩, _⟩, _⟩ := H4.out.1.2.1
    go_wp2_with fail
    refine (inodeKey_is c HC.out.2.2.2.2.2 _).mono ?_
    rintro e w5 ⟨rfl, q5⟩
    have H5 : Hid (Wk w b rb mb L vr kd d n td tn vv c 1000 zs vz w5 ∧ Wri w w5 vz (.slice (some ⟨w2.heap.size, 0, none⟩) 1 1) 1 [kE d n, 2, 0]) := ⟨H4.out.1.later q5, H4.out.2.later q5⟩
    clear q5 H4 o0 o1 o2 o3 o4 o5 o6 o7
    go_wp2_with fail
    refine (deleteOf_is (kI c) _).mono ?_
    rintro e w6 ⟨rfl, q6⟩
    have H6 : Hid (Wk w b rb mb L vr kd d n td tn vv c 1000 zs vz w6 ∧ Wri w w6 vz (.slice (some ⟨w2.heap.size, 0, none⟩) 1 1) 1 [kE d n, 2, 0]) := ⟨H5.out.1.later q6, H5.out.2.later q6⟩
    clear q6 H5
    have H9 : Hid (Wri w w6 vz (.slice (some ⟨w2.heap.size, 0, none⟩) 1 1) 1 [kE d n, 2, 0]) := H6.out.2
    have H9b : w.heap.size + 2 < w6.heap.size := H6.out.1.2.1.lt
    go_wp2_with (first | (at_builtin; refine wpList_appL 132 i0 (.agg #[.int .i64 0, .int .i64 0, .int .i64 0]) 3 24 (by rfl) _ _ 79 (by rfl) Tryz.underlying79 hi hz0 hz1 hz2 rfl (by omega) (by omega) _ (w.heap.size + 3) 1 [kE d n, 2, 0] (.slice (some ⟨w2.heap.size, 0, none⟩) 1 1) (by rfl) (OwnM.later H9.out.1 (below_alloc _ _)) w6.heap.size 1 (fun p => [kI c, 2, 0].getD p 0) (.slice (some ⟨w6.heap.size, 0, none⟩) 1 1) (by rfl) (row_item1 w6 _ _ _) (by omega) (by have := H9b; simp; omega) ?_; intro ao1 cp1 w7 O6 G6 N6; have HF : Hid (_ ∧ _) := H6.out.1.app H9.out hmb hbw O6 G6 N6; clear O6 G6 N6) | (refine wpList_storeP rfl _ _ rfl (w.heap.size + 2) _ _ _ _ _ rfl rfl HF.out.1.2.1.2.2 (by kernel_rfl) ?_))
    exact bodyPost_ret (v := .agg #[.int .i64 0, .int .i64 0, .int .i64 0, .slice none 0 0, .slice ao1 (1 + 1) cp1]) (results_pl Tryz.results115 _ _ _ _ _ _ _ _ rfl HF.out.1.2.1.2.2) rfl (HF.out.1.told hmb 0 _ _ _ _ HF.out.2.1 HF.out.2.2 _ rfl)
end Go.Proofs.YtnchaccgenfhoaaGreat

namespace Go.Proofs.YtnchaccgenfhoaaGreat
open Go.RowKit

theorem Wn.pass {w X X' : World} {b rb mb : Nat} {L : Prs} {vr vz : Value} {kd d n td tn vv r v : Int} {xs ys W : List Int} {m : Nat} {e : Ending} (h : Wn w b rb mb L vr kd d n td tn vv xs vz X) (hE : PlanEnd X b rb mb L vz r v ys m W e X') :
    (r = 0 ∧ ∃ vy vw, e = .returned (.agg #[.int .i64 0, .int .i64 0, .int .i64 v, .slice none 0 0, vw]) ∧ Wn w b rb mb L vr kd d n td tn vv ys vy X' ∧ OwnM X' (w.heap.size + 2) 132 3 vw m W ∧ ∀ k, vy.ownBlock = some k → vw.ownBlock ≠ some k) ∨ (e = .panicked (wrongs r) ∧ PlanEnd w b rb mb L vr r v ys m W (.panicked (wrongs r)) X') := by
  obtain ⟨vy, ⟨hl, hk⟩, ⟨hr, vw, he, ho, hd⟩ | ⟨hr, he, h1, h2, h3⟩⟩ := hE
  · exact Or.inl ⟨hr, vy, vw, he, h.keeps hl hk, OwnM.monoP ho (by have := h.2.1.2.lt; omega), hd⟩
  · exact Or.inr ⟨he, vy, ⟨hl, h.1.2.trans hk⟩, Or.inr ⟨hr, rfl, h1, h2, h3⟩⟩
theorem WriteEnd.plan {w w' : World} {b rb mb : Nat} {L : Prs} {xs : List Int} {vr : Value} {c cv vv : Int} {e : Ending} (hl : Looks w b rb mb L xs vr) (h : WriteEnd w c cv vv e w') {r v : Int} {ys W : List Int} {m : Nat} (hp : (if cv = 1000 then ((9 : Int), (0 : Int), xs, 0, ([] : List Int)) else (0, 0, xs, 1, [kB c, 1, vv])) = (r, v, ys, m, W)) : PlanEnd w b rb mb L vr r v ys m W e w' := by
  obtain ⟨hb, ⟨h1, he⟩ | ⟨h1, vw, he, ho⟩⟩ := h
  · rw [if_pos h1] at hp
    simp only [Prod.mk.injEq] at hp
    obtain ⟨rfl, rfl, rfl, rfl, rfl⟩ := hp
    exact ⟨vr, ⟨hl.later hb, Keeps.below _ _ _ hb⟩, Or.inr ⟨by decide, he, rfl, rfl, rfl⟩⟩
  · rw [if_neg h1] at hp
    simp only [Prod.mk.injEq] at hp
    obtain ⟨rfl, rfl, rfl, rfl, rfl⟩ := hp
    exact ⟨vr, ⟨hl.later hb, Keeps.below _ _ _ hb⟩, Or.inl ⟨rfl, vw, he, ho, fun k hk e => by have := (hl.2.2.2.1.lt k hk).2; have := (OwnM.block ho k e).1; omega⟩⟩
set_option maxRecDepth 100000 in
set_option maxHeartbeats 4000000 in
theorem compile_is (L : Prs) (b rb mb : Nat) (vr : Value) (kd d n td tn vv : Int) (w : World) (h : Looks w b rb mb L [] vr) (hrs : Rises L) (hn : L.length ≤ 1000) (hfit : ∀ k, 0 ≤ (lookF L k).2 ∧ (lookF L k).2 ≤ 9999) (hkd : 1 ≤ kd ∧ kd ≤ 8) (hd : 0 ≤ d ∧ d ≤ 9) (hnm : 0 ≤ n ∧ n ≤ 5) (htd : 0 ≤ td ∧ td ≤ 9) (htn : 0 ≤ tn ∧ tn ≤ 5) (r v : Int) (ys : List Int) (m : Nat) (W : List Int) (hp : replyP L kd d n td tn vv = (r, v, ys, m, W)) :
    Calls Tryz.prog 101 #[.pointer (some ⟨b, 0, none⟩), .agg #[.int .i64 kd, .int .i64 d, .int .i64 n, .int .i64 td, .int .i64 tn, .int .i64 vv]] w (PlanEnd w b rb mb L vr r v ys m W) := by
  have hmb : mb < w.heap.size := h.2.2.1.lt
  have HC : Hid (Rises L ∧ (0 ≤ d ∧ d ≤ 9) ∧ (0 ≤ n ∧ n ≤ 5) ∧ (0 ≤ td ∧ td ≤ 9) ∧ (0 ≤ tn ∧ tn ≤ 5)) := ⟨hrs, hd, hnm, htd, htn⟩
  have HK : Hid (Wn w b rb mb L vr kd d n td tn vv [] vr ((w.alloc (opO kd d n td tn vv)).alloc zeroPl)) := Wn.new h _ _ _ _ _ _
  have hlen := addR_len [] (kI d)
  have hlen2 := addR_len (addR [] (kI d)) (kE d n)
  simp only [List.length_nil] at hlen
  unfold replyP at hp
  cases hdq : dirB L d with
  | false =>
    have HD : Hid (dirB L d = false) := hdq
    rw [hdq] at hp
    simp only [Bool.false_eq_true, if_false, Prod.mk.injEq] at hp
    obtain ⟨rfl, rfl, rfl, rfl, rfl⟩ := hp
    clear h hrs hd hnm htd htn hdq
    go_enter Tryz.func101, Tryz.ntmps101
    go_wp2_with fail
    refine (isDir_is L b rb mb [] vr d _ HK.out.1.1 HC.out.1 hn HC.out.2.1 (Nat.zero_le _)).mono ?_
    rintro e w1 ⟨rfl, v1, l1, k1⟩
    have H1 : Hid (Wn w b rb mb L vr kd d n td tn vv (addR [] (kI d)) v1 w1) := HK.out.keeps l1 k1
    clear l1 k1 HK
    rw [HD.out]
    go_wp2_with fail
    refine (wrongIf_so 9 _).mono ?_
    rintro e w9 ⟨rfl, hw9⟩
    obtain rfl := hw9.symm
    exact ⟨rfl, v1, H1.out.1, Or.inr ⟨by decide, rfl, rfl, rfl, rfl⟩⟩
  | true =>
  have HD : Hid (dirB L d = true) := hdq
  rw [hdq] at hp
  simp only [if_true] at hp
  obtain ⟨t, htq⟩ : ∃ t, lookF L (kE d n) = t := ⟨_, rfl⟩
  obtain ⟨th, tz⟩ := t
  have HT : Hid (lookF L (kE d n) = (th, tz)) := htq
  have HTZ : Hid (0 ≤ tz) := by have := (hfit (kE d n)).1; rw [htq] at this; exact this
  have HFit : Hid (∀ k, 0 ≤ (lookF L k).2 ∧ (lookF L k).2 ≤ 9999) := hfit
  rw [htq] at hp
  clear h hrs hd hnm htd htn hdq htq hfit
  by_cases hk : kd = 1 ∨ kd = 2
  · rw [if_pos hk] at hp
    cases th with
    | true =>
      simp only [if_true, Prod.mk.injEq] at hp
      obtain ⟨rfl, rfl, rfl, rfl, rfl⟩ := hp
      rcases hk with rfl | rfl
      · go_enter Tryz.func101, Tryz.ntmps101
        go_wp2_with fail
        refine (isDir_is L b rb mb [] vr d _ HK.out.1.1 HC.out.1 hn HC.out.2.1 (Nat.zero_le _)).mono ?_
        rintro e w1 ⟨rfl, v1, l1, k1⟩
        have H1 : Hid (Wn w b rb mb L vr 1 d n td tn vv (addR [] (kI d)) v1 w1) := HK.out.keeps l1 k1
        clear l1 k1 HK
        rw [HD.out]
        go_wp2_with fail
        refine (wrongIf_no 9 _).mono ?_
        rintro e w9 ⟨rfl, hw9⟩
        obtain rfl := hw9.symm
        obtain ⟨⟨o0, o1, o2, o3, o4, o5⟩, _⟩ := H1.out.2.1.1
        go_wp2_with fail
        refine (entryKey_is d n HC.out.2.1 HC.out.2.2.1 _).mono ?_
        rintro e w2 ⟨rfl, q2⟩
        have H2 : Hid (Wn w b rb mb L vr 1 d n td tn vv (addR [] (kI d)) v1 w2) := H1.out.later q2
        clear q2 H1 o0 o1 o2 o3 o4 o5
        go_wp2_with fail
        refine (look_is L b rb mb _ v1 (kE d n) _ H2.out.1.1 HC.out.1 hn (by have := HC.out.2; unfold kE; omega) (by omega)).mono ?_
        rintro e w3 ⟨rfl, v3, l3, k3⟩
        rw [HT.out]
        have H3 : Hid (Wn w b rb mb L vr 1 d n td tn vv (addR (addR [] (kI d)) (kE d n)) v3 (w3.alloc (sightO true tz))) := (H2.out.keeps l3 k3).alloc _
        have HS3 : Hid (Blk2 (w3.alloc (sightO true tz)) w3.heap.size (.bool true) (.int .i64 tz) ∧ Off (w3.alloc (sightO true tz)) b mb v3 w3.heap.size) := ⟨Blk2.new _ _ _ _, l3.off _⟩
        clear l3 k3 H2
        obtain ⟨⟨o0, o1, o2, o3, o4, o5⟩, _⟩ := H3.out.2.1.1
        have hob : w.heap.size < w3.heap.size := by have := H3.out.2.1.2.lt; simp at this; omega
        obtain ⟨⟨y0, y1⟩, _⟩ := HS3.out.1
        go_wp2_with fail
        refine (wrongIf_so 6 _).mono ?_
        rintro e w9 ⟨rfl, hw9⟩
        obtain rfl := hw9.symm
        exact ⟨rfl, v3, H3.out.1, Or.inr ⟨by decide, rfl, rfl, rfl, rfl⟩⟩
      · go_enter Tryz.func101, Tryz.ntmps101
        go_wp2_with fail
        refine (isDir_is L b rb mb [] vr d _ HK.out.1.1 HC.out.1 hn HC.out.2.1 (Nat.zero_le _)).mono ?_
        rintro e w1 ⟨rfl, v1, l1, k1⟩
        have H1 : Hid (Wn w b rb mb L vr 2 d n td tn vv (addR [] (kI d)) v1 w1) := HK.out.keeps l1 k1
        clear l1 k1 HK
        rw [HD.out]
        go_wp2_with fail
        refine (wrongIf_no 9 _).mono ?_
        rintro e w9 ⟨rfl, hw9⟩
        obtain rfl := hw9.symm
        obtain ⟨⟨o0, o1, o2, o3, o4, o5⟩, _⟩ := H1.out.2.1.1
        go_wp2_with fail
        refine (entryKey_is d n HC.out.2.1 HC.out.2.2.1 _).mono ?_
        rintro e w2 ⟨rfl, q2⟩
        have H2 : Hid (Wn w b rb mb L vr 2 d n td tn vv (addR [] (kI d)) v1 w2) := H1.out.later q2
        clear q2 H1 o0 o1 o2 o3 o4 o5
        go_wp2_with fail
        refine (look_is L b rb mb _ v1 (kE d n) _ H2.out.1.1 HC.out.1 hn (by have := HC.out.2; unfold kE; omega) (by omega)).mono ?_
        rintro e w3 ⟨rfl, v3, l3, k3⟩
        rw [HT.out]
        have H3 : Hid (Wn w b rb mb L vr 2 d n td tn vv (addR (addR [] (kI d)) (kE d n)) v3 (w3.alloc (sightO true tz))) := (H2.out.keeps l3 k3).alloc _
        have HS3 : Hid (Blk2 (w3.alloc (sightO true tz)) w3.heap.size (.bool true) (.int .i64 tz) ∧ Off (w3.alloc (sightO true tz)) b mb v3 w3.heap.size) := ⟨Blk2.new _ _ _ _, l3.off _⟩
        clear l3 k3 H2
        obtain ⟨⟨o0, o1, o2, o3, o4, o5⟩, _⟩ := H3.out.2.1.1
        have hob : w.heap.size < w3.heap.size := by have := H3.out.2.1.2.lt; simp at this; omega
        obtain ⟨⟨y0, y1⟩, _⟩ := HS3.out.1
        go_wp2_with fail
        refine (wrongIf_so 6 _).mono ?_
        rintro e w9 ⟨rfl, hw9⟩
        obtain rfl := hw9.symm
        exact ⟨rfl, v3, H3.out.1, Or.inr ⟨by decide, rfl, rfl, rfl, rfl⟩⟩
    | false =>
      simp only [Bool.false_eq_true, if_false] at hp
      have HQ : Hid (makeP L kd d n (addR (addR [] (kI d)) (kE d n)) = (r, v, ys, m, W)) := hp
      clear hp
      rcases hk with rfl | rfl
      · go_enter Tryz.func101, Tryz.ntmps101
        go_wp2_with fail
        refine (isDir_is L b rb mb [] vr d _ HK.out.1.1 HC.out.1 hn HC.out.2.1 (Nat.zero_le _)).mono ?_
        rintro e w1 ⟨rfl, v1, l1, k1⟩
        have H1 : Hid (Wn w b rb mb L vr 1 d n td tn vv (addR [] (kI d)) v1 w1) := HK.out.keeps l1 k1
        clear l1 k1 HK
        rw [HD.out]
        go_wp2_with fail
        refine (wrongIf_no 9 _).mono ?_
        rintro e w9 ⟨rfl, hw9⟩
        obtain rfl := hw9.symm
        obtain ⟨⟨o0, o1, o2, o3, o4, o5⟩, _⟩ := H1.out.2.1.1
        go_wp2_with fail
        refine (entryKey_is d n HC.out.2.1 HC.out.2.2.1 _).mono ?_
        rintro e w2 ⟨rfl, q2⟩
        have H2 : Hid (Wn w b rb mb L vr 1 d n td tn vv (addR [] (kI d)) v1 w2) := H1.out.later q2
        clear q2 H1 o0 o1 o2 o3 o4 o5
        go_wp2_with fail
        refine (look_is L b rb mb _ v1 (kE d n) _ H2.out.1.1 HC.out.1 hn (by have := HC.out.2; unfold kE; omega) (by omega)).mono ?_
        rintro e w3 ⟨rfl, v3, l3, k3⟩
        rw [HT.out]
        have H3 : Hid (Wn w b rb mb L vr 1 d n td tn vv (addR (addR [] (kI d)) (kE d n)) v3 (w3.alloc (sightO false tz))) := (H2.out.keeps l3 k3).alloc _
        have HS3 : Hid (Blk2 (w3.alloc (sightO false tz)) w3.heap.size (.bool false) (.int .i64 tz) ∧ Off (w3.alloc (sightO false tz)) b mb v3 w3.heap.size) := ⟨Blk2.new _ _ _ _, l3.off _⟩
        clear l3 k3 H2
        obtain ⟨⟨o0, o1, o2, o3, o4, o5⟩, _⟩ := H3.out.2.1.1
        have hob : w.heap.size < w3.heap.size := by have := H3.out.2.1.2.lt; simp at this; omega
        obtain ⟨⟨y0, y1⟩, _⟩ := HS3.out.1
        go_wp2_with fail
        refine (wrongIf_no 6 _).mono ?_
        rintro e w9 ⟨rfl, hw9⟩
        obtain rfl := hw9.symm
        have HN : Hid (Wn w b rb mb L vr 1 d n td tn vv (addR (addR [] (kI d)) (kE d n)) v3 (w3.alloc (sightO false tz))) := H3
        go_wp2_with fail
        refine (planNew_is L b rb mb _ v3 1 d n td tn vv _ HN.out.1.1 HC.out.1 hn HC.out.2.1 HC.out.2.2.1 (Or.inl rfl) (by omega) r v ys m W HQ.out).mono ?_
        intro e w6 hE
        rcases HN.out.pass hE with ⟨rfl, vy, vw, rfl, hN, hO, hD⟩ | ⟨rfl, hE'⟩
        case inr => exact ⟨rfl, hE'⟩
        obtain ⟨a1, a2, rfl⟩ := OwnM.form hO
        have H6 : Hid (Wn w b rb mb L vr 1 d n td tn vv ys vy w6 ∧ OwnM w6 (w.heap.size + 2) 132 3 (.slice a1 m a2) m W ∧ ∀ k, vy.ownBlock = some k → (Value.slice a1 m a2).ownBlock ≠ some k) := ⟨hN, hO, hD⟩
        clear hE hN hO hD
        go_wp2_with (refine wpList_storeP rfl _ _ rfl (w.heap.size + 1) _ _ _ _ _ rfl rfl H6.out.1.2.1.2 (by kernel_rfl) ?_)
        exact bodyPost_ret (v := .agg #[.int .i64 0, .int .i64 0, .int .i64 v, .slice none 0 0, .slice a1 m a2]) (results_pl Tryz.results101 _ _ _ _ _ _ _ _ rfl H6.out.1.2.1.2) rfl (H6.out.1.told hmb v _ m W _ H6.out.2.1 H6.out.2.2 _ rfl)
      · go_enter Tryz.func101, Tryz.ntmps101
        go_wp2_with fail
        refine (isDir_is L b rb mb [] vr d _ HK.out.1.1 HC.out.1 hn HC.out.2.1 (Nat.zero_le _)).mono ?_
        rintro e w1 ⟨rfl, v1, l1, k1⟩
        have H1 : Hid (Wn w b rb mb L vr 2 d n td tn vv (addR [] (kI d)) v1 w1) := HK.out.keeps l1 k1
        clear l1 k1 HK
        rw [HD.out]
        go_wp2_with fail
        refine (wrongIf_no 9 _).mono ?_
        rintro e w9 ⟨rfl, hw9⟩
        obtain rfl := hw9.symm
        obtain ⟨⟨o0, o1, o2, o3, o4, o5⟩, _⟩ := H1.out.2.1.1
        go_wp2_with fail
        refine (entryKey_is d n HC.out.2.1 HC.out.2.2.1 _).mono ?_
        rintro e w2 ⟨rfl, q2⟩
        have H2 : Hid (Wn w b rb mb L vr 2 d n td tn vv (addR [] (kI d)) v1 w2) := H1.out.later q2
        clear q2 H1 o0 o1 o2 o3 o4 o5
        go_wp2_with fail
        refine (look_is L b rb mb _ v1 (kE d n) _ H2.out.1.1 HC.out.1 hn (by have := HC.out.2; unfold kE; omega) (by omega)).mono ?_
        rintro e w3 ⟨rfl, v3, l3, k3⟩
        rw [HT.out]
        have H3 : Hid (Wn w b rb mb L vr 2 d n td tn vv (addR (addR [] (kI d)) (kE d n)) v3 (w3.alloc (sightO false tz))) := (H2.out.keeps l3 k3).alloc _
        have HS3 : Hid (Blk2 (w3.alloc (sightO false tz)) w3.heap.size (.bool false) (.int .i64 tz) ∧ Off (w3.alloc (sightO false tz)) b mb v3 w3.heap.size) := ⟨Blk2.new _ _ _ _, l3.off _⟩
        clear l3 k3 H2
        obtain ⟨⟨o0, o1, o2, o3, o4, o5⟩, _⟩ := H3.out.2.1.1
        have hob : w.heap.size < w3.heap.size := by have := H3.out.2.1.2.lt; simp at this; omega
        obtain ⟨⟨y0, y1⟩, _⟩ := HS3.out.1
        go_wp2_with fail
        refine (wrongIf_no 6 _).mono ?_
        rintro e w9 ⟨rfl, hw9⟩
        obtain rfl := hw9.symm
        have HN : Hid (Wn w b rb mb L vr 2 d n td tn vv (addR (addR [] (kI d)) (kE d n)) v3 (w3.alloc (sightO false tz))) := H3
        go_wp2_with fail
        refine (planNew_is L b rb mb _ v3 2 d n td tn vv _ HN.out.1.1 HC.out.1 hn HC.out.2.1 HC.out.2.2.1 (Or.inr rfl) (by omega) r v ys m W HQ.out).mono ?_
        intro e w6 hE
        rcases HN.out.pass hE with ⟨rfl, vy, vw, rfl, hN, hO, hD⟩ | ⟨rfl, hE'⟩
        case inr => exact ⟨rfl, hE'⟩
        obtain ⟨a1, a2, rfl⟩ := OwnM.form hO
        have H6 : Hid (Wn w b rb mb L vr 2 d n td tn vv ys vy w6 ∧ OwnM w6 (w.heap.size + 2) 132 3 (.slice a1 m a2) m W ∧ ∀ k, vy.ownBlock = some k → (Value.slice a1 m a2).ownBlock ≠ some k) := ⟨hN, hO, hD⟩
        clear hE hN hO hD
        go_wp2_with (refine wpList_storeP rfl _ _ rfl (w.heap.size + 1) _ _ _ _ _ rfl rfl H6.out.1.2.1.2 (by kernel_rfl) ?_)
        exact bodyPost_ret (v := .agg #[.int .i64 0, .int .i64 0, .int .i64 v, .slice none 0 0, .slice a1 m a2]) (results_pl Tryz.results101 _ _ _ _ _ _ _ _ rfl H6.out.1.2.1.2) rfl (H6.out.1.told hmb v _ m W _ H6.out.2.1 H6.out.2.2 _ rfl)
  have e1 : (kd == 1) = false := beq_eq_false_iff_ne.2 (by omega)
  have e2 : (kd == 2) = false := beq_eq_false_iff_ne.2 (by omega)
  have hk3 : 3 ≤ kd := by omega
  rw [if_neg hk] at hp
  clear hk
  cases th with
  | false =>
    simp only [Bool.false_eq_true, if_false, Prod.mk.injEq] at hp
    obtain ⟨rfl, rfl, rfl, rfl, rfl⟩ := hp
    go_enter Tryz.func101, Tryz.ntmps101
    go_wp2_with fail
    refine (isDir_is L b rb mb [] vr d _ HK.out.1.1 HC.out.1 hn HC.out.2.1 (Nat.zero_le _)).mono ?_
    rintro e w1 ⟨rfl, v1, l1, k1⟩
    have H1 : Hid (Wn w b rb mb L vr kd d n td tn vv (addR [] (kI d)) v1 w1) := HK.out.keeps l1 k1
    clear l1 k1 HK
    rw [HD.out]
    go_wp2_with fail
    refine (wrongIf_no 9 _).mono ?_
    rintro e w9 ⟨rfl, hw9⟩
    obtain rfl := hw9.symm
    obtain ⟨⟨o0, o1, o2, o3, o4, o5⟩, _⟩ := H1.out.2.1.1
    go_wp2_with fail
    refine (entryKey_is d n HC.out.2.1 HC.out.2.2.1 _).mono ?_
    rintro e w2 ⟨rfl, q2⟩
    have H2 : Hid (Wn w b rb mb L vr kd d n td tn vv (addR [] (kI d)) v1 w2) := H1.out.later q2
    clear q2 H1 o0 o1 o2 o3 o4 o5
    go_wp2_with fail
    refine (look_is L b rb mb _ v1 (kE d n) _ H2.out.1.1 HC.out.1 hn (by have := HC.out.2; unfold kE; omega) (by omega)).mono ?_
    rintro e w3 ⟨rfl, v3, l3, k3⟩
    rw [HT.out]
    have H3 : Hid (Wn w b rb mb L vr kd d n td tn vv (addR (addR [] (kI d)) (kE d n)) v3 (w3.alloc (sightO false tz))) := (H2.out.keeps l3 k3).alloc _
    have HS3 : Hid (Blk2 (w3.alloc (sightO false tz)) w3.heap.size (.bool false) (.int .i64 tz) ∧ Off (w3.alloc (sightO false tz)) b mb v3 w3.heap.size) := ⟨Blk2.new _ _ _ _, l3.off _⟩
    clear l3 k3 H2
    obtain ⟨⟨o0, o1, o2, o3, o4, o5⟩, _⟩ := H3.out.2.1.1
    have hob : w.heap.size < w3.heap.size := by have := H3.out.2.1.2.lt; simp at this; omega
    obtain ⟨⟨y0, y1⟩, _⟩ := HS3.out.1
    go_wp2_with fail
    refine (wrongIf_so 4 _).mono ?_
    rintro e w9 ⟨rfl, hw9⟩
    obtain rfl := hw9.symm
    exact ⟨rfl, v3, H3.out.1, Or.inr ⟨by decide, rfl, rfl, rfl, rfl⟩⟩
  | true =>
  simp only [if_true] at hp
  obtain ⟨c, hcq⟩ : ∃ c, minC tz = c := ⟨_, rfl⟩
  obtain ⟨cv, hcvq⟩ : ∃ cv, (lookF L (kI c)).2 = cv := ⟨_, rfl⟩
  have HM : Hid (minC tz = c ∧ (lookF L (kI c)).2 = cv ∧ (0 ≤ c ∧ c ≤ 9) ∧ (0 ≤ cv ∧ cv ≤ 9999)) := ⟨hcq, hcvq, hcq ▸ minC_in HTZ.out, hcvq ▸ HFit.out (kI c)⟩
  have hlen3 := addR_len (addR (addR [] (kI d)) (kE d n)) (kI c)
  unfold childP at hp
  rw [hcq, hcvq] at hp
  clear hcq hcvq
  by_cases h3 : kd = 3
  · subst h3
    rw [if_pos rfl] at hp
    have HQ : Hid (removeP L d n c cv (addR (addR (addR [] (kI d)) (kE d n)) (kI c)) = (r, v, ys, m, W)) := hp
    clear hp hkd hk3
    go_enter Tryz.func101, Tryz.ntmps101
    go_wp2_with fail
    refine (isDir_is L b rb mb [] vr d _ HK.out.1.1 HC.out.1 hn HC.out.2.1 (Nat.zero_le _)).mono ?_
    rintro e w1 ⟨rfl, v1, l1, k1⟩
    have H1 : Hid (Wn w b rb mb L vr 3 d n td tn vv (addR [] (kI d)) v1 w1) := HK.out.keeps l1 k1
    clear l1 k1 HK
    rw [HD.out]
    go_wp2_with fail
    refine (wrongIf_no 9 _).mono ?_
    rintro e w9 ⟨rfl, hw9⟩
    obtain rfl := hw9.symm
    obtain ⟨⟨o0, o1, o2, o3, o4, o5⟩, _⟩ := H1.out.2.1.1
    go_wp2_with fail
    refine (entryKey_is d n HC.out.2.1 HC.out.2.2.1 _).mono ?_
    rintro e w2 ⟨rfl, q2⟩
    have H2 : Hid (Wn w b rb mb L vr 3 d n td tn vv (addR [] (kI d)) v1 w2) := H1.out.later q2
    clear q2 H1 o0 o1 o2 o3 o4 o5
    go_wp2_with fail
    refine (look_is L b rb mb _ v1 (kE d n) _ H2.out.1.1 HC.out.1 hn (by have := HC.out.2; unfold kE; omega) (by omega)).mono ?_
    rintro e w3 ⟨rfl, v3, l3, k3⟩
    rw [HT.out]
    have H3 : Hid (Wn w b rb mb L vr 3 d n td tn vv (addR (addR [] (kI d)) (kE d n)) v3 (w3.alloc (sightO true tz))) := (H2.out.keeps l3 k3).alloc _
    have HS3 : Hid (Blk2 (w3.alloc (sightO true tz)) w3.heap.size (.bool true) (.int .i64 tz) ∧ Off (w3.alloc (sightO true tz)) b mb v3 w3.heap.size) := ⟨Blk2.new _ _ _ _, l3.off _⟩
    clear l3 k3 H2
    obtain ⟨⟨o0, o1, o2, o3, o4, o5⟩, _⟩ := H3.out.2.1.1
    have hob : w.heap.size < w3.heap.size := by have := H3.out.2.1.2.lt; simp at this; omega
    obtain ⟨⟨y0, y1⟩, _⟩ := HS3.out.1
    go_wp2_with fail
    refine (wrongIf_no 4 _).mono ?_
    rintro e w9 ⟨rfl, hw9⟩
    obtain rfl := hw9.symm
    go_wp2_with fail
    refine (lookChild_is L b rb mb _ v3 true tz _ H3.out.1.1 HC.out.1 hn HTZ.out (by omega) c cv HM.out.1 HM.out.2.1).mono ?_
    rintro e w4 ⟨rfl, v4, l4, k4⟩
    have HN : Hid (Wn w b rb mb L vr 3 d n td tn vv (addR (addR (addR [] (kI d)) (kE d n)) (kI c)) v4 (w4.alloc (chO c cv))) := (H3.out.keeps l4 k4).alloc _
    have HS4 : Hid (Blk2 (w4.alloc (chO c cv)) w4.heap.size (.int .i64 c) (.int .i64 cv)) := Blk2.new _ _ _ _
    clear l4 k4 H3 HS3 o0 o1 o2 o3 o4 o5 hob
    obtain ⟨⟨o0, o1, o2, o3, o4, o5⟩, _⟩ := HN.out.2.1.1
    obtain ⟨⟨z0, z1⟩, _⟩ := HS4.out
    have hob : w.heap.size < w4.heap.size := by have := HN.out.2.1.2.lt; simp at this; omega
    go_wp2_with fail
    refine (planRemove_is L b rb mb _ v4 3 d n td tn vv c cv _ HN.out.1.1 HC.out.1 hn HC.out.2.1 HC.out.2.2.1 HC.out.2.2.2.1 HC.out.2.2.2.2 HM.out.2.2.1 HM.out.2.2.2 (by omega) r v ys m W HQ.out).mono ?_
    intro e w6 hE
    rcases HN.out.pass hE with ⟨rfl, vy, vw, rfl, hN, hO, hD⟩ | ⟨rfl, hE'⟩
    case inr => exact ⟨rfl, hE'⟩
    obtain ⟨a1, a2, rfl⟩ := OwnM.form hO
    have H6 : Hid (Wn w b rb mb L vr 3 d n td tn vv ys vy w6 ∧ OwnM w6 (w.heap.size + 2) 132 3 (.slice a1 m a2) m W ∧ ∀ k, vy.ownBlock = some k → (Value.slice a1 m a2).ownBlock ≠ some k) := ⟨hN, hO, hD⟩
    clear hE hN hO hD
    go_wp2_with (refine wpList_storeP rfl _ _ rfl (w.heap.size + 1) _ _ _ _ _ rfl rfl H6.out.1.2.1.2 (by kernel_rfl) ?_)
    exact bodyPost_ret (v := .agg #[.int .i64 0, .int .i64 0, .int .i64 v, .slice none 0 0, .slice a1 m a2]) (results_pl Tryz.results101 _ _ _ _ _ _ _ _ rfl H6.out.1.2.1.2) rfl (H6.out.1.told hmb v _ m W _ H6.out.2.1 H6.out.2.2 _ rfl)
  by_cases h4 : kd = 4
  · subst h4
    rw [if_neg h3, if_pos rfl] at hp
    have HQ : Hid (moveP L d n td tn c cv (addR (addR (addR [] (kI d)) (kE d n)) (kI c)) = (r, v, ys, m, W)) := hp
    clear hp h3 hkd hk3
    go_enter Tryz.func101, Tryz.ntmps101
    go_wp2_with fail
    refine (isDir_is L b rb mb [] vr d _ HK.out.1.1 HC.out.1 hn HC.out.2.1 (Nat.zero_le _)).mono ?_
    rintro e w1 ⟨rfl, v1, l1, k1⟩
    have H1 : Hid (Wn w b rb mb L vr 4 d n td tn vv (addR [] (kI d)) v1 w1) := HK.out.keeps l1 k1
    clear l1 k1 HK
    rw [HD.out]
    go_wp2_with fail
    refine (wrongIf_no 9 _).mono ?_
    rintro e w9 ⟨rfl, hw9⟩
    obtain rfl := hw9.symm
    obtain ⟨⟨o0, o1, o2, o3, o4, o5⟩, _⟩ := H1.out.2.1.1
    go_wp2_with fail
    refine (entryKey_is d n HC.out.2.1 HC.out.2.2.1 _).mono ?_
    rintro e w2 ⟨rfl, q2⟩
    have H2 : Hid (Wn w b rb mb L vr 4 d n td tn vv (addR [] (kI d)) v1 w2) := H1.out.later q2
    clear q2 H1 o0 o1 o2 o3 o4 o5
    go_wp2_with fail
    refine (look_is L b rb mb _ v1 (kE d n) _ H2.out.1.1 HC.out.1 hn (by have := HC.out.2; unfold kE; omega) (by omega)).mono ?_
    rintro e w3 ⟨rfl, v3, l3, k3⟩
    rw [HT.out]
    have H3 : Hid (Wn w b rb mb L vr 4 d n td tn vv (addR (addR [] (kI d)) (kE d n)) v3 (w3.alloc (sightO true tz))) := (H2.out.keeps l3 k3).alloc _
    have HS3 : Hid (Blk2 (w3.alloc (sightO true tz)) w3.heap.size (.bool true) (.int .i64 tz) ∧ Off (w3.alloc (sightO true tz)) b mb v3 w3.heap.size) := ⟨Blk2.new _ _ _ _, l3.off _⟩
    clear l3 k3 H2
    obtain ⟨⟨o0, o1, o2, o3, o4, o5⟩, _⟩ := H3.out.2.1.1
    have hob : w.heap.size < w3.heap.size := by have := H3.out.2.1.2.lt; simp at this; omega
    obtain ⟨⟨y0, y1⟩, _⟩ := HS3.out.1
    go_wp2_with fail
    refine (wrongIf_no 4 _).mono ?_
    rintro e w9 ⟨rfl, hw9⟩
    obtain rfl := hw9.symm
    go_wp2_with fail
    refine (lookChild_is L b rb mb _ v3 true tz _ H3.out.1.1 HC.out.1 hn HTZ.out (by omega) c cv HM.out.1 HM.out.2.1).mono ?_
    rintro e w4 ⟨rfl, v4, l4, k4⟩
    have HN : Hid (Wn w b rb mb L vr 4 d n td tn vv (addR (addR (addR [] (kI d)) (kE d n)) (kI c)) v4 (w4.alloc (chO c cv))) := (H3.out.keeps l4 k4).alloc _
    have HS4 : Hid (Blk2 (w4.alloc (chO c cv)) w4.heap.size (.int .i64 c) (.int .i64 cv)) := Blk2.new _ _ _ _
    clear l4 k4 H3 HS3 o0 o1 o2 o3 o4 o5 hob
    obtain ⟨⟨o0, o1, o2, o3, o4, o5⟩, _⟩ := HN.out.2.1.1
    obtain ⟨⟨z0, z1⟩, _⟩ := HS4.out
    have hob : w.heap.size < w4.heap.size := by have := HN.out.2.1.2.lt; simp at this; omega
    go_wp2_with fail
    refine (planMove_is L b rb mb _ v4 4 d n td tn vv c cv _ HN.out.1.1 HC.out.1 hn HC.out.2.1 HC.out.2.2.1 HC.out.2.2.2.1 HC.out.2.2.2.2 HM.out.2.2.1 HM.out.2.2.2 (by omega) r v ys m W HQ.out).mono ?_
    intro e w6 hE
    rcases HN.out.pass hE with ⟨rfl, vy, vw, rfl, hN, hO, hD⟩ | ⟨rfl, hE'⟩
    case inr => exact ⟨rfl, hE'⟩
    obtain ⟨a1, a2, rfl⟩ := OwnM.form hO
    have H6 : Hid (Wn w b rb mb L vr 4 d n td tn vv ys vy w6 ∧ OwnM w6 (w.heap.size + 2) 132 3 (.slice a1 m a2) m W ∧ ∀ k, vy.ownBlock = some k → (Value.slice a1 m a2).ownBlock ≠ some k) := ⟨hN, hO, hD⟩
    clear hE hN hO hD
    go_wp2_with (refine wpList_storeP rfl _ _ rfl (w.heap.size + 1) _ _ _ _ _ rfl rfl H6.out.1.2.1.2 (by kernel_rfl) ?_)
    exact bodyPost_ret (v := .agg #[.int .i64 0, .int .i64 0, .int .i64 v, .slice none 0 0, .slice a1 m a2]) (results_pl Tryz.results101 _ _ _ _ _ _ _ _ rfl H6.out.1.2.1.2) rfl (H6.out.1.told hmb v _ m W _ H6.out.2.1 H6.out.2.2 _ rfl)
  by_cases h5 : kd = 5
  · subst h5
    rw [if_neg h3, if_neg h4, if_pos rfl] at hp
    have HQ : Hid (linkP L td tn c cv (addR (addR (addR [] (kI d)) (kE d n)) (kI c)) = (r, v, ys, m, W)) := hp
    clear hp h3 h4 hkd hk3
    go_enter Tryz.func101, Tryz.ntmps101
    go_wp2_with fail
    refine (isDir_is L b rb mb [] vr d _ HK.out.1.1 HC.out.1 hn HC.out.2.1 (Nat.zero_le _)).mono ?_
    rintro e w1 ⟨rfl, v1, l1, k1⟩
    have H1 : Hid (Wn w b rb mb L vr 5 d n td tn vv (addR [] (kI d)) v1 w1) := HK.out.keeps l1 k1
    clear l1 k1 HK
    rw [HD.out]
    go_wp2_with fail
    refine (wrongIf_no 9 _).mono ?_
    rintro e w9 ⟨rfl, hw9⟩
    obtain rfl := hw9.symm
    obtain ⟨⟨o0, o1, o2, o3, o4, o5⟩, _⟩ := H1.out.2.1.1
    go_wp2_with fail
    refine (entryKey_is d n HC.out.2.1 HC.out.2.2.1 _).mono ?_
    rintro e w2 ⟨rfl, q2⟩
    have H2 : Hid (Wn w b rb mb L vr 5 d n td tn vv (addR [] (kI d)) v1 w2) := H1.out.later q2
    clear q2 H1 o0 o1 o2 o3 o4 o5
    go_wp2_with fail
    refine (look_is L b rb mb _ v1 (kE d n) _ H2.out.1.1 HC.out.1 hn (by have := HC.out.2; unfold kE; omega) (by omega)).mono ?_
    rintro e w3 ⟨rfl, v3, l3, k3⟩
    rw [HT.out]
    have H3 : Hid (Wn w b rb mb L vr 5 d n td tn vv (addR (addR [] (kI d)) (kE d n)) v3 (w3.alloc (sightO true tz))) := (H2.out.keeps l3 k3).alloc _
    have HS3 : Hid (Blk2 (w3.alloc (sightO true tz)) w3.heap.size (.bool true) (.int .i64 tz) ∧ Off (w3.alloc (sightO true tz)) b mb v3 w3.heap.size) := ⟨Blk2.new _ _ _ _, l3.off _⟩
    clear l3 k3 H2
    obtain ⟨⟨o0, o1, o2, o3, o4, o5⟩, _⟩ := H3.out.2.1.1
    have hob : w.heap.size < w3.heap.size := by have := H3.out.2.1.2.lt; simp at this; omega
    obtain ⟨⟨y0, y1⟩, _⟩ := HS3.out.1
    go_wp2_with fail
    refine (wrongIf_no 4 _).mono ?_
    rintro e w9 ⟨rfl, hw9⟩
    obtain rfl := hw9.symm
    go_wp2_with fail
    refine (lookChild_is L b rb mb _ v3 true tz _ H3.out.1.1 HC.out.1 hn HTZ.out (by omega) c cv HM.out.1 HM.out.2.1).mono ?_
    rintro e w4 ⟨rfl, v4, l4, k4⟩
    have HN : Hid (Wn w b rb mb L vr 5 d n td tn vv (addR (addR (addR [] (kI d)) (kE d n)) (kI c)) v4 (w4.alloc (chO c cv))) := (H3.out.keeps l4 k4).alloc _
    have HS4 : Hid (Blk2 (w4.alloc (chO c cv)) w4.heap.size (.int .i64 c) (.int .i64 cv)) := Blk2.new _ _ _ _
    clear l4 k4 H3 HS3 o0 o1 o2 o3 o4 o5 hob
    obtain ⟨⟨o0, o1, o2, o3, o4, o5⟩, _⟩ := HN.out.2.1.1
    obtain ⟨⟨z0, z1⟩, _⟩ := HS4.out
    have hob : w.heap.size < w4.heap.size := by have := HN.out.2.1.2.lt; simp at this; omega
    go_wp2_with fail
    refine (planLink_is L b rb mb _ v4 5 d n td tn vv c cv _ HN.out.1.1 HC.out.1 hn HC.out.2.1 HC.out.2.2.1 HC.out.2.2.2.1 HC.out.2.2.2.2 HM.out.2.2.1 HM.out.2.2.2 (by omega) r v ys m W HQ.out).mono ?_
    intro e w6 hE
    rcases HN.out.pass hE with ⟨rfl, vy, vw, rfl, hN, hO, hD⟩ | ⟨rfl, hE'⟩
    case inr => exact ⟨rfl, hE'⟩
    obtain ⟨a1, a2, rfl⟩ := OwnM.form hO
    have H6 : Hid (Wn w b rb mb L vr 5 d n td tn vv ys vy w6 ∧ OwnM w6 (w.heap.size + 2) 132 3 (.slice a1 m a2) m W ∧ ∀ k, vy.ownBlock = some k → (Value.slice a1 m a2).ownBlock ≠ some k) := ⟨hN, hO, hD⟩
    clear hE hN hO hD
    go_wp2_with (refine wpList_storeP rfl _ _ rfl (w.heap.size + 1) _ _ _ _ _ rfl rfl H6.out.1.2.1.2 (by kernel_rfl) ?_)
    exact bodyPost_ret (v := .agg #[.int .i64 0, .int .i64 0, .int .i64 v, .slice none 0 0, .slice a1 m a2]) (results_pl Tryz.results101 _ _ _ _ _ _ _ _ rfl H6.out.1.2.1.2) rfl (H6.out.1.told hmb v _ m W _ H6.out.2.1 H6.out.2.2 _ rfl)
  by_cases h8 : kd = 8
  · subst h8
    rw [if_neg h3, if_neg h4, if_neg h5, if_pos rfl] at hp
    simp only [Prod.mk.injEq] at hp
    obtain ⟨rfl, rfl, rfl, rfl, rfl⟩ := hp
    clear h3 h4 h5 hkd hk3
    go_enter Tryz.func101, Tryz.ntmps101
    go_wp2_with fail
    refine (isDir_is L b rb mb [] vr d _ HK.out.1.1 HC.out.1 hn HC.out.2.1 (Nat.zero_le _)).mono ?_
    rintro e w1 ⟨rfl, v1, l1, k1⟩
    have H1 : Hid (Wn w b rb mb L vr 8 d n td tn vv (addR [] (kI d)) v1 w1) := HK.out.keeps l1 k1
    clear l1 k1 HK
    rw [HD.out]
    go_wp2_with fail
    refine (wrongIf_no 9 _).mono ?_
    rintro e w9 ⟨rfl, hw9⟩
    obtain rfl := hw9.symm
    obtain ⟨⟨o0, o1, o2, o3, o4, o5⟩, _⟩ := H1.out.2.1.1
    go_wp2_with fail
    refine (entryKey_is d n HC.out.2.1 HC.out.2.2.1 _).mono ?_
    rintro e w2 ⟨rfl, q2⟩
    have H2 : Hid (Wn w b rb mb L vr 8 d n td tn vv (addR [] (kI d)) v1 w2) := H1.out.later q2
    clear q2 H1 o0 o1 o2 o3 o4 o5
    go_wp2_with fail
    refine (look_is L b rb mb _ v1 (kE d n) _ H2.out.1.1 HC.out.1 hn (by have := HC.out.2; unfold kE; omega) (by omega)).mono ?_
    rintro e w3 ⟨rfl, v3, l3, k3⟩
    rw [HT.out]
    have H3 : Hid (Wn w b rb mb L vr 8 d n td tn vv (addR (addR [] (kI d)) (kE d n)) v3 (w3.alloc (sightO true tz))) := (H2.out.keeps l3 k3).alloc _
    have HS3 : Hid (Blk2 (w3.alloc (sightO true tz)) w3.heap.size (.bool true) (.int .i64 tz) ∧ Off (w3.alloc (sightO true tz)) b mb v3 w3.heap.size) := ⟨Blk2.new _ _ _ _, l3.off _⟩
    clear l3 k3 H2
    obtain ⟨⟨o0, o1, o2, o3, o4, o5⟩, _⟩ := H3.out.2.1.1
    have hob : w.heap.size < w3.heap.size := by have := H3.out.2.1.2.lt; simp at this; omega
    obtain ⟨⟨y0, y1⟩, _⟩ := HS3.out.1
    go_wp2_with fail
    refine (wrongIf_no 4 _).mono ?_
    rintro e w9 ⟨rfl, hw9⟩
    obtain rfl := hw9.symm
    go_wp2_with fail
    refine (lookChild_is L b rb mb _ v3 true tz _ H3.out.1.1 HC.out.1 hn HTZ.out (by omega) c cv HM.out.1 HM.out.2.1).mono ?_
    rintro e w4 ⟨rfl, v4, l4, k4⟩
    have HN : Hid (Wn w b rb mb L vr 8 d n td tn vv (addR (addR (addR [] (kI d)) (kE d n)) (kI c)) v4 (w4.alloc (chO c cv))) := (H3.out.keeps l4 k4).alloc _
    have HS4 : Hid (Blk2 (w4.alloc (chO c cv)) w4.heap.size (.int .i64 c) (.int .i64 cv)) := Blk2.new _ _ _ _
    clear l4 k4 H3 HS3 o0 o1 o2 o3 o4 o5 hob
    obtain ⟨⟨o0, o1, o2, o3, o4, o5⟩, _⟩ := HN.out.2.1.1
    obtain ⟨⟨z0, z1⟩, _⟩ := HS4.out
    have hob : w.heap.size < w4.heap.size := by have := HN.out.2.1.2.lt; simp at this; omega
    have HPB : Hid (PBk (w4.alloc (chO c cv)) (w.heap.size + 1)) := HN.out.2.1.2
    go_wp2_with (refine wpList_storeP rfl _ _ rfl (w.heap.size + 1) _ _ _ _ _ rfl rfl HPB.out (by kernel_rfl) ?_)
    exact bodyPost_ret (v := .agg #[.int .i64 0, .int .i64 0, .int .i64 cv, .slice none 0 0, .slice none 0 0]) (results_pl Tryz.results101 _ _ _ _ _ _ _ _ rfl HPB.out) rfl (HN.out.told hmb cv _ 0 [] _ (OwnM.nil _ _ _ _) (fun k _ e => by cases e) _ rfl)
  rw [if_neg h3, if_neg h4, if_neg h5, if_neg h8] at hp
  obtain rfl | rfl : kd = 6 ∨ kd = 7 := by omega
  focus
    rw [if_pos rfl] at hp
    have HQ : Hid ((if cv = 1000 then ((9 : Int), (0 : Int), (addR (addR (addR [] (kI d)) (kE d n)) (kI c)), 0, ([] : List Int)) else (0, 0, (addR (addR (addR [] (kI d)) (kE d n)) (kI c)), 1, [kB c, 1, vv])) = (r, v, ys, m, W)) := hp
    clear hp h3 h4 h5 h8 hkd hk3
    go_enter Tryz.func101, Tryz.ntmps101
    go_wp2_with fail
    refine (isDir_is L b rb mb [] vr d _ HK.out.1.1 HC.out.1 hn HC.out.2.1 (Nat.zero_le _)).mono ?_
    rintro e w1 ⟨rfl, v1, l1, k1⟩
    have H1 : Hid (Wn w b rb mb L vr 6 d n td tn vv (addR [] (kI d)) v1 w1) := HK.out.keeps l1 k1
    clear l1 k1 HK
    rw [HD.out]
    go_wp2_with fail
    refine (wrongIf_no 9 _).mono ?_
    rintro e w9 ⟨rfl, hw9⟩
    obtain rfl := hw9.symm
    obtain ⟨⟨o0, o1, o2, o3, o4, o5⟩, _⟩ := H1.out.2.1.1
    go_wp2_with fail
    refine (entryKey_is d n HC.out.2.1 HC.out.2.2.1 _).mono ?_
    rintro e w2 ⟨rfl, q2⟩
    have H2 : Hid (Wn w b rb mb L vr 6 d n td tn vv (addR [] (kI d)) v1 w2) := H1.out.later q2
    clear q2 H1 o0 o1 o2 o3 o4 o5
    go_wp2_with fail
    refine (look_is L b rb mb _ v1 (kE d n) _ H2.out.1.1 HC.out.1 hn (by have := HC.out.2; unfold kE; omega) (by omega)).mono ?_
    rintro e w3 ⟨rfl, v3, l3, k3⟩
    rw [HT.out]
    have H3 : Hid (Wn w b rb mb L vr 6 d n td tn vv (addR (addR [] (kI d)) (kE d n)) v3 (w3.alloc (sightO true tz))) := (H2.out.keeps l3 k3).alloc _
    have HS3 : Hid (Blk2 (w3.alloc (sightO true tz)) w3.heap.size (.bool true) (.int .i64 tz) ∧ Off (w3.alloc (sightO true tz)) b mb v3 w3.heap.size) := ⟨Blk2.new _ _ _ _, l3.off _⟩
    clear l3 k3 H2
    obtain ⟨⟨o0, o1, o2, o3, o4, o5⟩, _⟩ := H3.out.2.1.1
    have hob : w.heap.size < w3.heap.size := by have := H3.out.2.1.2.lt; simp at this; omega
    obtain ⟨⟨y0, y1⟩, _⟩ := HS3.out.1
    go_wp2_with fail
    refine (wrongIf_no 4 _).mono ?_
    rintro e w9 ⟨rfl, hw9⟩
    obtain rfl := hw9.symm
    go_wp2_with fail
    refine (lookChild_is L b rb mb _ v3 true tz _ H3.out.1.1 HC.out.1 hn HTZ.out (by omega) c cv HM.out.1 HM.out.2.1).mono ?_
    rintro e w4 ⟨rfl, v4, l4, k4⟩
    have HN : Hid (Wn w b rb mb L vr 6 d n td tn vv (addR (addR (addR [] (kI d)) (kE d n)) (kI c)) v4 (w4.alloc (chO c cv))) := (H3.out.keeps l4 k4).alloc _
    have HS4 : Hid (Blk2 (w4.alloc (chO c cv)) w4.heap.size (.int .i64 c) (.int .i64 cv)) := Blk2.new _ _ _ _
    clear l4 k4 H3 HS3 o0 o1 o2 o3 o4 o5 hob
    obtain ⟨⟨o0, o1, o2, o3, o4, o5⟩, _⟩ := HN.out.2.1.1
    obtain ⟨⟨z0, z1⟩, _⟩ := HS4.out
    have hob : w.heap.size < w4.heap.size := by have := HN.out.2.1.2.lt; simp at this; omega
    go_wp2_with fail
    refine (planWrite_is 6 d n td tn vv c cv _ HM.out.2.2.1).mono ?_
    intro e w6 hE
    rcases HN.out.pass (hE.plan HN.out.1.1 HQ.out) with ⟨rfl, vy, vw, rfl, hN, hO, hD⟩ | ⟨rfl, hE'⟩
    case inr => exact ⟨rfl, hE'⟩
    obtain ⟨a1, a2, rfl⟩ := OwnM.form hO
    have H6 : Hid (Wn w b rb mb L vr 6 d n td tn vv ys vy w6 ∧ OwnM w6 (w.heap.size + 2) 132 3 (.slice a1 m a2) m W ∧ ∀ k, vy.ownBlock = some k → (Value.slice a1 m a2).ownBlock ≠ some k) := ⟨hN, hO, hD⟩
  rotate_left
  focus
    rw [if_neg (show ¬ ((7 : Int) = 6) by omega)] at hp
    have HQ : Hid ((if cv = 1000 then ((9 : Int), (0 : Int), (addR (addR (addR [] (kI d)) (kE d n)) (kI c)), 0, ([] : List Int)) else (0, (lookF L (kB c)).2, addR (addR (addR (addR [] (kI d)) (kE d n)) (kI c)) (kB c), 0, [])) = (r, v, ys, m, W)) := hp
    clear hp h3 h4 h5 h8 hkd hk3
    go_enter Tryz.func101, Tryz.ntmps101
    go_wp2_with fail
    refine (isDir_is L b rb mb [] vr d _ HK.out.1.1 HC.out.1 hn HC.out.2.1 (Nat.zero_le _)).mono ?_
    rintro e w1 ⟨rfl, v1, l1, k1⟩
    have H1 : Hid (Wn w b rb mb L vr 7 d n td tn vv (addR [] (kI d)) v1 w1) := HK.out.keeps l1 k1
    clear l1 k1 HK
    rw [HD.out]
    go_wp2_with fail
    refine (wrongIf_no 9 _).mono ?_
    rintro e w9 ⟨rfl, hw9⟩
    obtain rfl := hw9.symm
    obtain ⟨⟨o0, o1, o2, o3, o4, o5⟩, _⟩ := H1.out.2.1.1
    go_wp2_with fail
    refine (entryKey_is d n HC.out.2.1 HC.out.2.2.1 _).mono ?_
    rintro e w2 ⟨rfl, q2⟩
    have H2 : Hid (Wn w b rb mb L vr 7 d n td tn vv (addR [] (kI d)) v1 w2) := H1.out.later q2
    clear q2 H1 o0 o1 o2 o3 o4 o5
    go_wp2_with fail
    refine (look_is L b rb mb _ v1 (kE d n) _ H2.out.1.1 HC.out.1 hn (by have := HC.out.2; unfold kE; omega) (by omega)).mono ?_
    rintro e w3 ⟨rfl, v3, l3, k3⟩
    rw [HT.out]
    have H3 : Hid (Wn w b rb mb L vr 7 d n td tn vv (addR (addR [] (kI d)) (kE d n)) v3 (w3.alloc (sightO true tz))) := (H2.out.keeps l3 k3).alloc _
    have HS3 : Hid (Blk2 (w3.alloc (sightO true tz)) w3.heap.size (.bool true) (.int .i64 tz) ∧ Off (w3.alloc (sightO true tz)) b mb v3 w3.heap.size) := ⟨Blk2.new _ _ _ _, l3.off _⟩
    clear l3 k3 H2
    obtain ⟨⟨o0, o1, o2, o3, o4, o5⟩, _⟩ := H3.out.2.1.1
    have hob : w.heap.size < w3.heap.size := by have := H3.out.2.1.2.lt; simp at this; omega
    obtain ⟨⟨y0, y1⟩, _⟩ := HS3.out.1
    go_wp2_with fail
    refine (wrongIf_no 4 _).mono ?_
    rintro e w9 ⟨rfl, hw9⟩
    obtain rfl := hw9.symm
    go_wp2_with fail
    refine (lookChild_is L b rb mb _ v3 true tz _ H3.out.1.1 HC.out.1 hn HTZ.out (by omega) c cv HM.out.1 HM.out.2.1).mono ?_
    rintro e w4 ⟨rfl, v4, l4, k4⟩
    have HN : Hid (Wn w b rb mb L vr 7 d n td tn vv (addR (addR (addR [] (kI d)) (kE d n)) (kI c)) v4 (w4.alloc (chO c cv))) := (H3.out.keeps l4 k4).alloc _
    have HS4 : Hid (Blk2 (w4.alloc (chO c cv)) w4.heap.size (.int .i64 c) (.int .i64 cv)) := Blk2.new _ _ _ _
    clear l4 k4 H3 HS3 o0 o1 o2 o3 o4 o5 hob
    obtain ⟨⟨o0, o1, o2, o3, o4, o5⟩, _⟩ := HN.out.2.1.1
    obtain ⟨⟨z0, z1⟩, _⟩ := HS4.out
    have hob : w.heap.size < w4.heap.size := by have := HN.out.2.1.2.lt; simp at this; omega
    go_wp2_with fail
    refine (planRead_is L b rb mb _ v4 c cv _ HN.out.1.1 HC.out.1 hn HM.out.2.2.1 (by omega) r v ys m W HQ.out).mono ?_
    intro e w6 hE
    rcases HN.out.pass hE with ⟨rfl, vy, vw, rfl, hN, hO, hD⟩ | ⟨rfl, hE'⟩
    case inr => exact ⟨rfl, hE'⟩
    obtain ⟨a1, a2, rfl⟩ := OwnM.form hO
    have H6 : Hid (Wn w b rb mb L vr 7 d n td tn vv ys vy w6 ∧ OwnM w6 (w.heap.size + 2) 132 3 (.slice a1 m a2) m W ∧ ∀ k, vy.ownBlock = some k → (Value.slice a1 m a2).ownBlock ≠ some k) := ⟨hN, hO, hD⟩
  rotate_left
  all_goals
    clear hE hN hO hD
    go_wp2_with (refine wpList_storeP rfl _ _ rfl (w.heap.size + 1) _ _ _ _ _ rfl rfl H6.out.1.2.1.2 (by kernel_rfl) ?_)
    exact bodyPost_ret (v := .agg #[.int .i64 0, .int .i64 0, .int .i64 v, .slice none 0 0, .slice a1 m a2]) (results_pl Tryz.results101 _ _ _ _ _ _ _ _ rfl H6.out.1.2.1.2) rfl (H6.out.1.told hmb v _ m W _ H6.out.2.1 H6.out.2.2 _ rfl)
end Go.Proofs.YtnchaccgenfhoaaGreat

