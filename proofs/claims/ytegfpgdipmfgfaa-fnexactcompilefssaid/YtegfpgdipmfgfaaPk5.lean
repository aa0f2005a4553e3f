/-
  Own text, merged of FsW, FsX, FsG, FsB, FsY.
-/
import Derived.Test.YtegfpgdipmfgfaaPk4
namespace Go.Proofs.Ytegfpgdipmfgfaa
open Go.RowKit

theorem as_wrong (r : Int) (w : World) : (Instr.typeAssert (.iface 101 (.int .i64 r)) 20 101 true).run Try.prog w = .ok (.tuple #[.int .i64 r, .bool true]) w := by kernel_rfl
theorem as_nil (w : World) : (Instr.typeAssert .nilIface 20 101 true).run Try.prog w = .ok (.tuple #[.int .i64 0, .bool false]) w := by kernel_rfl
theorem PBk.blk {x : World} {b : Nat} (h : PBk x b) (a0 a1 a2 a3 a4 : Value) : BlkP (x.setRow b #[a0, a1, a2, a3, a4]) b a0 a1 a2 a3 a4 := by
  obtain ⟨old, hg, _⟩ := h
  have e : (x.setRow b #[a0, a1, a2, a3, a4]).heap[b]? = some (.cells #[a0, a1, a2, a3, a4] 32 (0, 0)) := by simp [World.setRow, Array.getElem?_modify, hg]
  refine ⟨⟨?_, ?_, ?_, ?_, ?_⟩, ?_, ?_, ?_, ?_, ?_⟩ <;> simp [World.cell?, World.frozen?, e]
set_option maxRecDepth 100000 in
set_option maxHeartbeats 2000000 in
theorem catch_panicking (pb lb b : Nat) (u0 u1 : Value) (ao : Option Addr) (nr cp : Nat) (r : Int) (older : List PanicEntry) (w : World) (hP : PBk w pb) (hL : w.cell? ⟨lb, 0, none⟩ = some (.pointer (some ⟨b, 0, none⟩))) (hB : Blk3 w b u0 u1 (.slice ao nr cp)) (hne : b ≠ pb) (hnl : lb ≠ pb) :
    CallsD Try.prog 75 #[.pointer (some ⟨pb, 0, none⟩), .pointer (some ⟨lb, 0, none⟩)] (.panicking ({ v := .iface 101 (.int .i64 r), recovered := false } :: older)) w fun e u' w' =>
      e = .returned (.tuple #[]) ∧ u' = .panicking ({ v := .iface 101 (.int .i64 r), recovered := true } :: older) ∧ w' = (w.setRow pb #[.int .i64 0, .int .i64 r, .int .i64 0, .slice none 0 0, .slice none 0 0]).setCell ⟨pb, 3, none⟩ (.slice ao nr cp) := by
  have ha := fun w => as_wrong r w
  refine callsD_of_wpS Try.func75 rfl fun c₀ cs hu => ?_
  apply wpS_seq
  apply wpS_seq
  apply wpS_region
  simp [wpOpsS, go_sem, recoverD, hu, Try.ntmps75, Exit.thenS, ha]
  simp only [Array.replicate_succ, Array.replicate_zero, List.push_toArray, List.append_toArray, List.nil_append, List.cons_append, List.setIfInBounds_toArray, List.set_cons_zero, List.set_cons_succ]
  have HP : Hid (PBk w pb) := hP
  obtain ⟨⟨b0, b1, b2⟩, _⟩ := hB
  refine wpS_of_wp ?_
  go_wp2_with (refine wpList_storeP rfl _ _ rfl pb _ _ _ _ _ rfl rfl HP.out (by kernel_rfl) ?_)
  dsimp only [Exit.thenS]
  have hc1 : (w.setRow pb #[.int .i64 0, .int .i64 r, .int .i64 0, .slice none 0 0, .slice none 0 0]).cell? ⟨lb, 0, none⟩ = some (.pointer (some ⟨b, 0, none⟩)) := (World.cell?_of_block (w := w) (a := ⟨lb, 0, none⟩) (heap_setRow w pb _ lb hnl)).trans hL
  have hc2 : (w.setRow pb #[.int .i64 0, .int .i64 r, .int .i64 0, .slice none 0 0, .slice none 0 0]).cell? ⟨b, 2, none⟩ = some (.slice ao nr cp) := (World.cell?_of_block (w := w) (a := ⟨b, 2, none⟩) (heap_setRow w pb _ b hne)).trans b2
  obtain ⟨⟨c0, c1, c2, c3, c4⟩, f0, f1, f2, f3, f4⟩ := hP.blk (.int .i64 0) (.int .i64 r) (.int .i64 0) (.slice none 0 0) (.slice none 0 0)
  generalize w.setRow pb #[.int .i64 0, .int .i64 r, .int .i64 0, .slice none 0 0, .slice none 0 0] = w1 at hc1 hc2 c0 c1 c2 c3 c4 f0 f1 f2 f3 f4 ⊢
  clear hL b0 b1 b2 HP hP
  refine wpS_of_wp ?_
  go_wp2
  exact ⟨rfl, _, rfl, .tuple #[], by simp [results, Try.results75], rfl, rfl, rfl⟩
set_option maxRecDepth 100000 in
set_option maxHeartbeats 2000000 in
theorem catch_idle (pb lb b : Nat) (u0 u1 p0 p1 p2 p3 p4 : Value) (ao : Option Addr) (nr cp : Nat) (w : World) (hP : BlkP w pb p0 p1 p2 p3 p4) (hL : w.cell? ⟨lb, 0, none⟩ = some (.pointer (some ⟨b, 0, none⟩))) (hB : Blk3 w b u0 u1 (.slice ao nr cp)) :
    CallsD Try.prog 75 #[.pointer (some ⟨pb, 0, none⟩), .pointer (some ⟨lb, 0, none⟩)] .returning w fun e u' w' =>
      e = .returned (.tuple #[]) ∧ u' = .returning ∧ w' = w.setCell ⟨pb, 3, none⟩ (.slice ao nr cp) := by
  have ha := fun w => as_nil w
  obtain ⟨⟨b0, b1, b2⟩, _⟩ := hB
  obtain ⟨⟨c0, c1, c2, c3, c4⟩, f0, f1, f2, f3, f4⟩ := hP
  refine callsD_of_wpS Try.func75 rfl fun c₀ cs hu => ?_
  apply wpS_seq
  apply wpS_seq
  apply wpS_region
  simp [wpOpsS, go_sem, recoverD, hu, Try.ntmps75, Exit.thenS, ha]
  simp only [Array.replicate_succ, Array.replicate_zero, List.push_toArray, List.append_toArray, List.nil_append, List.cons_append, List.setIfInBounds_toArray, List.set_cons_zero, List.set_cons_succ]
  refine wpS_of_wp ?_
  go_wp2
  dsimp only [Exit.thenS]
  refine wpS_of_wp ?_
  go_wp2
  refine ⟨rfl, .returning, ?_, .tuple #[], by simp [results, Try.results75], rfl, rfl, rfl⟩
  cases c₀
  simp_all
/-- What plan tells. -/
def ToldP (w : World) (b mb : Nat) (vr : Value) (r v : Int) (ys : List Int) (m : Nat) (W : List Int) (e : Ending) (w' : World) : Prop :=
  ∃ vy vw, e = .returned (.agg #[.int .i64 0, .int .i64 r, .int .i64 v, vy, vw]) ∧ (Ints w' (b + 1) vy ys ∧ OwnM w' w.heap.size 39 3 vw m W ∧ ∀ k, vy.ownBlock = some k → vw.ownBlock ≠ some k) ∧ Keeps w w' b mb vr vy
abbrev ptrO (b : Nat) : Obj := .cells #[.pointer (some ⟨b, 0, none⟩)] 67
theorem pl_results {fn : Func} {p : Tmp} (h : fn.results = #[.cell p 32]) (tmps : Array Value) (w : World) (g : Nat) (a0 a1 a2 a3 a4 : Value) (hp : tmps.getD p undef = .pointer (some ⟨g, 0, none⟩)) (hP : BlkP w g a0 a1 a2 a3 a4) : (results fn tmps).run Try.prog w = .ok (.agg #[a0, a1, a2, a3, a4]) w := by
  have hp' : tmps[p]?.getD undef = .pointer (some ⟨g, 0, none⟩) := by simpa using hp
  exact results_plan h hp' hP
theorem told_end {w X : World} {b rb mb : Nat} {L : Prs} {ys W : List Int} {vy vw : Value} {m : Nat} {cs : Array Value} (hl : Looks X b rb mb L ys vy) (ho : Off X b mb vy (w.heap.size + 2)) (hw : OwnM X (w.heap.size + 3) 39 3 vw m W) (hd : ∀ k, vy.ownBlock = some k → vw.ownBlock ≠ some k) (_ : b < w.heap.size) :
    Ints ((X.setRow (w.heap.size + 2) cs).setCell ⟨w.heap.size + 2, 3, none⟩ vy) (b + 1) vy ys ∧ OwnM ((X.setRow (w.heap.size + 2) cs).setCell ⟨w.heap.size + 2, 3, none⟩ vy) w.heap.size 39 3 vw m W ∧ ∀ k, vy.ownBlock = some k → vw.ownBlock ≠ some k := by
  have kp : ∀ k, k ≠ w.heap.size + 2 → ((X.setRow (w.heap.size + 2) cs).setCell ⟨w.heap.size + 2, 3, none⟩ vy).heap[k]? = X.heap[k]? := fun k hk => (Below.heap_setCell _ ⟨w.heap.size + 2, 3, none⟩ _ k hk).trans (heap_setRow _ _ _ _ hk)
  have hi : OwnM X (b + 1) 2 1 vy ys.length ys := hl.2.2.2.1
  exact ⟨OwnM.keptB hi (fun k hk => kp k (fun e => ho.2.2.2 (by rw [← e]; exact hk))), OwnM.monoP (OwnM.kept hw fun g hg _ => kp g (by omega)) (by omega), hd⟩
set_option maxRecDepth 100000 in
set_option maxHeartbeats 4000000 in
theorem plan_is (L : Prs) (b rb mb : Nat) (vr : Value) (kd d n td tn vv : Int) (w : World) (h : Looks w b rb mb L [] vr) (hrs : Rises L) (hn : L.length ≤ 1000) (hfit : ∀ k, 0 ≤ (lookF L k).2 ∧ (lookF L k).2 ≤ 9999) (hkd : 1 ≤ kd ∧ kd ≤ 8) (hd : 0 ≤ d ∧ d ≤ 9) (hnm : 0 ≤ n ∧ n ≤ 5) (htd : 0 ≤ td ∧ td ≤ 9) (htn : 0 ≤ tn ∧ tn ≤ 5) (r v : Int) (ys : List Int) (m : Nat) (W : List Int) (hp : replyP L kd d n td tn vv = (r, v, ys, m, W)) :
    Calls Try.prog 39 #[.pointer (some ⟨b, 0, none⟩), .agg #[.int .i64 kd, .int .i64 d, .int .i64 n, .int .i64 td, .int .i64 tn, .int .i64 vv]] w (ToldP w b mb vr r v ys m W) := by
  have hmb : mb < w.heap.size := h.2.2.1.lt
  have hbw : b < w.heap.size := h.1.lt
  have hL3 : Looks (((w.alloc (ptrO b)).alloc (opO kd d n td tn vv)).alloc zeroPl) b rb mb L [] vr := ((h.alloc _).alloc _).alloc _
  have HC : Hid (Calls Try.prog 76 #[.pointer (some ⟨b, 0, none⟩), .agg #[.int .i64 kd, .int .i64 d, .int .i64 n, .int .i64 td, .int .i64 tn, .int .i64 vv]] (((w.alloc (ptrO b)).alloc (opO kd d n td tn vv)).alloc zeroPl) (PlanEnd (((w.alloc (ptrO b)).alloc (opO kd d n td tn vv)).alloc zeroPl) b rb mb L vr r v ys m W)) := compile_is L b rb mb vr kd d n td tn vv _ hL3 hrs hn hfit hkd hd hnm htd htn r v ys m W hp
  have HO : Hid ((Off (((w.alloc (ptrO b)).alloc (opO kd d n td tn vv)).alloc zeroPl) b mb vr w.heap.size ∧ Off (((w.alloc (ptrO b)).alloc (opO kd d n td tn vv)).alloc zeroPl) b mb vr (w.heap.size + 2)) ∧ Keeps w (((w.alloc (ptrO b)).alloc (opO kd d n td tn vv)).alloc zeroPl) b mb vr vr) := ⟨⟨h.off2 (Nat.le_refl _) (by simp; omega), h.off2 (by omega) (by simp)⟩, Keeps.below _ _ _ (below3 _ _ _ _)⟩
  have HP : Hid (PBk (((w.alloc (ptrO b)).alloc (opO kd d n td tn vv)).alloc zeroPl) (w.heap.size + 2) ∧ (((w.alloc (ptrO b)).alloc (opO kd d n td tn vv)).alloc zeroPl).cell? ⟨w.heap.size, 0, none⟩ = some (.pointer (some ⟨b, 0, none⟩))) := by
    refine ⟨?_, ?_⟩
    · have q := PBk.new ((w.alloc (ptrO b)).alloc (opO kd d n td tn vv)) (.int .i64 0) (.int .i64 0) (.int .i64 0) (.slice none 0 0) (.slice none 0 0)
      rwa [World.size_alloc, World.size_alloc] at q
    · exact (World.cell?_of_block (w := w.alloc (ptrO b)) (a := ⟨w.heap.size, 0, none⟩) (((below_alloc _ _).alloc (by simp) _).block w.heap.size (by simp))).trans (World.cell?_alloc_mark w _ _ _ 0)
  have hmf : ∀ (fn : Fn) (first cap : Array Value) (w : World), (Instr.makeFunc fn first cap).run Try.prog w = .ok (.func fn first cap) w := fun _ _ _ _ => rfl
  clear h hrs hfit hkd hd hnm htd htn hp hL3
  go_enter_defers Try.func39, Try.ntmps39
  go_wp2_with fail
  refine HC.out.mono ?_
  rintro e X ⟨vy, ⟨hl, hk⟩, ⟨rfl, vw, rfl, ho, hd⟩ | ⟨hr, rfl, rfl, rfl, rfl⟩⟩
  · obtain ⟨a1, a2, rfl⟩ := hl.2.2.2.1.form
    obtain ⟨a3, a4, rfl⟩ := OwnM.form ho
    have HX : Hid ((Looks X b rb mb L ys (.slice a1 ys.length a2) ∧ Keeps w X b mb vr (.slice a1 ys.length a2)) ∧ (PBk X (w.heap.size + 2) ∧ X.cell? ⟨w.heap.size, 0, none⟩ = some (.pointer (some ⟨b, 0, none⟩)) ∧ Off X b mb (.slice a1 ys.length a2) (w.heap.size + 2)) ∧ OwnM X (w.heap.size + 3) 39 3 (.slice a3 m a4) m W ∧ ∀ k, (Value.slice a1 ys.length a2).ownBlock = some k → (Value.slice a3 m a4).ownBlock ≠ some k) :=
      ⟨⟨hl, HO.out.2.trans hk⟩, ⟨HP.out.1.kept (hk.off HO.out.1.2).2, (World.cell?_of_block (a := ⟨w.heap.size, 0, none⟩) (hk.off HO.out.1.1).2).trans HP.out.2, (hk.off HO.out.1.2).1⟩, OwnM.monoP ho (by simp), hd⟩
    clear hl hk ho hd HC HO HP
    go_wp2_with (refine wpList_storeP rfl _ _ rfl (w.heap.size + 2) _ _ _ _ _ rfl rfl HX.out.2.1.1 (by kernel_rfl) ?_)
    have hbk := HX.out.2.1.1.blk (.int .i64 0) (.int .i64 0) (.int .i64 v) (.slice none 0 0) (.slice a3 m a4)
    refine leaves_cons (f := 75) (args := #[.pointer (some ⟨w.heap.size + 2, 0, none⟩), .pointer (some ⟨w.heap.size, 0, none⟩)]) (by simp) (by simp [go_sem]) ?_
    refine (catch_idle (w.heap.size + 2) w.heap.size b _ _ _ _ _ _ _ a1 ys.length a2 _ hbk ((World.cell?_of_block (w := X) (a := ⟨w.heap.size, 0, none⟩) (heap_setRow X _ _ _ (by first | omega | (simp; done) | (simp; omega)))).trans HX.out.2.1.2.1) (HX.out.1.1.1.kept (heap_setRow X _ _ _ (by omega)))).mono ?_
    rintro e u' w'' ⟨rfl, rfl, rfl⟩
    exact ⟨_, pl_results Try.results39 _ _ (w.heap.size + 2) _ _ _ _ _ rfl (hbk.set3 _), _, _, rfl, told_end HX.out.1.1 HX.out.2.1.2.2 HX.out.2.2.1 HX.out.2.2.2 (by omega), ((HX.out.1.2.offs (by rw [size_setRow]) (fun k hk => heap_setRow _ _ _ _ hk) ⟨rfl, rfl, rfl⟩ (by omega)).offs (by simp) (fun k hk => Below.heap_setCell _ ⟨w.heap.size + 2, 3, none⟩ _ k hk) ⟨rfl, rfl, rfl⟩ (by first | omega | (simp; done) | (simp; omega)))⟩
  · obtain ⟨a1, a2, rfl⟩ := hl.2.2.2.1.form
    have HX : Hid ((Looks X b rb mb L ys (.slice a1 ys.length a2) ∧ Keeps w X b mb vr (.slice a1 ys.length a2)) ∧ (PBk X (w.heap.size + 2) ∧ X.cell? ⟨w.heap.size, 0, none⟩ = some (.pointer (some ⟨b, 0, none⟩)) ∧ Off X b mb (.slice a1 ys.length a2) (w.heap.size + 2))) :=
      ⟨⟨hl, HO.out.2.trans hk⟩, ⟨HP.out.1.kept (hk.off HO.out.1.2).2, (World.cell?_of_block (a := ⟨w.heap.size, 0, none⟩) (hk.off HO.out.1.1).2).trans HP.out.2, (hk.off HO.out.1.2).1⟩⟩
    clear hl hk HC HO HP
    have hbk := HX.out.2.1.blk (.int .i64 0) (.int .i64 r) (.int .i64 0) (.slice none 0 0) (.slice none 0 0)
    refine leaves_cons (f := 75) (args := #[.pointer (some ⟨w.heap.size + 2, 0, none⟩), .pointer (some ⟨w.heap.size, 0, none⟩)]) (by simp) (by simp [go_sem]) ?_
    refine (catch_panicking (w.heap.size + 2) w.heap.size b _ _ a1 ys.length a2 r [] _ HX.out.2.1 HX.out.2.2.1 HX.out.1.1.1 (by omega) (by omega)).mono ?_
    rintro e u' w'' ⟨rfl, rfl, rfl⟩
    exact ⟨_, pl_results Try.results39 _ _ (w.heap.size + 2) _ _ _ _ _ rfl (hbk.set3 _), _, _, rfl, told_end HX.out.1.1 HX.out.2.2.2 (OwnM.nil _ _ _ _) (fun k _ e => by cases e) (by omega), ((HX.out.1.2.offs (by rw [size_setRow]) (fun k hk => heap_setRow _ _ _ _ hk) ⟨rfl, rfl, rfl⟩ (by omega)).offs (by simp) (fun k hk => Below.heap_setCell _ ⟨w.heap.size + 2, 3, none⟩ _ k hk) ⟨rfl, rfl, rfl⟩ (by first | omega | (simp; done) | (simp; omega)))⟩
end Go.Proofs.Ytegfpgdipmfgfaa

namespace Go.Proofs.Ytegfpgdipmfgfaa
open Go.RowKit

/-- The box of the operation and that of the plan. -/
def Bxo (w : World) (kd d nm td tn vv : Int) (X : World) : Prop := opB X w.heap.size kd d nm td tn vv ∧ PBk X (w.heap.size + 1)
theorem Bxo.later {w X X' : World} {kd d nm td tn vv : Int} (h : Bxo w kd d nm td tn vv X) (hb : Below X.heap.size X X') : Bxo w kd d nm td tn vv X' := ⟨h.1.later hb, h.2.later hb⟩
theorem Bxo.drew {w X : World} {kd d nm td tn vv : Int} (h : Bxo w kd d nm td tn vv X) : Bxo w kd d nm td tn vv X.drew := h.later ⟨rfl, rfl, rfl, Nat.le_refl _, fun _ _ => rfl⟩
theorem Bxo.new (w : World) (kd d nm td tn vv : Int) : Bxo w kd d nm td tn vv ((w.alloc (opO kd d nm td tn vv)).alloc zeroPl) := by
  refine ⟨(Blk6.new w _ _ _ _ _ _ _).alloc _, ?_⟩
  have q := PBk.new (w.alloc (opO kd d nm td tn vv)) (.int .i64 0) (.int .i64 0) (.int .i64 0) (.slice none 0 0) (.slice none 0 0)
  rwa [World.size_alloc] at q
theorem Bxo.rowed {w X : World} {kd d nm td tn vv : Int} (h : Bxo w kd d nm td tn vv X) (cs : Array Value) (hcs : cs.size = 5) : Bxo w kd d nm td tn vv (X.setRow (w.heap.size + 1) cs) := by
  refine ⟨h.1.kept (heap_setRow _ _ _ _ (by omega)), ?_⟩
  obtain ⟨old, hg, _⟩ := h.2
  exact ⟨cs, by simp [World.setRow, Array.getElem?_modify, hg], hcs⟩
theorem plan_kept {X : World} {B g : Nat} {xs W : List Int} {m : Nat} {vr vw : Value} {cs : Array Value} (h : PlanAt X B xs m W vr vw) (h1 : ∀ k, vr.ownBlock = some k → k ≠ g) (h2 : ∀ k, vw.ownBlock = some k → k ≠ g) : PlanAt (X.setRow g cs) B xs m W vr vw := by
  have hi : OwnM X B 2 1 vr xs.length xs := h.1
  exact ⟨OwnM.keptB hi (fun k hk => heap_setRow _ _ _ _ (h1 k hk)), OwnM.keptB h.2.1 (fun k hk => heap_setRow _ _ _ _ (h2 k hk)), h.2.2⟩
set_option maxRecDepth 100000 in
set_option maxHeartbeats 4000000 in
theorem specCompile_is (y : Value) (B n : Nat) (F : Nat → Int) (kd d nm td tn vv c : Int) (p : PR) (w : World) (h : Row w B 2 n F y) (hn : n ≤ 1048576) (ha : CompAns n F kd d nm td tn vv c p) :
    Calls Try.prog 12 #[y, .agg #[.int .i64 kd, .int .i64 d, .int .i64 nm, .int .i64 td, .int .i64 tn, .int .i64 vv]] w (ResPlan w c p.1 p.2.1 p.2.2.1 p.2.2.2.1 p.2.2.2.2) := by
  have H : Hid (Row w B 2 n F y) := h
  clear h
  rcases ha with ⟨h1, rfl, rfl⟩ | ⟨h1, h2, rfl, rfl⟩ | ⟨h1, h2, rfl, rfl⟩
  · obtain ⟨f, hf⟩ : ∃ f, pairsF F n 0 = f := ⟨_, rfl⟩
    have HF : Hid (pairsF F n 0 = f ∧ True) := ⟨hf, trivial⟩
    have dd : (f != 0) = true := bne_iff_ne.2 (by rw [← hf]; exact h1)
    rw [hf]
    clear h1 hf
    go_enter Try.func12, Try.ntmps12
    go_wp2_with fail
    refine (specPairs_any _ B n F _ ((H.out.alloc _).alloc _) hn).mono ?_
    rintro e w1 ⟨rfl, q1⟩
    rw [HF.out.1]
    have H1 : Hid (Bxo w kd d nm td tn vv w1 ∧ Below w.heap.size w w1) := ⟨(Bxo.new w kd d nm td tn vv).later q1, ((below_alloc _ _).alloc (by simp) _).trans (q1.mono (by simp; omega))⟩
    clear q1
    go_wp2_with (refine wpList_storeP rfl _ _ rfl (w.heap.size + 1) _ _ _ _ _ rfl rfl H1.out.1.2 (by kernel_rfl) ?_)
    exact bodyPost_ret (v := .agg #[.int .i64 f, .int .i64 0, .int .i64 0, .slice none 0 0, .slice none 0 0]) (results_pl Try.results12 _ _ _ _ _ _ _ _ rfl H1.out.1.2) rfl ⟨_, _, rfl, ⟨Ints.nil _ _, OwnM.nil _ _ _ _, fun k hk => by cases hk⟩, below_row H1.out.2 (by omega) _⟩
  · obtain ⟨f, hf⟩ : ∃ f, opF kd d nm td tn vv = f := ⟨_, rfl⟩
    have HF : Hid (pairsF F n 0 = 0 ∧ opF kd d nm td tn vv = f) := ⟨h1, hf⟩
    have dd : (f != 0) = true := bne_iff_ne.2 (by rw [← hf]; exact h2)
    rw [hf]
    clear h1 h2 hf
    go_enter Try.func12, Try.ntmps12
    go_wp2_with fail
    refine (specPairs_any _ B n F _ ((H.out.alloc _).alloc _) hn).mono ?_
    rintro e w1 ⟨rfl, q1⟩
    rw [HF.out.1]
    have H1 : Hid (Bxo w kd d nm td tn vv w1 ∧ Below w.heap.size w w1) := ⟨(Bxo.new w kd d nm td tn vv).later q1, ((below_alloc _ _).alloc (by simp) _).trans (q1.mono (by simp; omega))⟩
    clear q1
    obtain ⟨⟨o0, o1, o2, o3, o4, o5⟩, _⟩ := H1.out.1.1
    go_wp2_with fail
    refine (specFsOp_any kd d nm td tn vv _).mono ?_
    rintro e w2 ⟨rfl, q2⟩
    have H1' : Hid (Bxo w kd d nm td tn vv w2 ∧ Below w.heap.size w w2) := ⟨H1.out.1.later q2, H1.out.2.trans (q2.mono H1.out.2.size)⟩
    clear q2 H1 o0 o1 o2 o3 o4 o5
    have H1 := H1'
    clear H1'
    rw [HF.out.2]
    go_wp2_with (refine wpList_storeP rfl _ _ rfl (w.heap.size + 1) _ _ _ _ _ rfl rfl H1.out.1.2 (by kernel_rfl) ?_)
    exact bodyPost_ret (v := .agg #[.int .i64 f, .int .i64 0, .int .i64 0, .slice none 0 0, .slice none 0 0]) (results_pl Try.results12 _ _ _ _ _ _ _ _ rfl H1.out.1.2) rfl ⟨_, _, rfl, ⟨Ints.nil _ _, OwnM.nil _ _ _ _, fun k hk => by cases hk⟩, below_row H1.out.2 (by omega) _⟩
  · obtain ⟨q, hq⟩ : ∃ q, replyP (listOf F n) kd d nm td tn vv = q := ⟨_, rfl⟩
    obtain ⟨r, v, ys, m, W⟩ := q
    rw [hq]
    have HF : Hid (pairsF F n 0 = 0 ∧ opF kd d nm td tn vv = 0 ∧ replyP (listOf F n) kd d nm td tn vv = (r, v, ys, m, W)) := ⟨h1, h2, hq⟩
    have HOB : Hid _ := op_bounds h2
    clear h1 h2 hq
    go_enter Try.func12, Try.ntmps12
    go_wp2_with fail
    refine (specPairs_any _ B n F _ ((H.out.alloc _).alloc _) hn).mono ?_
    rintro e w1 ⟨rfl, q1⟩
    rw [HF.out.1]
    have H1 : Hid (Bxo w kd d nm td tn vv w1 ∧ Below w.heap.size w w1) := ⟨(Bxo.new w kd d nm td tn vv).later q1, ((below_alloc _ _).alloc (by simp) _).trans (q1.mono (by simp; omega))⟩
    clear q1
    obtain ⟨⟨o0, o1, o2, o3, o4, o5⟩, _⟩ := H1.out.1.1
    go_wp2_with fail
    refine (specFsOp_any kd d nm td tn vv _).mono ?_
    rintro e w2 ⟨rfl, q2⟩
    have H1' : Hid (Bxo w kd d nm td tn vv w2 ∧ Below w.heap.size w w2) := ⟨H1.out.1.later q2, H1.out.2.trans (q2.mono H1.out.2.size)⟩
    clear q2 H1 o0 o1 o2 o3 o4 o5
    have H1 := H1'
    clear H1'
    rw [HF.out.2.1]
    go_wp2_with fail
    refine (l13Compile_is (listOf F n) y w.heap.size kd d nm td tn vv _ ⟨⟨(row_list (H.out.later H1.out.2)).mono (Nat.zero_le _), by rw [listOf_length]; have := (pairs_rise HF.out.1).2; omega⟩, H1.out.1.1, look_fits HF.out.1, HOB.out.2.1, HOB.out.2.2.1, HOB.out.2.2.2.1, HOB.out.2.2.2.2⟩ HOB.out.1 r v ys m W HF.out.2.2).mono ?_
    rintro e w3 ⟨vr, vw, rfl, hA, q3⟩
    obtain ⟨⟨a1, a2, rfl⟩, ⟨a3, a4, rfl⟩⟩ := PlanAt.form hA
    have H3 : Hid (PBk w3 (w.heap.size + 1) ∧ PlanAt w3 w2.heap.size ys m W (.slice a1 ys.length a2) (.slice a3 m a4) ∧ Below w.heap.size w w3 ∧ w.heap.size + 1 < w2.heap.size) := ⟨H1.out.1.2.later q3, hA, H1.out.2.trans (q3.mono H1.out.2.size), H1.out.1.2.lt⟩
    clear hA q3 H1
    go_wp2_with (refine wpList_storeP rfl _ _ rfl (w.heap.size + 1) _ _ _ _ _ rfl rfl H3.out.1 (by kernel_rfl) ?_)
    exact bodyPost_ret (v := .agg #[.int .i64 0, .int .i64 r, .int .i64 v, .slice a1 ys.length a2, .slice a3 m a4]) (results_pl Try.results12 _ _ _ _ _ _ _ _ rfl H3.out.1) rfl ⟨_, _, rfl, PlanAt.up (plan_kept H3.out.2.1 (fun k hk => by have := (H3.out.2.1.1.lt k hk).1; have := H3.out.2.2.2; omega) (fun k hk => by have := (OwnM.block H3.out.2.1.2.1 k hk).1; have := H3.out.2.2.2; omega)) (by have := H3.out.2.2.2; omega), below_row H3.out.2.2.1 (by omega) _⟩
set_option maxRecDepth 100000 in
set_option maxHeartbeats 4000000 in
theorem implCompile_is (y : Value) (B n : Nat) (F : Nat → Int) (kd d nm td tn vv c : Int) (p : PR) (w : World) (h : Row w B 2 n F y) (hn : n ≤ 1048576) (ha : CompAns n F kd d nm td tn vv c p) :
    Calls Try.prog 11 #[y, .agg #[.int .i64 kd, .int .i64 d, .int .i64 nm, .int .i64 td, .int .i64 tn, .int .i64 vv]] w (ResPlan w c p.1 p.2.1 p.2.2.1 p.2.2.2.1 p.2.2.2.2) := by
  have H : Hid (Row w B 2 n F y) := h
  clear h
  rcases ha with ⟨h1, rfl, rfl⟩ | ⟨h1, h2, rfl, rfl⟩ | ⟨h1, h2, rfl, rfl⟩
  · obtain ⟨f, hf⟩ : ∃ f, pairsF F n 0 = f := ⟨_, rfl⟩
    have HF : Hid (pairsF F n 0 = f ∧ True) := ⟨hf, trivial⟩
    have dd : (f != 0) = true := bne_iff_ne.2 (by rw [← hf]; exact h1)
    rw [hf]
    clear h1 hf
    go_enter Try.func11, Try.ntmps11
    go_wp2_with fail
    refine (implPairs_any _ B n F _ ((H.out.alloc _).alloc _) hn).mono ?_
    rintro e w1 ⟨rfl, q1⟩
    rw [HF.out.1]
    have H1 : Hid (Bxo w kd d nm td tn vv w1 ∧ Below w.heap.size w w1) := ⟨(Bxo.new w kd d nm td tn vv).later q1, ((below_alloc _ _).alloc (by simp) _).trans (q1.mono (by simp; omega))⟩
    clear q1
    go_wp2_with (refine wpList_storeP rfl _ _ rfl (w.heap.size + 1) _ _ _ _ _ rfl rfl H1.out.1.2 (by kernel_rfl) ?_)
    exact bodyPost_ret (v := .agg #[.int .i64 f, .int .i64 0, .int .i64 0, .slice none 0 0, .slice none 0 0]) (results_pl Try.results11 _ _ _ _ _ _ _ _ rfl H1.out.1.2) rfl ⟨_, _, rfl, ⟨Ints.nil _ _, OwnM.nil _ _ _ _, fun k hk => by cases hk⟩, below_row H1.out.2 (by omega) _⟩
  · obtain ⟨f, hf⟩ : ∃ f, opF kd d nm td tn vv = f := ⟨_, rfl⟩
    have HF : Hid (pairsF F n 0 = 0 ∧ opF kd d nm td tn vv = f) := ⟨h1, hf⟩
    have dd : (f != 0) = true := bne_iff_ne.2 (by rw [← hf]; exact h2)
    rw [hf]
    clear h1 h2 hf
    go_enter Try.func11, Try.ntmps11
    go_wp2_with fail
    refine (implPairs_any _ B n F _ ((H.out.alloc _).alloc _) hn).mono ?_
    rintro e w1 ⟨rfl, q1⟩
    rw [HF.out.1]
    have H1 : Hid (Bxo w kd d nm td tn vv w1 ∧ Below w.heap.size w w1) := ⟨(Bxo.new w kd d nm td tn vv).later q1, ((below_alloc _ _).alloc (by simp) _).trans (q1.mono (by simp; omega))⟩
    clear q1
    obtain ⟨⟨o0, o1, o2, o3, o4, o5⟩, _⟩ := H1.out.1.1
    go_wp2_with fail
    refine (implFsOp_any kd d nm td tn vv _).mono ?_
    rintro e w2 ⟨rfl, q2⟩
    have H1' : Hid (Bxo w kd d nm td tn vv w2 ∧ Below w.heap.size w w2) := ⟨H1.out.1.later q2, H1.out.2.trans (q2.mono H1.out.2.size)⟩
    clear q2 H1 o0 o1 o2 o3 o4 o5
    have H1 := H1'
    clear H1'
    rw [HF.out.2]
    go_wp2_with (refine wpList_storeP rfl _ _ rfl (w.heap.size + 1) _ _ _ _ _ rfl rfl H1.out.1.2 (by kernel_rfl) ?_)
    exact bodyPost_ret (v := .agg #[.int .i64 f, .int .i64 0, .int .i64 0, .slice none 0 0, .slice none 0 0]) (results_pl Try.results11 _ _ _ _ _ _ _ _ rfl H1.out.1.2) rfl ⟨_, _, rfl, ⟨Ints.nil _ _, OwnM.nil _ _ _ _, fun k hk => by cases hk⟩, below_row H1.out.2 (by omega) _⟩
  · obtain ⟨q, hq⟩ : ∃ q, replyP (listOf F n) kd d nm td tn vv = q := ⟨_, rfl⟩
    obtain ⟨r, v, ys, m, W⟩ := q
    rw [hq]
    have HF : Hid (pairsF F n 0 = 0 ∧ opF kd d nm td tn vv = 0 ∧ replyP (listOf F n) kd d nm td tn vv = (r, v, ys, m, W)) := ⟨h1, h2, hq⟩
    have HOB : Hid _ := op_bounds h2
    clear h1 h2 hq
    go_enter Try.func11, Try.ntmps11
    go_wp2_with fail
    refine (implPairs_any _ B n F _ ((H.out.alloc _).alloc _) hn).mono ?_
    rintro e w1 ⟨rfl, q1⟩
    rw [HF.out.1]
    have H1 : Hid (Bxo w kd d nm td tn vv w1 ∧ Below w.heap.size w w1) := ⟨(Bxo.new w kd d nm td tn vv).later q1, ((below_alloc _ _).alloc (by simp) _).trans (q1.mono (by simp; omega))⟩
    clear q1
    obtain ⟨⟨o0, o1, o2, o3, o4, o5⟩, _⟩ := H1.out.1.1
    go_wp2_with fail
    refine (implFsOp_any kd d nm td tn vv _).mono ?_
    rintro e w2 ⟨rfl, q2⟩
    have H1' : Hid (Bxo w kd d nm td tn vv w2 ∧ Below w.heap.size w w2) := ⟨H1.out.1.later q2, H1.out.2.trans (q2.mono H1.out.2.size)⟩
    clear q2 H1 o0 o1 o2 o3 o4 o5
    have H1 := H1'
    clear H1'
    rw [HF.out.2.1]
    go_upto_region 7 with fail
    refine wp_region_held_drew (S := Bxo w kd d nm td tn vv) (by kernel_rfl) H1.out.1.drew (fun hS => ?_)
    have HB2 : Hid (Below w.heap.size w w2.drew) := H1.out.2.drew
    clear H1
    generalize w2.drew = w2 at HB2 hS ⊢
    refine tkH 0 ?_ hS (fun wx hx => ?_) ?_; rotate_left
    · obtain ⟨⟨⟨hx0, hx1, hx2, hx3, hx4, hx5⟩, _⟩, _⟩ := hx; go_simp; try with_reducible rfl
    refine tkH 2 ?_ hS (fun wx hx => ?_) ?_; rotate_left
    · obtain ⟨⟨⟨hx0, hx1, hx2, hx3, hx4, hx5⟩, _⟩, _⟩ := hx; go_simp; try with_reducible rfl
    refine rdH 1 (fun K hK => ?_)
    go_simp
    go_wp2_with fail
    refine (lookAt_is (listOf F n) y B _ (row_list (H.out.later HB2.out)) (pairs_rise HF.out.1).1 (by rw [listOf_length]; have := (pairs_rise HF.out.1).2; omega)).mono ?_
    rintro e w3 ⟨b, rb, mb, rfl, l3, hrb, q3⟩
    have hS3 := hS.later q3
    have H3 : Hid (Looks w3 b rb mb (listOf F n) [] (.slice none 0 0) ∧ w2.heap.size ≤ rb ∧ Below w.heap.size w w3 ∧ w.heap.size + 1 < w2.heap.size) := ⟨l3, hrb, HB2.out.trans (q3.mono HB2.out.size), hS.2.lt⟩
    clear l3 hrb q3 HB2 hS
    go_wp2_with fail
    refine hK.out _ _ hS3 (fun hS => ?_)
    clear hK K
    clear hS3
    refine rdH 3 (fun K hK => ?_)
    go_simp
    go_wp2_with fail
    refine (plan_is (listOf F n) b rb mb _ kd d nm td tn vv _ H3.out.1 (pairs_rise HF.out.1).1 (by rw [listOf_length]; have := (pairs_rise HF.out.1).2; omega) (look_fits HF.out.1) HOB.out.1 HOB.out.2.1 HOB.out.2.2.1 HOB.out.2.2.2.1 HOB.out.2.2.2.2 r v ys m W HF.out.2.2).mono ?_
    rintro e w4 ⟨vy, vw, rfl, hA, k4⟩
    have hord := H3.out.1.2.2.2.2
    have hof : ∀ k, k < w2.heap.size → Off w3 b mb (.slice none 0 0) k := fun k hk => ⟨by have := H3.out.1.1.lt; have := H3.out.2.1; omega, by have := H3.out.2.1; omega, by have := H3.out.2.1; omega, fun e => by cases e⟩
    have hS4 : Bxo w kd d nm td tn vv w4 := ⟨hS.1.kept (k4.off (hof _ (by have := H3.out.2.2.2; omega))).2, hS.2.kept (k4.off (hof _ (by have := H3.out.2.2.2; omega))).2⟩
    have hB4 : Below w.heap.size w w4 := H3.out.2.2.1.trans (k4.toBelow H3.out.2.2.1.size (by have := H3.out.2.1; have := H3.out.2.2.2; omega) (by have := H3.out.2.1; have := H3.out.2.2.2; omega) (fun k hk => by cases hk))
    have hP4 : PlanAt w4 (w.heap.size + 2) ys m W vy vw := ⟨hA.1.mono (by have := H3.out.2.1; have := H3.out.2.2.2; omega), OwnM.monoP hA.2.1 (by have := H3.out.2.1; have := H3.out.2.2.2; have := H3.out.1.1.lt; omega), hA.2.2⟩
    obtain ⟨⟨a1, a2, rfl⟩, ⟨a3, a4, rfl⟩⟩ := hP4.form
    have H4 : Hid (Below w.heap.size w w4 ∧ PlanAt w4 (w.heap.size + 2) ys m W (.slice a1 ys.length a2) (.slice a3 m a4)) := ⟨hB4, hP4⟩
    clear hA k4 hord hof hB4 hP4 hS H3
    go_wp2_with fail
    refine hK.out _ _ hS4 (fun hS => ?_)
    clear hK K
    clear hS4
    refine rdH 4 (fun K hK => ?_)
    refine step_storeP rfl _ _ rfl (w.heap.size + 1) _ _ _ _ _ rfl rfl hS.2 (by kernel_rfl) ?_
    have HS5 : Hid (PBk w4 (w.heap.size + 1)) := hS.2
    have hS5 := hS.rowed #[.int .i64 0, .int .i64 r, .int .i64 v, .slice a1 ys.length a2, .slice a3 m a4] rfl
    clear hS
    refine hK.out _ _ hS5 (fun hS => ?_)
    clear hK K
    clear hS5
    refine wpAnyH_done (by kernel_rfl) ?_ _
    go_simp
    go_wp2
    exact bodyPost_ret (v := .agg #[.int .i64 0, .int .i64 r, .int .i64 v, .slice a1 ys.length a2, .slice a3 m a4]) (results_pl Try.results11 _ _ _ _ _ _ _ _ rfl HS5.out) rfl ⟨_, _, rfl, PlanAt.up (plan_kept H4.out.2 (fun k hk => by have := (H4.out.2.1.lt k hk).1; omega) (fun k hk => by have := (OwnM.block H4.out.2.2.1 k hk).1; omega)) (by omega), below_row H4.out.1 (by omega) _⟩
end Go.Proofs.Ytegfpgdipmfgfaa

namespace Go.Proofs.Ytegfpgdipmfgfaa
open Go.RowKit

/-- A box that holds a plan. -/
abbrev planO (c r v : Int) (vr vw : Value) : Obj := .cells #[.int .i64 c, .int .i64 r, .int .i64 v, vr, vw] 32
abbrev planB (x : World) (b : Nat) (c r v : Int) (vr vw : Value) : Prop := BlkP x b (.int .i64 c) (.int .i64 r) (.int .i64 v) vr vw
end Go.Proofs.Ytegfpgdipmfgfaa

namespace Go.Proofs.Ytegfpgdipmfgfaa
open Go.RowKit

set_option maxRecDepth 100000 in
set_option maxHeartbeats 2000000 in
theorem toFsOp_is (kd d n td tn v : Int) (w : World) :
    Calls Try.prog 16 #[.agg #[.int .i64 kd, .int .i64 d, .int .i64 n, .int .i64 td, .int .i64 tn, .int .i64 v]] w fun e w' => e = .returned (.agg #[.int .i64 kd, .int .i64 d, .int .i64 n, .int .i64 td, .int .i64 tn, .int .i64 v]) ∧ Below w.heap.size w w' := by
  go_enter Try.func16, Try.ntmps16
  go_wp2
  refine bodyPost_ret (v := .agg #[.int .i64 kd, .int .i64 d, .int .i64 n, .int .i64 td, .int .i64 tn, .int .i64 v]) (by simp [results, Try.results16, go_sem]) rfl ⟨rfl, ?_⟩
  repeat (first | exact Below.refl _ _ | refine Below.setCell ?_ (by first | omega | (simp <;> omega)) _ | refine Below.alloc ?_ (by first | omega | (simp <;> omega)) _)
end Go.Proofs.Ytegfpgdipmfgfaa

namespace Go.Proofs.Ytegfpgdipmfgfaa
open Go.RowKit

/-- What a region that calls and keeps the plan leaves behind. -/
def Out (X0 : World) (c r v : Int) (ys : List Int) (m : Nat) (W : List Int) (bx : Nat) (vr vw : Value) (X : World) : Prop := X0.heap.size ≤ bx ∧ Below X0.heap.size X0 X ∧ planB X bx c r v vr vw ∧ PlanAt X X0.heap.size ys m W vr vw
/-- The first plan stands: its box, its lists, and all that was there ahead of it. -/
def E1 (X0 : World) (b6 : Nat) (c r v : Int) (ys : List Int) (m : Nat) (W : List Int) (vr vw : Value) (X : World) : Prop := Below X0.heap.size X0 X ∧ planB X b6 c r v vr vw ∧ PlanAt X X0.heap.size ys m W vr vw
theorem E1.later {X0 X X' : World} {b6 : Nat} {c r v : Int} {ys : List Int} {m : Nat} {W : List Int} {vr vw : Value} (h : E1 X0 b6 c r v ys m W vr vw X) (hb : Below X.heap.size X X') : E1 X0 b6 c r v ys m W vr vw X' := ⟨h.1.trans (hb.mono h.1.size), h.2.1.later hb, h.2.2.later hb⟩
theorem E1.within {X0 X X' : World} {b6 B E : Nat} {c r v : Int} {ys : List Int} {m : Nat} {W : List Int} {vr vw : Value} (h : E1 X0 b6 c r v ys m W vr vw X) (hw : Within B E X X') (h0 : X0.heap.size ≤ B) (h6 : b6 < B) (h1 : ∀ k, vr.ownBlock = some k → k < B) (h2 : ∀ k, vw.ownBlock = some k → k < B) : E1 X0 b6 c r v ys m W vr vw X' := by
  have hi : OwnM X X0.heap.size 2 1 vr ys.length ys := h.2.2.1
  exact ⟨hw.below h.1 h0, h.2.1.kept (hw.block _ h.2.1.lt (Or.inl h6)), OwnM.keptB hi (fun k hk => hw.block k (OwnM.block hi k hk).2 (Or.inl (h1 k hk))), OwnM.keptB h.2.2.2.1 (fun k hk => hw.block k (OwnM.block h.2.2.2.1 k hk).2 (Or.inl (h2 k hk))), h.2.2.2.2⟩
theorem below_drew (X : World) : Below X.heap.size X X.drew := ⟨rfl, rfl, rfl, Nat.le_refl _, fun _ _ => rfl⟩
abbrev opL (kd d nm td tn vv : Int) : Obj := .cells #[.int .i64 kd, .int .i64 d, .int .i64 nm, .int .i64 td, .int .i64 tn, .int .i64 vv] 40
theorem empty_len (L : Prs) (c : Int) : ∀ (j : Nat) (i : Int) (xs : List Int), (emptyP L c j i xs).2.length ≤ xs.length + j
  | 0, _, xs => Nat.le_refl _
  | j + 1, i, xs => by
    have h := addR_len xs (kE c i)
    rw [emptyP]
    split
    · simp only; omega
    · have := empty_len L c j (i + 1) (addR xs (kE c i)); omega
theorem reply_small (L : Prs) (kd d n td tn vv : Int) : (replyP L kd d n td tn vv).2.2.1.length ≤ 20 ∧ (replyP L kd d n td tn vv).2.2.2.1 ≤ 20 := by
  have h1 := addR_len [] (kI d)
  have h2 := addR_len (addR [] (kI d)) (kE d n)
  simp only [List.length_nil] at h1
  unfold replyP
  split
  · split
    · split
      · simp only; omega
      · unfold makeP
        have := addR_len (addR (addR [] (kI d)) (kE d n)) 0
        split <;> simp only <;> omega
    · split
      · have h3 := addR_len (addR (addR [] (kI d)) (kE d n)) (kI (minC (lookF L (kE d n)).2))
        have h4 := addR_len (addR (addR (addR [] (kI d)) (kE d n)) (kI (minC (lookF L (kE d n)).2))) (kB (minC (lookF L (kE d n)).2))
        have h5 := target_len L td tn (addR (addR (addR [] (kI d)) (kE d n)) (kI (minC (lookF L (kE d n)).2)))
        have h6 := empty_len L (minC (lookF L (kE d n)).2) 6 0 (addR (addR (addR [] (kI d)) (kE d n)) (kI (minC (lookF L (kE d n)).2)))
        unfold childP removeP moveP linkP
        repeat' split
        all_goals (simp only; omega)
      · simp only; omega
  · simp only; omega
theorem comp_len {n : Nat} {F : Nat → Int} {kd d nm td tn vv c : Int} {p : PR} (h : CompAns n F kd d nm td tn vv c p) : p.2.2.1.length ≤ 1000 := by
  rcases h with ⟨_, _, rfl⟩ | ⟨_, _, _, rfl⟩ | ⟨_, _, _, rfl⟩
  · simp
  · simp
  · have := (reply_small (listOf F n) kd d nm td tn vv).1; omega
theorem comp_m {n : Nat} {F : Nat → Int} {kd d nm td tn vv c : Int} {p : PR} (h : CompAns n F kd d nm td tn vv c p) : p.2.2.2.1 ≤ 1000 := by
  rcases h with ⟨_, _, rfl⟩ | ⟨_, _, _, rfl⟩ | ⟨_, _, _, rfl⟩
  · simp
  · simp
  · have := (reply_small (listOf F n) kd d nm td tn vv).2; omega
set_option maxRecDepth 100000 in
set_option maxHeartbeats 4000000 in
theorem compileFs_walk (v0 : Value) (n : Nat) (F : Nat → Int) (kd d nm td tn vv : Int) (w : World) (h : Row w 0 2 n F v0) (hn : n ≤ 9223372036854775807) :
    Calls Try.prog 6 #[v0, .agg #[.int .i64 kd, .int .i64 d, .int .i64 nm, .int .i64 td, .int .i64 tn, .int .i64 vv]] w fun e w' => e = .returned (.bool true) ∧ Below w.heap.size w w' := by
  obtain ⟨ao, cp, rfl⟩ := h.form
  have HB0 : Hid (Below w.heap.size w (w.alloc (opL kd d nm td tn vv))) := below_alloc _ _
  by_cases hs : (1048576 : Int) < n
  · go_enter Try.func6, Try.ntmps6
    go_wp2_with fail
    refine (szPairS_no _ _ _ _ _ hs (by omega) (by omega) hn).mono ?_
    rintro e w1 ⟨rfl, rfl⟩
    go_wp2
    go_ret
    exact ⟨rfl, HB0.out⟩
  have hb : n ≤ 1048576 := by omega
  have dz : decide ((1048576 : Int) - n < 0) = false := decide_eq_false (by omega)
  obtain ⟨c, r, v, ys, m, W, hs1, hi1, hx, hm⟩ : ∃ c r v ys m W, (∀ u X, Row X 0 2 n F u → Calls Try.prog 12 #[u, .agg #[.int .i64 kd, .int .i64 d, .int .i64 nm, .int .i64 td, .int .i64 tn, .int .i64 vv]] X (ResPlan X c r v ys m W)) ∧ (∀ u X, Row X 0 2 n F u → Calls Try.prog 11 #[u, .agg #[.int .i64 kd, .int .i64 d, .int .i64 nm, .int .i64 td, .int .i64 tn, .int .i64 vv]] X (ResPlan X c r v ys m W)) ∧ ys.length ≤ 1000 ∧ m ≤ 1000 := by
    obtain ⟨c, p, ha⟩ := CompAns.get n F kd d nm td tn vv
    exact ⟨c, p.1, p.2.1, p.2.2.1, p.2.2.2.1, p.2.2.2.2, fun u X hu => specCompile_is u 0 n F kd d nm td tn vv c p X hu hb ha, fun u X hu => implCompile_is u 0 n F kd d nm td tn vv c p X hu hb ha, comp_len ha, comp_m ha⟩
  have HSP : Hid (∀ u X, Row X 0 2 n F u → Calls Try.prog 12 #[u, .agg #[.int .i64 kd, .int .i64 d, .int .i64 nm, .int .i64 td, .int .i64 tn, .int .i64 vv]] X (ResPlan X c r v ys m W)) := hs1
  have HIM : Hid (∀ u X, Row X 0 2 n F u → Calls Try.prog 11 #[u, .agg #[.int .i64 kd, .int .i64 d, .int .i64 nm, .int .i64 td, .int .i64 tn, .int .i64 vv]] X (ResPlan X c r v ys m W)) := hi1
  have hnn : decide ((1 : Int) + ys.length + m * 3 < 0) = false := decide_eq_false (by omega)
  have H : Hid (Row (w.alloc (opL kd d nm td tn vv)) 0 2 n F (.slice ao n cp)) := h.alloc _
  have HOP : Hid (Blk6 (w.alloc (opL kd d nm td tn vv)) w.heap.size (.int .i64 kd) (.int .i64 d) (.int .i64 nm) (.int .i64 td) (.int .i64 tn) (.int .i64 vv)) := Blk6.new _ _ _ _ _ _ _ _
  have HSZ : Hid ((w.alloc (opL kd d nm td tn vv)).heap.size = w.heap.size + 1) := by unfold Hid; simp
  clear h hs hs1 hi1
  go_enter Try.func6, Try.ntmps6
  go_wp2_with fail
  refine (szPairS_ok _ _ _ _ _ (by omega) (by omega)).mono ?_
  rintro e w1 ⟨rfl, hw1⟩
  obtain rfl := hw1.symm
  go_upto_region 5 with fail
  generalize w.alloc (opL kd d nm td tn vv) = X0 at H HOP HB0 HSZ ⊢
  go_cut [6] (fun s wx => ∃ bx a1 a2 a3 a4, s = .pointer (some ⟨bx, 0, none⟩) ∧ Hid (Out X0 c r v ys m W bx (.slice a1 ys.length a2) (.slice a3 m a4) wx))
  case first =>
    refine wp_region_held_drew (S := fun X => Below X0.heap.size X0 X) (by kernel_rfl) (below_drew X0) (fun hS => ?_)
    generalize X0.drew = z0 at hS ⊢
    refine tkH 0 ?_ hS (fun wx hx => ?_) ?_; rotate_left
    · obtain ⟨⟨hx0, hx1, hx2, hx3, hx4, hx5⟩, _⟩ := HOP.out.later hx; go_simp; try with_reducible rfl
    refine tkH 2 ?_ hS (fun wx hx => ?_) ?_; rotate_left
    · obtain ⟨⟨hx0, hx1, hx2, hx3, hx4, hx5⟩, _⟩ := HOP.out.later hx; go_simp; try with_reducible rfl
    refine wpAnyH_ready (rs := [1, 5]) (by kernel_rfl) (by simp) ?_
    refine AllReadyH.cons rfl (fun K hK => ?_) (AllReadyH.cons rfl (fun K hK => ?_) AllReadyH.nil)
    · go_simp
      go_wp2_with fail
      refine (toPairS_any _ 0 n F _ (H.out.later hS) hb).mono ?_
      rintro e z1 ⟨u1, rfl, r1, _, q⟩
      have HU : Hid (Row z1 0 2 n F u1) := r1.mono (Nat.zero_le _)
      have hS1 := hS.trans (q.mono hS.size)
      clear r1 q hS
      go_wp2_with fail
      refine hK.out _ _ hS1 (fun hS => ?_)
      clear hK K
      clear hS1
      refine wpAnyH_ready (rs := [3, 5]) (by kernel_rfl) (by simp) ?_
      refine AllReadyH.cons rfl (fun K hK => ?_) (AllReadyH.cons rfl (fun K hK => ?_) AllReadyH.nil)
      · go_simp
        go_wp2_with fail
        refine (toFsOp_is kd d nm td tn vv _).mono ?_
        rintro e z2 ⟨rfl, q⟩
        have HU1 : Hid (Row z2 0 2 n F u1) := HU.out.later q
        clear HU
        have HU := HU1
        clear HU1
        have hS1 := hS.trans (q.mono hS.size)
        clear q hS
        go_wp2_with fail
        refine hK.out _ _ hS1 (fun hS => ?_)
        clear hK K
        clear hS1
        refine wpAnyH_ready (rs := [4, 5]) (by kernel_rfl) (by simp) ?_
        refine AllReadyH.cons rfl (fun K hK => ?_) (AllReadyH.cons rfl (fun K hK => ?_) AllReadyH.nil)
        · go_simp
          go_wp2_with fail
          refine (HSP.out _ _ HU.out).mono ?_
          rintro e z3 ⟨vr, vw, rfl, hA, q⟩
          obtain ⟨⟨a1, a2, rfl⟩, ⟨a3, a4, rfl⟩⟩ := PlanAt.form hA
          have HR : Hid (PlanAt z3 X0.heap.size ys m W (.slice a1 ys.length a2) (.slice a3 m a4)) := PlanAt.up hA hS.size
          have hS1 := hS.trans (q.mono hS.size)
          clear q hS HU hA
          go_wp2_with fail
          refine hK.out _ _ hS1 (fun hS => ?_)
          clear hK K
          clear hS1
          refine rdH 5 (fun K hK => ?_)
          go_simp
          have hS1 : Below X0.heap.size X0 (z3.alloc zeroPl) := hS.alloc hS.size _
          have HA : Hid (PBk (z3.alloc zeroPl) z3.heap.size ∧ X0.heap.size ≤ z3.heap.size) := ⟨PBk.new _ _ _ _ _ _, hS.size⟩
          have HL : Hid (PlanAt (z3.alloc zeroPl) X0.heap.size ys m W (.slice a1 ys.length a2) (.slice a3 m a4) ∧ (∀ k, (Value.slice a1 ys.length a2).ownBlock = some k → k ≠ z3.heap.size) ∧ ∀ k, (Value.slice a3 m a4).ownBlock = some k → k ≠ z3.heap.size) := ⟨HR.out.alloc _, fun k hk => by have := HR.out.lt.1 k hk; omega, fun k hk => by have := HR.out.lt.2 k hk; omega⟩
          clear HR
          refine hK.out _ _ hS1 (fun hS => ?_)
          clear hK K
          clear hS1
          refine rdH 6 (fun K hK => ?_)
          refine step_storeP rfl _ _ rfl (z3.heap.size) _ _ _ _ _ rfl rfl HA.out.1 (by kernel_rfl) ?_
          have hS1 : Below X0.heap.size X0 ((z3.alloc zeroPl).setRow (z3.heap.size) #[.int .i64 c, .int .i64 r, .int .i64 v, .slice a1 ys.length a2, .slice a3 m a4]) := below_row hS HA.out.2 _
          have HX : Hid (Out X0 c r v ys m W (z3.heap.size) (.slice a1 ys.length a2) (.slice a3 m a4) ((z3.alloc zeroPl).setRow (z3.heap.size) #[.int .i64 c, .int .i64 r, .int .i64 v, .slice a1 ys.length a2, .slice a3 m a4])) := ⟨HA.out.2, hS1, HA.out.1.blk _ _ _ _ _, plan_kept HL.out.1 HL.out.2.1 HL.out.2.2⟩
          clear hS
          refine hK.out _ _ hS1 (fun hS => ?_)
          clear hK K
          clear hS1 hS
          refine wpAnyH_done (by kernel_rfl) ?_ _
          go_simp
          go_wp2_with fail
          go_meet
          case rel => exact ⟨_, a1, a2, a3, a4, rfl, HX⟩
        · go_simp
          have hS1 : Below X0.heap.size X0 (z2.alloc zeroPl) := hS.alloc hS.size _
          have HA : Hid (PBk (z2.alloc zeroPl) z2.heap.size ∧ X0.heap.size ≤ z2.heap.size) := ⟨PBk.new _ _ _ _ _ _, hS.size⟩
          have HU1 : Hid (Row (z2.alloc zeroPl) 0 2 n F u1) := HU.out.alloc _
          clear HU
          have HU := HU1
          clear HU1
          clear hS
          refine hK.out _ _ hS1 (fun hS => ?_)
          clear hK K
          clear hS1
          refine rdH 4 (fun K hK => ?_)
          go_simp
          go_wp2_with fail
          refine (HSP.out _ _ HU.out).mono ?_
          rintro e z5 ⟨vr, vw, rfl, hA, q⟩
          obtain ⟨⟨a1, a2, rfl⟩, ⟨a3, a4, rfl⟩⟩ := PlanAt.form hA
          have HL : Hid (PlanAt z5 X0.heap.size ys m W (.slice a1 ys.length a2) (.slice a3 m a4) ∧ (∀ k, (Value.slice a1 ys.length a2).ownBlock = some k → k ≠ z2.heap.size) ∧ ∀ k, (Value.slice a3 m a4).ownBlock = some k → k ≠ z2.heap.size) := ⟨PlanAt.up hA hS.size, fun k hk => by have := (hA.1.lt k hk).1; have := HA.out.1.lt; omega, fun k hk => by have := (OwnM.block hA.2.1 k hk).1; have := HA.out.1.lt; omega⟩
          have hS1 := hS.trans (q.mono hS.size)
          have HA1 : Hid (PBk z5 (z2.heap.size) ∧ X0.heap.size ≤ z2.heap.size) := ⟨HA.out.1.later q, HA.out.2⟩
          clear HA
          have HA := HA1
          clear HA1
          clear q hS HU hA
          go_wp2_with fail
          refine hK.out _ _ hS1 (fun hS => ?_)
          clear hK K
          clear hS1
          refine rdH 6 (fun K hK => ?_)
          refine step_storeP rfl _ _ rfl (z2.heap.size) _ _ _ _ _ rfl rfl HA.out.1 (by kernel_rfl) ?_
          have hS1 : Below X0.heap.size X0 (z5.setRow (z2.heap.size) #[.int .i64 c, .int .i64 r, .int .i64 v, .slice a1 ys.length a2, .slice a3 m a4]) := below_row hS HA.out.2 _
          have HX : Hid (Out X0 c r v ys m W (z2.heap.size) (.slice a1 ys.length a2) (.slice a3 m a4) (z5.setRow (z2.heap.size) #[.int .i64 c, .int .i64 r, .int .i64 v, .slice a1 ys.length a2, .slice a3 m a4])) := ⟨HA.out.2, hS1, HA.out.1.blk _ _ _ _ _, plan_kept HL.out.1 HL.out.2.1 HL.out.2.2⟩
          clear hS
          refine hK.out _ _ hS1 (fun hS => ?_)
          clear hK K
          clear hS1 hS
          refine wpAnyH_done (by kernel_rfl) ?_ _
          go_simp
          go_wp2_with fail
          go_meet
          case rel => exact ⟨_, a1, a2, a3, a4, rfl, HX⟩
      · go_simp
        have hS1 : Below X0.heap.size X0 (z1.alloc zeroPl) := hS.alloc hS.size _
        have HA : Hid (PBk (z1.alloc zeroPl) z1.heap.size ∧ X0.heap.size ≤ z1.heap.size) := ⟨PBk.new _ _ _ _ _ _, hS.size⟩
        have HU1 : Hid (Row (z1.alloc zeroPl) 0 2 n F u1) := HU.out.alloc _
        clear HU
        have HU := HU1
        clear HU1
        clear hS
        refine hK.out _ _ hS1 (fun hS => ?_)
        clear hK K
        clear hS1
        refine rdH 3 (fun K hK => ?_)
        go_simp
        go_wp2_with fail
        refine (toFsOp_is kd d nm td tn vv _).mono ?_
        rintro e z6 ⟨rfl, q⟩
        have HU1 : Hid (Row z6 0 2 n F u1) := HU.out.later q
        clear HU
        have HU := HU1
        clear HU1
        have hS1 := hS.trans (q.mono hS.size)
        have HA1 : Hid (PBk z6 (z1.heap.size) ∧ X0.heap.size ≤ z1.heap.size) := ⟨HA.out.1.later q, HA.out.2⟩
        clear HA
        have HA := HA1
        clear HA1
        clear q hS
        go_wp2_with fail
        refine hK.out _ _ hS1 (fun hS => ?_)
        clear hK K
        clear hS1
        refine rdH 4 (fun K hK => ?_)
        go_simp
        go_wp2_with fail
        refine (HSP.out _ _ HU.out).mono ?_
        rintro e z7 ⟨vr, vw, rfl, hA, q⟩
        obtain ⟨⟨a1, a2, rfl⟩, ⟨a3, a4, rfl⟩⟩ := PlanAt.form hA
        have HL : Hid (PlanAt z7 X0.heap.size ys m W (.slice a1 ys.length a2) (.slice a3 m a4) ∧ (∀ k, (Value.slice a1 ys.length a2).ownBlock = some k → k ≠ z1.heap.size) ∧ ∀ k, (Value.slice a3 m a4).ownBlock = some k → k ≠ z1.heap.size) := ⟨PlanAt.up hA hS.size, fun k hk => by have := (hA.1.lt k hk).1; have := HA.out.1.lt; omega, fun k hk => by have := (OwnM.block hA.2.1 k hk).1; have := HA.out.1.lt; omega⟩
        have hS1 := hS.trans (q.mono hS.size)
        have HA1 : Hid (PBk z7 (z1.heap.size) ∧ X0.heap.size ≤ z1.heap.size) := ⟨HA.out.1.later q, HA.out.2⟩
        clear HA
        have HA := HA1
        clear HA1
        clear q hS HU hA
        go_wp2_with fail
        refine hK.out _ _ hS1 (fun hS => ?_)
        clear hK K
        clear hS1
        refine rdH 6 (fun K hK => ?_)
        refine step_storeP rfl _ _ rfl (z1.heap.size) _ _ _ _ _ rfl rfl HA.out.1 (by kernel_rfl) ?_
        have hS1 : Below X0.heap.size X0 (z7.setRow (z1.heap.size) #[.int .i64 c, .int .i64 r, .int .i64 v, .slice a1 ys.length a2, .slice a3 m a4]) := below_row hS HA.out.2 _
        have HX : Hid (Out X0 c r v ys m W (z1.heap.size) (.slice a1 ys.length a2) (.slice a3 m a4) (z7.setRow (z1.heap.size) #[.int .i64 c, .int .i64 r, .int .i64 v, .slice a1 ys.length a2, .slice a3 m a4])) := ⟨HA.out.2, hS1, HA.out.1.blk _ _ _ _ _, plan_kept HL.out.1 HL.out.2.1 HL.out.2.2⟩
        clear hS
        refine hK.out _ _ hS1 (fun hS => ?_)
        clear hK K
        clear hS1 hS
        refine wpAnyH_done (by kernel_rfl) ?_ _
        go_simp
        go_wp2_with fail
        go_meet
        case rel => exact ⟨_, a1, a2, a3, a4, rfl, HX⟩
    · go_simp
      have hS1 : Below X0.heap.size X0 (z0.alloc zeroPl) := hS.alloc hS.size _
      have HA : Hid (PBk (z0.alloc zeroPl) z0.heap.size ∧ X0.heap.size ≤ z0.heap.size) := ⟨PBk.new _ _ _ _ _ _, hS.size⟩
      clear hS
      refine hK.out _ _ hS1 (fun hS => ?_)
      clear hK K
      clear hS1
      refine rdH 1 (fun K hK => ?_)
      go_simp
      go_wp2_with fail
      refine (toPairS_any _ 0 n F _ (H.out.later hS) hb).mono ?_
      rintro e z8 ⟨u1, rfl, r1, _, q⟩
      have HU : Hid (Row z8 0 2 n F u1) := r1.mono (Nat.zero_le _)
      have hS1 := hS.trans (q.mono hS.size)
      have HA1 : Hid (PBk z8 (z0.heap.size) ∧ X0.heap.size ≤ z0.heap.size) := ⟨HA.out.1.later q, HA.out.2⟩
      clear HA
      have HA := HA1
      clear HA1
      clear r1 q hS
      go_wp2_with fail
      refine hK.out _ _ hS1 (fun hS => ?_)
      clear hK K
      clear hS1
      refine rdH 3 (fun K hK => ?_)
      go_simp
      go_wp2_with fail
      refine (toFsOp_is kd d nm td tn vv _).mono ?_
      rintro e z9 ⟨rfl, q⟩
      have HU1 : Hid (Row z9 0 2 n F u1) := HU.out.later q
      clear HU
      have HU := HU1
      clear HU1
      have hS1 := hS.trans (q.mono hS.size)
      have HA1 : Hid (PBk z9 (z0.heap.size) ∧ X0.heap.size ≤ z0.heap.size) := ⟨HA.out.1.later q, HA.out.2⟩
      clear HA
      have HA := HA1
      clear HA1
      clear q hS
      go_wp2_with fail
      refine hK.out _ _ hS1 (fun hS => ?_)
      clear hK K
      clear hS1
      refine rdH 4 (fun K hK => ?_)
      go_simp
      go_wp2_with fail
      refine (HSP.out _ _ HU.out).mono ?_
      rintro e z10 ⟨vr, vw, rfl, hA, q⟩
      obtain ⟨⟨a1, a2, rfl⟩, ⟨a3, a4, rfl⟩⟩ := PlanAt.form hA
      have HL : Hid (PlanAt z10 X0.heap.size ys m W (.slice a1 ys.length a2) (.slice a3 m a4) ∧ (∀ k, (Value.slice a1 ys.length a2).ownBlock = some k → k ≠ z0.heap.size) ∧ ∀ k, (Value.slice a3 m a4).ownBlock = some k → k ≠ z0.heap.size) := ⟨PlanAt.up hA hS.size, fun k hk => by have := (hA.1.lt k hk).1; have := HA.out.1.lt; omega, fun k hk => by have := (OwnM.block hA.2.1 k hk).1; have := HA.out.1.lt; omega⟩
      have hS1 := hS.trans (q.mono hS.size)
      have HA1 : Hid (PBk z10 (z0.heap.size) ∧ X0.heap.size ≤ z0.heap.size) := ⟨HA.out.1.later q, HA.out.2⟩
      clear HA
      have HA := HA1
      clear HA1
      clear q hS HU hA
      go_wp2_with fail
      refine hK.out _ _ hS1 (fun hS => ?_)
      clear hK K
      clear hS1
      refine rdH 6 (fun K hK => ?_)
      refine step_storeP rfl _ _ rfl (z0.heap.size) _ _ _ _ _ rfl rfl HA.out.1 (by kernel_rfl) ?_
      have hS1 : Below X0.heap.size X0 (z10.setRow (z0.heap.size) #[.int .i64 c, .int .i64 r, .int .i64 v, .slice a1 ys.length a2, .slice a3 m a4]) := below_row hS HA.out.2 _
      have HX : Hid (Out X0 c r v ys m W (z0.heap.size) (.slice a1 ys.length a2) (.slice a3 m a4) (z10.setRow (z0.heap.size) #[.int .i64 c, .int .i64 r, .int .i64 v, .slice a1 ys.length a2, .slice a3 m a4])) := ⟨HA.out.2, hS1, HA.out.1.blk _ _ _ _ _, plan_kept HL.out.1 HL.out.2.1 HL.out.2.2⟩
      clear hS
      refine hK.out _ _ hS1 (fun hS => ?_)
      clear hK K
      clear hS1 hS
      refine wpAnyH_done (by kernel_rfl) ?_ _
      go_simp
      go_wp2_with fail
      go_meet
      case rel => exact ⟨_, a1, a2, a3, a4, rfl, HX⟩
  case rest =>
  obtain ⟨b6, s1, s2, s3, s4, rfl, HO⟩ := hcut
  have N6 : Hid (X0.heap.size ≤ b6 ∧ b6 < wc.heap.size ∧ (∀ k, (Value.slice s1 ys.length s2).ownBlock = some k → k < wc.heap.size) ∧ (∀ k, (Value.slice s3 m s4).ownBlock = some k → k < wc.heap.size) ∧ X0.heap.size ≤ wc.heap.size) := ⟨HO.out.1, HO.out.2.2.1.lt, HO.out.2.2.2.lt.1, HO.out.2.2.2.lt.2, HO.out.2.1.size⟩
  have E0 : Hid (E1 X0 b6 c r v ys m W (.slice s1 ys.length s2) (.slice s3 m s4) wc) := HO.out.2
  clear HO
  go_wp2_with fail
  refine (toPairS_any _ 0 n F _ (H.out.later E0.out.1) hb).mono ?_
  rintro e w2 ⟨u2, rfl, r2, f2, q2⟩
  have R2 : Hid (Row w2 wc.heap.size 2 n F u2 ∧ Free w2 (n * 2) u2) := ⟨r2, f2⟩
  have L2 : Hid (0 < n → ∀ k, u2.ownBlock = some k → wc.heap.size ≤ k ∧ k < w2.heap.size) := fun h0 k hk => r2.lt h0 k hk
  have Ea : Hid (E1 X0 b6 c r v ys m W (.slice s1 ys.length s2) (.slice s3 m s4) w2) := E0.out.later q2
  have Na : Hid (wc.heap.size ≤ w2.heap.size) := q2.size
  clear r2 f2 q2 E0
  obtain ⟨⟨o0, o1, o2, o3, o4, o5⟩, _⟩ := HOP.out.later Ea.out.1
  go_wp2_with fail
  refine (toFsOp_is kd d nm td tn vv _).mono ?_
  rintro e w3 ⟨rfl, q3⟩
  have Eb : Hid (E1 X0 b6 c r v ys m W (.slice s1 ys.length s2) (.slice s3 m s4) w3) := Ea.out.later q3
  have Rb : Hid (Row w3 wc.heap.size 2 n F u2 ∧ Free w3 (n * 2) u2) := ⟨R2.out.1.later q3, R2.out.2.ofRow R2.out.1 q3⟩
  have Nb : Hid (w2.heap.size ≤ w3.heap.size) := q3.size
  clear q3 Ea R2 o0 o1 o2 o3 o4 o5
  go_wp2_with fail
  refine (HIM.out _ _ (Rb.out.1.mono (Nat.zero_le _))).mono ?_
  rintro e w4 ⟨vr, vw, rfl, hA, q4⟩
  obtain ⟨⟨t1, t2, rfl⟩, ⟨t3, t4, rfl⟩⟩ := PlanAt.form hA
  have q4' := q4.alloc q4.size (planO c r v (.slice t1 ys.length t2) (.slice t3 m t4))
  have Nc : Hid (w3.heap.size ≤ w4.heap.size ∧ (∀ k, (Value.slice t1 ys.length t2).ownBlock = some k → w3.heap.size ≤ k ∧ k < w4.heap.size) ∧ (∀ k, (Value.slice t3 m t4).ownBlock = some k → w3.heap.size ≤ k ∧ k < w4.heap.size)) := ⟨q4.size, fun k hk => hA.1.lt k hk, fun k hk => OwnM.block hA.2.1 k hk⟩
  have Ec : Hid (E1 X0 b6 c r v ys m W (.slice s1 ys.length s2) (.slice s3 m s4) (w4.alloc (planO c r v (.slice t1 ys.length t2) (.slice t3 m t4)))) := Eb.out.later q4'
  have Rc : Hid (Row (w4.alloc (planO c r v (.slice t1 ys.length t2) (.slice t3 m t4))) wc.heap.size 2 n F u2 ∧ Free (w4.alloc (planO c r v (.slice t1 ys.length t2) (.slice t3 m t4))) (n * 2) u2) := ⟨Rb.out.1.later q4', Rb.out.2.ofRow Rb.out.1 q4'⟩
  have Gc : Hid (planB (w4.alloc (planO c r v (.slice t1 ys.length t2) (.slice t3 m t4))) w4.heap.size c r v (.slice t1 ys.length t2) (.slice t3 m t4) ∧ PlanAt (w4.alloc (planO c r v (.slice t1 ys.length t2) (.slice t3 m t4))) w3.heap.size ys m W (.slice t1 ys.length t2) (.slice t3 m t4)) := ⟨BlkP.new _ _ _ _ _ _ _, PlanAt.alloc (w := w4) hA _⟩
  clear q4 q4' hA Eb Rb
  obtain ⟨⟨a0, a1, a2, a3, a4⟩, _⟩ := Ec.out.2.1
  have hlt : b6 < w4.heap.size := by have := N6.out.2.1; have := Na.out; have := Nb.out; have := Nc.out.1; omega
  go_wp2_with fail
  refine (eqPlan_same c r v ys m W _ _ _ _ w3.heap.size X0.heap.size _ Gc.out.2 Ec.out.2.2 hx hm).mono ?_
  rintro e w5 ⟨rfl, q5⟩
  have Ed : Hid (E1 X0 b6 c r v ys m W (.slice s1 ys.length s2) (.slice s3 m s4) w5) := Ec.out.later q5
  have Rd : Hid (Row w5 wc.heap.size 2 n F u2 ∧ Free w5 (n * 2) u2) := ⟨Rc.out.1.later q5, Rc.out.2.ofRow Rc.out.1 q5⟩
  have Gd : Hid (planB w5 w4.heap.size c r v (.slice t1 ys.length t2) (.slice t3 m t4) ∧ PlanAt w5 w3.heap.size ys m W (.slice t1 ys.length t2) (.slice t3 m t4)) := ⟨Gc.out.1.later q5, Gc.out.2.later q5⟩
  clear q5 Ec Rc Gc a0 a1 a2 a3 a4 hlt
  go_wp2_with fail
  refine (toPairS_any _ 0 n F _ (H.out.later Ed.out.1) hb).mono ?_
  rintro e w6 ⟨u6, rfl, r6, _, q6⟩
  have Ee : Hid (E1 X0 b6 c r v ys m W (.slice s1 ys.length s2) (.slice s3 m s4) w6) := Ed.out.later q6
  have Re : Hid ((Row w6 wc.heap.size 2 n F u2 ∧ Free w6 (n * 2) u2) ∧ Row w6 0 2 n F u6) := ⟨⟨Rd.out.1.later q6, Rd.out.2.ofRow Rd.out.1 q6⟩, r6.mono (Nat.zero_le _)⟩
  have Ge : Hid (planB w6 w4.heap.size c r v (.slice t1 ys.length t2) (.slice t3 m t4) ∧ PlanAt w6 w3.heap.size ys m W (.slice t1 ys.length t2) (.slice t3 m t4)) := ⟨Gd.out.1.later q6, Gd.out.2.later q6⟩
  clear q6 r6 Ed Rd Gd
  go_wp2_with fail
  refine (eqPairS_same _ _ _ 0 n F _ Re.out.1.1 Re.out.2 hb).mono ?_
  rintro e w7 ⟨rfl, q7⟩
  have Ef : Hid (E1 X0 b6 c r v ys m W (.slice s1 ys.length s2) (.slice s3 m s4) w7) := Ee.out.later q7
  have Rf : Hid (Row w7 wc.heap.size 2 n F u2 ∧ Free w7 (n * 2) u2) := ⟨Re.out.1.1.later q7, Re.out.1.2.ofRow Re.out.1.1 q7⟩
  have Gf : Hid (planB w7 w4.heap.size c r v (.slice t1 ys.length t2) (.slice t3 m t4) ∧ PlanAt w7 w3.heap.size ys m W (.slice t1 ys.length t2) (.slice t3 m t4)) := ⟨Ge.out.1.later q7, Ge.out.2.later q7⟩
  clear q7 Ee Re Ge
  have hkk : decide ((1 : Int) + n * 2 < 0) = false := decide_eq_false (by omega)
  go_wp2_with fail
  refine (markPairS_turn _ _ n F 1 _ Rf.out.1 Rf.out.2 hb (by omega) (by omega)).mono ?_
  rintro e w8 ⟨rfl, _, _, g8⟩
  have W8 : Within wc.heap.size w2.heap.size w7 w8 := Within.of g8 (turn_off L2.out)
  have Eg : Hid (E1 X0 b6 c r v ys m W (.slice s1 ys.length s2) (.slice s3 m s4) w8) := Ef.out.within W8 N6.out.2.2.2.2 N6.out.2.1 N6.out.2.2.1 N6.out.2.2.2.1
  have Gg : Hid (planB w8 w4.heap.size c r v (.slice t1 ys.length t2) (.slice t3 m t4) ∧ PlanAt w8 w3.heap.size ys m W (.slice t1 ys.length t2) (.slice t3 m t4)) := ⟨Gf.out.1.kept (W8.block _ Gf.out.1.lt (Or.inr (by have := Nb.out; have := Nc.out.1; omega))), Gf.out.2.keptP (fun k hk hq => W8.block k hq (Or.inr (by have := Nb.out; omega)))⟩
  clear W8 g8 Ef Rf Gf
  obtain ⟨⟨a0, a1, a2, a3, a4⟩, _⟩ := Eg.out.2.1
  obtain ⟨⟨g0, g1, g2, g3, g4⟩, _⟩ := Gg.out.1
  go_wp2_with fail
  refine (eqPlan_same c r v ys m W _ _ _ _ w3.heap.size X0.heap.size _ Gg.out.2 Eg.out.2.2 hx hm).mono ?_
  rintro e w9 ⟨rfl, q9⟩
  have Eh : Hid (E1 X0 b6 c r v ys m W (.slice s1 ys.length s2) (.slice s3 m s4) w9) := Eg.out.later q9
  have Gh : Hid (planB w9 w4.heap.size c r v (.slice t1 ys.length t2) (.slice t3 m t4) ∧ PlanAt w9 w3.heap.size ys m W (.slice t1 ys.length t2) (.slice t3 m t4)) := ⟨Gg.out.1.later q9, Gg.out.2.later q9⟩
  clear q9 Eg Gg a0 a1 a2 a3 a4 g0 g1 g2 g3 g4
  obtain ⟨⟨g0, g1, g2, g3, g4⟩, _⟩ := Gh.out.1
  have hw9 : w3.heap.size ≤ w9.heap.size := by have := Gh.out.1.lt; have := Nc.out.1; omega
  go_wp2_with fail
  refine (markPlan_any c r v ys m W _ _ w3.heap.size _ Gh.out.2 hx hm hw9).mono ?_
  rintro e w10 ⟨rfl, hn10, q10, k10⟩
  have Ei : Hid (E1 X0 b6 c r v ys m W (.slice s1 ys.length s2) (.slice s3 m s4) w10) := Eh.out.within (⟨q10.os, q10.tape, q10.output, q10.size, fun k hk ho => ho.elim (fun h => q10.block k h) (fun h => absurd hk (by omega))⟩ : Within w3.heap.size w9.heap.size w9 w10) (by have := N6.out.2.2.2.2; have := Na.out; have := Nb.out; omega) (by have := N6.out.2.1; have := Na.out; have := Nb.out; omega) (fun k hk => by have := N6.out.2.2.1 k hk; have := Na.out; have := Nb.out; omega) (fun k hk => by have := N6.out.2.2.2.1 k hk; have := Na.out; have := Nb.out; omega)
  have Gi : Hid (planB w10 w4.heap.size c r v (.slice t1 ys.length t2) (.slice t3 m t4) ∧ Numb w10 w3.heap.size ys.length m (.slice t1 ys.length t2) (.slice t3 m t4)) := ⟨Gh.out.1.kept (k10 _ Gh.out.1.lt (fun e => by have := (Nc.out.2.1 _ e).2; omega) (fun e => by have := (Nc.out.2.2 _ e).2; omega)), hn10⟩
  clear hn10 q10 k10 hw9 Eh Gh g0 g1 g2 g3 g4
  obtain ⟨⟨g0, g1, g2, g3, g4⟩, _⟩ := Gi.out.1
  go_wp2_with fail
  refine (heldPlan_any c r v ys.length m _ _ w3.heap.size _ Gi.out.2 hx hm).mono ?_
  rintro e w11 ⟨rfl, q11⟩
  have Ej : Hid (E1 X0 b6 c r v ys m W (.slice s1 ys.length s2) (.slice s3 m s4) w11) := Ei.out.later q11
  have Gj : Hid (planB w11 w4.heap.size c r v (.slice t1 ys.length t2) (.slice t3 m t4) ∧ Numb w11 w3.heap.size ys.length m (.slice t1 ys.length t2) (.slice t3 m t4)) := ⟨Gi.out.1.later q11, Gi.out.2.later q11⟩
  clear q11 Ei Gi g0 g1 g2 g3 g4
  go_upto_region 24 with fail
  have H' : Hid (Row w11 0 2 n F (.slice ao n cp)) := H.out.later Ej.out.1
  have HOP' : Hid (Blk6 w11 w.heap.size (.int .i64 kd) (.int .i64 d) (.int .i64 nm) (.int .i64 td) (.int .i64 tn) (.int .i64 vv)) := HOP.out.later Ej.out.1
  have HZ' : Hid (Below w.heap.size w X0) := HB0
  clear H HOP
  have H := H'
  have HOP := HOP'
  clear H' HOP'
  go_cut [12] (fun s wx => ∃ bx a1 a2 a3 a4, s = .pointer (some ⟨bx, 0, none⟩) ∧ Hid (Out w11 c r v ys m W bx (.slice a1 ys.length a2) (.slice a3 m a4) wx))
  case first =>
    refine wp_region_held_drew (S := fun X => Below w11.heap.size w11 X) (by kernel_rfl) (below_drew w11) (fun hS => ?_)
    generalize w11.drew = z0 at hS ⊢
    refine tkH 0 ?_ hS (fun wx hx => ?_) ?_; rotate_left
    · obtain ⟨⟨hx0, hx1, hx2, hx3, hx4, hx5⟩, _⟩ := HOP.out.later hx; go_simp; try with_reducible rfl
    refine tkH 2 ?_ hS (fun wx hx => ?_) ?_; rotate_left
    · obtain ⟨⟨hx0, hx1, hx2, hx3, hx4, hx5⟩, _⟩ := HOP.out.later hx; go_simp; try with_reducible rfl
    refine wpAnyH_ready (rs := [1, 5]) (by kernel_rfl) (by simp) ?_
    refine AllReadyH.cons rfl (fun K hK => ?_) (AllReadyH.cons rfl (fun K hK => ?_) AllReadyH.nil)
    · go_simp
      go_wp2_with fail
      refine (toPairS_any _ 0 n F _ (H.out.later hS) hb).mono ?_
      rintro e z11 ⟨u1, rfl, r1, _, q⟩
      have HU : Hid (Row z11 0 2 n F u1) := r1.mono (Nat.zero_le _)
      have hS1 := hS.trans (q.mono hS.size)
      clear r1 q hS
      go_wp2_with fail
      refine hK.out _ _ hS1 (fun hS => ?_)
      clear hK K
      clear hS1
      refine wpAnyH_ready (rs := [3, 5]) (by kernel_rfl) (by simp) ?_
      refine AllReadyH.cons rfl (fun K hK => ?_) (AllReadyH.cons rfl (fun K hK => ?_) AllReadyH.nil)
      · go_simp
        go_wp2_with fail
        refine (toFsOp_is kd d nm td tn vv _).mono ?_
        rintro e z12 ⟨rfl, q⟩
        have HU1 : Hid (Row z12 0 2 n F u1) := HU.out.later q
        clear HU
        have HU := HU1
        clear HU1
        have hS1 := hS.trans (q.mono hS.size)
        clear q hS
        go_wp2_with fail
        refine hK.out _ _ hS1 (fun hS => ?_)
        clear hK K
        clear hS1
        refine wpAnyH_ready (rs := [4, 5]) (by kernel_rfl) (by simp) ?_
        refine AllReadyH.cons rfl (fun K hK => ?_) (AllReadyH.cons rfl (fun K hK => ?_) AllReadyH.nil)
        · go_simp
          go_wp2_with fail
          refine (HIM.out _ _ HU.out).mono ?_
          rintro e z13 ⟨vr, vw, rfl, hA, q⟩
          obtain ⟨⟨a1, a2, rfl⟩, ⟨a3, a4, rfl⟩⟩ := PlanAt.form hA
          have HR : Hid (PlanAt z13 w11.heap.size ys m W (.slice a1 ys.length a2) (.slice a3 m a4)) := PlanAt.up hA hS.size
          have hS1 := hS.trans (q.mono hS.size)
          clear q hS HU hA
          go_wp2_with fail
          refine hK.out _ _ hS1 (fun hS => ?_)
          clear hK K
          clear hS1
          refine rdH 5 (fun K hK => ?_)
          go_simp
          have hS1 : Below w11.heap.size w11 (z13.alloc zeroPl) := hS.alloc hS.size _
          have HA : Hid (PBk (z13.alloc zeroPl) z13.heap.size ∧ w11.heap.size ≤ z13.heap.size) := ⟨PBk.new _ _ _ _ _ _, hS.size⟩
          have HL : Hid (PlanAt (z13.alloc zeroPl) w11.heap.size ys m W (.slice a1 ys.length a2) (.slice a3 m a4) ∧ (∀ k, (Value.slice a1 ys.length a2).ownBlock = some k → k ≠ z13.heap.size) ∧ ∀ k, (Value.slice a3 m a4).ownBlock = some k → k ≠ z13.heap.size) := ⟨HR.out.alloc _, fun k hk => by have := HR.out.lt.1 k hk; omega, fun k hk => by have := HR.out.lt.2 k hk; omega⟩
          clear HR
          refine hK.out _ _ hS1 (fun hS => ?_)
          clear hK K
          clear hS1
          refine rdH 6 (fun K hK => ?_)
          refine step_storeP rfl _ _ rfl (z13.heap.size) _ _ _ _ _ rfl rfl HA.out.1 (by kernel_rfl) ?_
          have hS1 : Below w11.heap.size w11 ((z13.alloc zeroPl).setRow (z13.heap.size) #[.int .i64 c, .int .i64 r, .int .i64 v, .slice a1 ys.length a2, .slice a3 m a4]) := below_row hS HA.out.2 _
          have HX : Hid (Out w11 c r v ys m W (z13.heap.size) (.slice a1 ys.length a2) (.slice a3 m a4) ((z13.alloc zeroPl).setRow (z13.heap.size) #[.int .i64 c, .int .i64 r, .int .i64 v, .slice a1 ys.length a2, .slice a3 m a4])) := ⟨HA.out.2, hS1, HA.out.1.blk _ _ _ _ _, plan_kept HL.out.1 HL.out.2.1 HL.out.2.2⟩
          clear hS
          refine hK.out _ _ hS1 (fun hS => ?_)
          clear hK K
          clear hS1 hS
          refine wpAnyH_done (by kernel_rfl) ?_ _
          go_simp
          go_wp2_with fail
          go_meet
          case rel => exact ⟨_, a1, a2, a3, a4, rfl, HX⟩
        · go_simp
          have hS1 : Below w11.heap.size w11 (z12.alloc zeroPl) := hS.alloc hS.size _
          have HA : Hid (PBk (z12.alloc zeroPl) z12.heap.size ∧ w11.heap.size ≤ z12.heap.size) := ⟨PBk.new _ _ _ _ _ _, hS.size⟩
          have HU1 : Hid (Row (z12.alloc zeroPl) 0 2 n F u1) := HU.out.alloc _
          clear HU
          have HU := HU1
          clear HU1
          clear hS
          refine hK.out _ _ hS1 (fun hS => ?_)
          clear hK K
          clear hS1
          refine rdH 4 (fun K hK => ?_)
          go_simp
          go_wp2_with fail
          refine (HIM.out _ _ HU.out).mono ?_
          rintro e z15 ⟨vr, vw, rfl, hA, q⟩
          obtain ⟨⟨a1, a2, rfl⟩, ⟨a3, a4, rfl⟩⟩ := PlanAt.form hA
          have HL : Hid (PlanAt z15 w11.heap.size ys m W (.slice a1 ys.length a2) (.slice a3 m a4) ∧ (∀ k, (Value.slice a1 ys.length a2).ownBlock = some k → k ≠ z12.heap.size) ∧ ∀ k, (Value.slice a3 m a4).ownBlock = some k → k ≠ z12.heap.size) := ⟨PlanAt.up hA hS.size, fun k hk => by have := (hA.1.lt k hk).1; have := HA.out.1.lt; omega, fun k hk => by have := (OwnM.block hA.2.1 k hk).1; have := HA.out.1.lt; omega⟩
          have hS1 := hS.trans (q.mono hS.size)
          have HA1 : Hid (PBk z15 (z12.heap.size) ∧ w11.heap.size ≤ z12.heap.size) := ⟨HA.out.1.later q, HA.out.2⟩
          clear HA
          have HA := HA1
          clear HA1
          clear q hS HU hA
          go_wp2_with fail
          refine hK.out _ _ hS1 (fun hS => ?_)
          clear hK K
          clear hS1
          refine rdH 6 (fun K hK => ?_)
          refine step_storeP rfl _ _ rfl (z12.heap.size) _ _ _ _ _ rfl rfl HA.out.1 (by kernel_rfl) ?_
          have hS1 : Below w11.heap.size w11 (z15.setRow (z12.heap.size) #[.int .i64 c, .int .i64 r, .int .i64 v, .slice a1 ys.length a2, .slice a3 m a4]) := below_row hS HA.out.2 _
          have HX : Hid (Out w11 c r v ys m W (z12.heap.size) (.slice a1 ys.length a2) (.slice a3 m a4) (z15.setRow (z12.heap.size) #[.int .i64 c, .int .i64 r, .int .i64 v, .slice a1 ys.length a2, .slice a3 m a4])) := ⟨HA.out.2, hS1, HA.out.1.blk _ _ _ _ _, plan_kept HL.out.1 HL.out.2.1 HL.out.2.2⟩
          clear hS
          refine hK.out _ _ hS1 (fun hS => ?_)
          clear hK K
          clear hS1 hS
          refine wpAnyH_done (by kernel_rfl) ?_ _
          go_simp
          go_wp2_with fail
          go_meet
          case rel => exact ⟨_, a1, a2, a3, a4, rfl, HX⟩
      · go_simp
        have hS1 : Below w11.heap.size w11 (z11.alloc zeroPl) := hS.alloc hS.size _
        have HA : Hid (PBk (z11.alloc zeroPl) z11.heap.size ∧ w11.heap.size ≤ z11.heap.size) := ⟨PBk.new _ _ _ _ _ _, hS.size⟩
        have HU1 : Hid (Row (z11.alloc zeroPl) 0 2 n F u1) := HU.out.alloc _
        clear HU
        have HU := HU1
        clear HU1
        clear hS
        refine hK.out _ _ hS1 (fun hS => ?_)
        clear hK K
        clear hS1
        refine rdH 3 (fun K hK => ?_)
        go_simp
        go_wp2_with fail
        refine (toFsOp_is kd d nm td tn vv _).mono ?_
        rintro e z16 ⟨rfl, q⟩
        have HU1 : Hid (Row z16 0 2 n F u1) := HU.out.later q
        clear HU
        have HU := HU1
        clear HU1
        have hS1 := hS.trans (q.mono hS.size)
        have HA1 : Hid (PBk z16 (z11.heap.size) ∧ w11.heap.size ≤ z11.heap.size) := ⟨HA.out.1.later q, HA.out.2⟩
        clear HA
        have HA := HA1
        clear HA1
        clear q hS
        go_wp2_with fail
        refine hK.out _ _ hS1 (fun hS => ?_)
        clear hK K
        clear hS1
        refine rdH 4 (fun K hK => ?_)
        go_simp
        go_wp2_with fail
        refine (HIM.out _ _ HU.out).mono ?_
        rintro e z17 ⟨vr, vw, rfl, hA, q⟩
        obtain ⟨⟨a1, a2, rfl⟩, ⟨a3, a4, rfl⟩⟩ := PlanAt.form hA
        have HL : Hid (PlanAt z17 w11.heap.size ys m W (.slice a1 ys.length a2) (.slice a3 m a4) ∧ (∀ k, (Value.slice a1 ys.length a2).ownBlock = some k → k ≠ z11.heap.size) ∧ ∀ k, (Value.slice a3 m a4).ownBlock = some k → k ≠ z11.heap.size) := ⟨PlanAt.up hA hS.size, fun k hk => by have := (hA.1.lt k hk).1; have := HA.out.1.lt; omega, fun k hk => by have := (OwnM.block hA.2.1 k hk).1; have := HA.out.1.lt; omega⟩
        have hS1 := hS.trans (q.mono hS.size)
        have HA1 : Hid (PBk z17 (z11.heap.size) ∧ w11.heap.size ≤ z11.heap.size) := ⟨HA.out.1.later q, HA.out.2⟩
        clear HA
        have HA := HA1
        clear HA1
        clear q hS HU hA
        go_wp2_with fail
        refine hK.out _ _ hS1 (fun hS => ?_)
        clear hK K
        clear hS1
        refine rdH 6 (fun K hK => ?_)
        refine step_storeP rfl _ _ rfl (z11.heap.size) _ _ _ _ _ rfl rfl HA.out.1 (by kernel_rfl) ?_
        have hS1 : Below w11.heap.size w11 (z17.setRow (z11.heap.size) #[.int .i64 c, .int .i64 r, .int .i64 v, .slice a1 ys.length a2, .slice a3 m a4]) := below_row hS HA.out.2 _
        have HX : Hid (Out w11 c r v ys m W (z11.heap.size) (.slice a1 ys.length a2) (.slice a3 m a4) (z17.setRow (z11.heap.size) #[.int .i64 c, .int .i64 r, .int .i64 v, .slice a1 ys.length a2, .slice a3 m a4])) := ⟨HA.out.2, hS1, HA.out.1.blk _ _ _ _ _, plan_kept HL.out.1 HL.out.2.1 HL.out.2.2⟩
        clear hS
        refine hK.out _ _ hS1 (fun hS => ?_)
        clear hK K
        clear hS1 hS
        refine wpAnyH_done (by kernel_rfl) ?_ _
        go_simp
        go_wp2_with fail
        go_meet
        case rel => exact ⟨_, a1, a2, a3, a4, rfl, HX⟩
    · go_simp
      have hS1 : Below w11.heap.size w11 (z0.alloc zeroPl) := hS.alloc hS.size _
      have HA : Hid (PBk (z0.alloc zeroPl) z0.heap.size ∧ w11.heap.size ≤ z0.heap.size) := ⟨PBk.new _ _ _ _ _ _, hS.size⟩
      clear hS
      refine hK.out _ _ hS1 (fun hS => ?_)
      clear hK K
      clear hS1
      refine rdH 1 (fun K hK => ?_)
      go_simp
      go_wp2_with fail
      refine (toPairS_any _ 0 n F _ (H.out.later hS) hb).mono ?_
      rintro e z18 ⟨u1, rfl, r1, _, q⟩
      have HU : Hid (Row z18 0 2 n F u1) := r1.mono (Nat.zero_le _)
      have hS1 := hS.trans (q.mono hS.size)
      have HA1 : Hid (PBk z18 (z0.heap.size) ∧ w11.heap.size ≤ z0.heap.size) := ⟨HA.out.1.later q, HA.out.2⟩
      clear HA
      have HA := HA1
      clear HA1
      clear r1 q hS
      go_wp2_with fail
      refine hK.out _ _ hS1 (fun hS => ?_)
      clear hK K
      clear hS1
      refine rdH 3 (fun K hK => ?_)
      go_simp
      go_wp2_with fail
      refine (toFsOp_is kd d nm td tn vv _).mono ?_
      rintro e z19 ⟨rfl, q⟩
      have HU1 : Hid (Row z19 0 2 n F u1) := HU.out.later q
      clear HU
      have HU := HU1
      clear HU1
      have hS1 := hS.trans (q.mono hS.size)
      have HA1 : Hid (PBk z19 (z0.heap.size) ∧ w11.heap.size ≤ z0.heap.size) := ⟨HA.out.1.later q, HA.out.2⟩
      clear HA
      have HA := HA1
      clear HA1
      clear q hS
      go_wp2_with fail
      refine hK.out _ _ hS1 (fun hS => ?_)
      clear hK K
      clear hS1
      refine rdH 4 (fun K hK => ?_)
      go_simp
      go_wp2_with fail
      refine (HIM.out _ _ HU.out).mono ?_
      rintro e z20 ⟨vr, vw, rfl, hA, q⟩
      obtain ⟨⟨a1, a2, rfl⟩, ⟨a3, a4, rfl⟩⟩ := PlanAt.form hA
      have HL : Hid (PlanAt z20 w11.heap.size ys m W (.slice a1 ys.length a2) (.slice a3 m a4) ∧ (∀ k, (Value.slice a1 ys.length a2).ownBlock = some k → k ≠ z0.heap.size) ∧ ∀ k, (Value.slice a3 m a4).ownBlock = some k → k ≠ z0.heap.size) := ⟨PlanAt.up hA hS.size, fun k hk => by have := (hA.1.lt k hk).1; have := HA.out.1.lt; omega, fun k hk => by have := (OwnM.block hA.2.1 k hk).1; have := HA.out.1.lt; omega⟩
      have hS1 := hS.trans (q.mono hS.size)
      have HA1 : Hid (PBk z20 (z0.heap.size) ∧ w11.heap.size ≤ z0.heap.size) := ⟨HA.out.1.later q, HA.out.2⟩
      clear HA
      have HA := HA1
      clear HA1
      clear q hS HU hA
      go_wp2_with fail
      refine hK.out _ _ hS1 (fun hS => ?_)
      clear hK K
      clear hS1
      refine rdH 6 (fun K hK => ?_)
      refine step_storeP rfl _ _ rfl (z0.heap.size) _ _ _ _ _ rfl rfl HA.out.1 (by kernel_rfl) ?_
      have hS1 : Below w11.heap.size w11 (z20.setRow (z0.heap.size) #[.int .i64 c, .int .i64 r, .int .i64 v, .slice a1 ys.length a2, .slice a3 m a4]) := below_row hS HA.out.2 _
      have HX : Hid (Out w11 c r v ys m W (z0.heap.size) (.slice a1 ys.length a2) (.slice a3 m a4) (z20.setRow (z0.heap.size) #[.int .i64 c, .int .i64 r, .int .i64 v, .slice a1 ys.length a2, .slice a3 m a4])) := ⟨HA.out.2, hS1, HA.out.1.blk _ _ _ _ _, plan_kept HL.out.1 HL.out.2.1 HL.out.2.2⟩
      clear hS
      refine hK.out _ _ hS1 (fun hS => ?_)
      clear hK K
      clear hS1 hS
      refine wpAnyH_done (by kernel_rfl) ?_ _
      go_simp
      go_wp2_with fail
      go_meet
      case rel => exact ⟨_, a1, a2, a3, a4, rfl, HX⟩
  case rest =>
  obtain ⟨b12, x1, x2, x3, x4, rfl, HO⟩ := hcut
  have Ek : Hid (E1 X0 b6 c r v ys m W (.slice s1 ys.length s2) (.slice s3 m s4) wc) := Ej.out.later HO.out.2.1
  have Gk : Hid (planB wc w4.heap.size c r v (.slice t1 ys.length t2) (.slice t3 m t4) ∧ Numb wc w3.heap.size ys.length m (.slice t1 ys.length t2) (.slice t3 m t4)) := ⟨Gj.out.1.later HO.out.2.1, Gj.out.2.later HO.out.2.1⟩
  obtain ⟨⟨y0, y1, y2, y3, y4⟩, _⟩ := HO.out.2.2.1
  obtain ⟨⟨a0, a1, a2, a3, a4⟩, _⟩ := Ek.out.2.1
  go_wp2_with fail
  refine (eqPlan_same c r v ys m W _ _ _ _ w11.heap.size X0.heap.size _ HO.out.2.2.2 Ek.out.2.2 hx hm).mono ?_
  rintro e w12 ⟨rfl, q12⟩
  have El : Hid (Below X0.heap.size X0 w12) := Ek.out.1.trans (q12.mono Ek.out.1.size)
  have Gl : Hid (planB w12 w4.heap.size c r v (.slice t1 ys.length t2) (.slice t3 m t4) ∧ Numb w12 w3.heap.size ys.length m (.slice t1 ys.length t2) (.slice t3 m t4)) := ⟨Gk.out.1.later q12, Gk.out.2.later q12⟩
  clear q12 Ek Gk HO Ej Gj y0 y1 y2 y3 y4 a0 a1 a2 a3 a4
  obtain ⟨⟨g0, g1, g2, g3, g4⟩, _⟩ := Gl.out.1
  go_wp2_with fail
  refine (heldPlan_any c r v ys.length m _ _ w3.heap.size _ Gl.out.2 hx hm).mono ?_
  rintro e w13 ⟨rfl, q13⟩
  have HE : Hid (Below w.heap.size w w13) := HB0.out.trans ((El.out.trans (q13.mono El.out.size)).mono (by rw [HSZ.out]; omega))
  clear q13 El Gl g0 g1 g2 g3 g4
  go_wp2
  go_ret
  exact ⟨rfl, HE.out⟩
end Go.Proofs.Ytegfpgdipmfgfaa

