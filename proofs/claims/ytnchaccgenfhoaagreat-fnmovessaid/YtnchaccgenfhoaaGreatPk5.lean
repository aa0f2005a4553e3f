/-
  Own text, merged of FsW, FsX, KeysD, TreA, EntA, PaiJ, TreB, TreC, TreD.
-/
import Derived.Test.YtnchaccgenfhoaaGreatPk4
namespace Go.Proofs.YtnchaccgenfhoaaGreat
open Go.RowKit

theorem as_wrong (r : Int) (w : World) : (Instr.typeAssert (.iface 146 (.int .i64 r)) 20 146 true).run Tryz.prog w = .ok (.tuple #[.int .i64 r, .bool true]) w := by kernel_rfl
theorem as_nil (w : World) : (Instr.typeAssert .nilIface 20 146 true).run Tryz.prog w = .ok (.tuple #[.int .i64 0, .bool false]) w := by kernel_rfl
theorem PBk.blk {x : World} {b : Nat} (h : PBk x b) (a0 a1 a2 a3 a4 : Value) : BlkP (x.setRow b #[a0, a1, a2, a3, a4]) b a0 a1 a2 a3 a4 := by
  obtain ⟨old, hg, _⟩ := h
  have e : (x.setRow b #[a0, a1, a2, a3, a4]).heap[b]? = some (.cells #[a0, a1, a2, a3, a4] 81 (0, 0)) := by simp [World.setRow, Array.getElem?_modify, hg]
  refine ⟨⟨?_, ?_, ?_, ?_, ?_⟩, ?_, ?_, ?_, ?_, ?_⟩ <;> simp [World.cell?, World.frozen?, e]
set_option maxRecDepth 100000 in
set_option maxHeartbeats 2000000 in
theorem catch_panicking (pb lb b : Nat) (u0 u1 : Value) (ao : Option Addr) (nr cp : Nat) (r : Int) (older : List PanicEntry) (w : World) (hP : PBk w pb) (hL : w.cell? ⟨lb, 0, none⟩ = some (.pointer (some ⟨b, 0, none⟩))) (hB : Blk3 w b u0 u1 (.slice ao nr cp)) (hne : b ≠ pb) (hnl : lb ≠ pb) :
    CallsD Tryz.prog 100 #[.pointer (some ⟨pb, 0, none⟩), .pointer (some ⟨lb, 0, none⟩)] (.panicking ({ v := .iface 146 (.int .i64 r), recovered := false } :: older)) w fun e u' w' =>
      e = .returned (.tuple #[]) ∧ u' = .panicking ({ v := .iface 146 (.int .i64 r), recovered := true } :: older) ∧ w' = (w.setRow pb #[.int .i64 0, .int .i64 r, .int .i64 0, .slice none 0 0, .slice none 0 0]).setCell ⟨pb, 3, none⟩ (.slice ao nr cp) := by
  have ha := fun w => as_wrong r w
  refine callsD_of_wpS Tryz.func100 rfl fun c₀ cs hu => ?_
  apply wpS_seq
  apply wpS_seq
  apply wpS_region
  simp [wpOpsS, go_sem, recoverD, hu, Tryz.ntmps100, Exit.thenS, ha]
  simp only [Array.replicate_succ, Array.replicate_zero, List.push_toArray, List.append_toArray, List.nil_append, List.cons_append, List.setIfInBounds_toArray, List.set_cons_zero, List.set_cons_succ]
  have HP : Hid (PBk w pb) := hP
  obtain ⟨⟨b0, b1, b2⟩, _⟩ := hB
  refine wpS_of_wp ?_
  go_wp2_with (refine wpList_storeP rfl _ _ rfl pb _ _ _ _ _ rfl rfl HP.out (by kernel_rfl) ?_)
  dsimp only [Exit.thenS]
  have hc1 : (w.setRow pb #[.int .i64 0, .int .i64 r, .int .i64 0, .slice none 0 0, .slice none 0 0]).cell? ⟨lb, 0, none⟩ = some (.pointer (some ⟨b, 0, none⟩)) := (World.cell?_of_block (w := w) (a := ⟨lb, 0, none⟩) (heap_setRow w pb _ lb hnl)).trans hL
  have hc2 : (w.setRow pb #[.int .i64 0, .int .i64 r, .int .i64 0, .slice none 0 0, .slice none 0 0]).cell? ⟨b, 2, none⟩ = some (.slice ao nr cp) := (World.cell?_of_block (w := w) (a := ⟨b, 2, none⟩) (heap_setRow w pb _ b hne)).trans b2
  obtain ⟨⟨c0, c1, c2, c3, c4⟩, f0, f1, f2, f3, f4⟩ := hP.blk (.int .i64 0) (.int .i64 r) (.int .i64 0) (.slice none 0 0) (.slice none 0 0)
  generalize w.setRow pb #[.int .i64 0, .int .i64 r, .int .i64 0, .slice none 0 0, .slice none 0 0] = w1 at hc1 hc2 c0 c1 c2 c3 c4 f0 f1 f2 f3 f4 ⊢
  clear hL b0 b1 b2 HP hP
  refine wpS_of_wp ?_
  go_wp2
  exact ⟨rfl, _, rfl, .tuple #[], by simp [results, Tryz.results100], rfl, rfl, rfl⟩
set_option maxRecDepth 100000 in
set_option maxHeartbeats 2000000 in
theorem catch_idle (pb lb b : Nat) (u0 u1 p0 p1 p2 p3 p4 : Value) (ao : Option Addr) (nr cp : Nat) (w : World) (hP : BlkP w pb p0 p1 p2 p3 p4) (hL : w.cell? ⟨lb, 0, none⟩ = some (.pointer (some ⟨b, 0, none⟩))) (hB : Blk3 w b u0 u1 (.slice ao nr cp)) :
    CallsD Tryz.prog 100 #[.pointer (some ⟨pb, 0, none⟩), .pointer (some ⟨lb, 0, none⟩)] .returning w fun e u' w' =>
      e = .returned (.tuple #[]) ∧ u' = .returning ∧ w' = w.setCell ⟨pb, 3, none⟩ (.slice ao nr cp) := by
  have ha := fun w => as_nil w
  obtain ⟨⟨b0, b1, b2⟩, _⟩ := hB
  obtain ⟨⟨c0, c1, c2, c3, c4⟩, f0, f1, f2, f3, f4⟩ := hP
  refine callsD_of_wpS Tryz.func100 rfl fun c₀ cs hu => ?_
  apply wpS_seq
  apply wpS_seq
  apply wpS_region
  simp [wpOpsS, go_sem, recoverD, hu, Tryz.ntmps100, Exit.thenS, ha]
  simp only [Array.replicate_succ, Array.replicate_zero, List.push_toArray, List.append_toArray, List.nil_append, List.cons_append, List.setIfInBounds_toArray, List.set_cons_zero, List.set_cons_succ]
  refine wpS_of_wp ?_
  go_wp2
  dsimp only [Exit.thenS]
  refine wpS_of_wp ?_
  go_wp2
  refine ⟨rfl, .returning, ?_, .tuple #[], by simp [results, Tryz.results100], rfl, rfl, rfl⟩
  cases c₀
  simp_all
/-- What plan tells. -/
def ToldP (w : World) (b mb : Nat) (vr : Value) (r v : Int) (ys : List Int) (m : Nat) (W : List Int) (e : Ending) (w' : World) : Prop :=
  ∃ vy vw, e = .returned (.agg #[.int .i64 0, .int .i64 r, .int .i64 v, vy, vw]) ∧ (Ints w' (b + 1) vy ys ∧ OwnM w' w.heap.size 132 3 vw m W ∧ ∀ k, vy.ownBlock = some k → vw.ownBlock ≠ some k) ∧ Keeps w w' b mb vr vy
abbrev ptrO (b : Nat) : Obj := .cells #[.pointer (some ⟨b, 0, none⟩)] 54
theorem pl_results {fn : Func} {p : Tmp} (h : fn.results = #[.cell p 81]) (tmps : Array Value) (w : World) (g : Nat) (a0 a1 a2 a3 a4 : Value) (hp : tmps.getD p undef = .pointer (some ⟨g, 0, none⟩)) (hP : BlkP w g a0 a1 a2 a3 a4) : (results fn tmps).run Tryz.prog w = .ok (.agg #[a0, a1, a2, a3, a4]) w := by
  have hp' : tmps[p]?.getD undef = .pointer (some ⟨g, 0, none⟩) := by simpa using hp
  exact results_plan h hp' hP
theorem told_end {w X : World} {b rb mb : Nat} {L : Prs} {ys W : List Int} {vy vw : Value} {m : Nat} {cs : Array Value} (hl : Looks X b rb mb L ys vy) (ho : Off X b mb vy (w.heap.size + 2)) (hw : OwnM X (w.heap.size + 3) 132 3 vw m W) (hd : ∀ k, vy.ownBlock = some k → vw.ownBlock ≠ some k) (_ : b < w.heap.size) :
    Ints ((X.setRow (w.heap.size + 2) cs).setCell ⟨w.heap.size + 2, 3, none⟩ vy) (b + 1) vy ys ∧ OwnM ((X.setRow (w.heap.size + 2) cs).setCell ⟨w.heap.size + 2, 3, none⟩ vy) w.heap.size 132 3 vw m W ∧ ∀ k, vy.ownBlock = some k → vw.ownBlock ≠ some k := by
  have kp : ∀ k, k ≠ w.heap.size + 2 → ((X.setRow (w.heap.size + 2) cs).setCell ⟨w.heap.size + 2, 3, none⟩ vy).heap[k]? = X.heap[k]? := fun k hk => (Below.heap_setCell _ ⟨w.heap.size + 2, 3, none⟩ _ k hk).trans (heap_setRow _ _ _ _ hk)
  have hi : OwnM X (b + 1) 2 1 vy ys.length ys := hl.2.2.2.1
  exact ⟨OwnM.keptB hi (fun k hk => kp k (fun e => ho.2.2.2 (by rw [← e]; exact hk))), OwnM.monoP (OwnM.kept hw fun g hg _ => kp g (by omega)) (by omega), hd⟩
set_option maxRecDepth 100000 in
set_option maxHeartbeats 4000000 in
theorem plan_is (L : Prs) (b rb mb : Nat) (vr : Value) (kd d n td tn vv : Int) (w : World) (h : Looks w b rb mb L [] vr) (hrs : Rises L) (hn : L.length ≤ 1000) (hfit : ∀ k, 0 ≤ (lookF L k).2 ∧ (lookF L k).2 ≤ 9999) (hkd : 1 ≤ kd ∧ kd ≤ 8) (hd : 0 ≤ d ∧ d ≤ 9) (hnm : 0 ≤ n ∧ n ≤ 5) (htd : 0 ≤ td ∧ td ≤ 9) (htn : 0 ≤ tn ∧ tn ≤ 5) (r v : Int) (ys : List Int) (m : Nat) (W : List Int) (hp : replyP L kd d n td tn vv = (r, v, ys, m, W)) :
    Calls Tryz.prog 79 #[.pointer (some ⟨b, 0, none⟩), .agg #[.int .i64 kd, .int .i64 d, .int .i64 n, .int .i64 td, .int .i64 tn, .int .i64 vv]] w (ToldP w b mb vr r v ys m W) := by
  have hmb : mb < w.heap.size := h.2.2.1.lt
  have hbw : b < w.heap.size := h.1.lt
  have hL3 : Looks (((w.alloc (ptrO b)).alloc (opO kd d n td tn vv)).alloc zeroPl) b rb mb L [] vr := ((h.alloc _).alloc _).alloc _
  have HC : Hid (Calls Tryz.prog 101 #[.pointer (some ⟨b, 0, none⟩), .agg #[.int .i64 kd, .int .i64 d, .int .i64 n, .int .i64 td, .int .i64 tn, .int .i64 vv]] (((w.alloc (ptrO b)).alloc (opO kd d n td tn vv)).alloc zeroPl) (PlanEnd (((w.alloc (ptrO b)).alloc (opO kd d n td tn vv)).alloc zeroPl) b rb mb L vr r v ys m W)) := compile_is L b rb mb vr kd d n td tn vv _ hL3 hrs hn hfit hkd hd hnm htd htn r v ys m W hp
  have HO : Hid ((Off (((w.alloc (ptrO b)).alloc (opO kd d n td tn vv)).alloc zeroPl) b mb vr w.heap.size ∧ Off (((w.alloc (ptrO b)).alloc (opO kd d n td tn vv)).alloc zeroPl) b mb vr (w.heap.size + 2)) ∧ Keeps w (((w.alloc (ptrO b)).alloc (opO kd d n td tn vv)).alloc zeroPl) b mb vr vr) := ⟨⟨h.off2 (Nat.le_refl _) (by simp; omega), h.off2 (by omega) (by simp)⟩, Keeps.below _ _ _ (below3 _ _ _ _)⟩
  have HP : Hid (PBk (((w.alloc (ptrO b)).alloc (opO kd d n td tn vv)).alloc zeroPl) (w.heap.size + 2) ∧ (((w.alloc (ptrO b)).alloc (opO kd d n td tn vv)).alloc zeroPl).cell? ⟨w.heap.size, 0, none⟩ = some (.pointer (some ⟨b, 0, none⟩))) := by
    refine ⟨?_, ?_⟩
    · have q := PBk.new ((w.alloc (ptrO b)).alloc (opO kd d n td tn vv)) (.int .i64 0) (.int .i64 0) (.int .i64 0) (.slice none 0 0) (.slice none 0 0)
      rwa [World.size_alloc, World.size_alloc] at q
    · exact (World.cell?_of_block (w := w.alloc (ptrO b)) (a := ⟨w.heap.size, 0, none⟩) (((below_alloc _ _).alloc (by simp) _).block w.heap.size (by simp))).trans (World.cell?_alloc_mark w _ _ _ 0)
  have hmf : ∀ (fn : Fn) (first cap : Array Value) (w : World), (Instr.makeFunc fn first cap).run Tryz.prog w = .ok (.func fn first cap) w := fun _ _ _ _ => rfl
  clear h hrs hfit hkd hd hnm htd htn hp hL3
  go_enter_defers Tryz.func79, Tryz.ntmps79
  go_wp2_with fail
  refine HC.out.mono ?_
  rintro e X ⟨vy, ⟨hl, hk⟩, ⟨rfl, vw, rfl, ho, hd⟩ | ⟨hr, rfl, rfl, rfl, rfl⟩⟩
  · obtain ⟨a1, a2, rfl⟩ := hl.2.2.2.1.form
    obtain ⟨a3, a4, rfl⟩ := OwnM.form ho
    have HX : Hid ((Looks X b rb mb L ys (.slice a1 ys.length a2) ∧ Keeps w X b mb vr (.slice a1 ys.length a2)) ∧ (PBk X (w.heap.size + 2) ∧ X.cell? ⟨w.heap.size, 0, none⟩ = some (.pointer (some ⟨b, 0, none⟩)) ∧ Off X b mb (.slice a1 ys.length a2) (w.heap.size + 2)) ∧ OwnM X (w.heap.size + 3) 132 3 (.slice a3 m a4) m W ∧ ∀ k, (Value.slice a1 ys.length a2).ownBlock = some k → (Value.slice a3 m a4).ownBlock ≠ some k) :=
      ⟨⟨hl, HO.out.2.trans hk⟩, ⟨HP.out.1.kept (hk.off HO.out.1.2).2, (World.cell?_of_block (a := ⟨w.heap.size, 0, none⟩) (hk.off HO.out.1.1).2).trans HP.out.2, (hk.off HO.out.1.2).1⟩, OwnM.monoP ho (by simp), hd⟩
    clear hl hk ho hd HC HO HP
    go_wp2_with (refine wpList_storeP rfl _ _ rfl (w.heap.size + 2) _ _ _ _ _ rfl rfl HX.out.2.1.1 (by kernel_rfl) ?_)
    have hbk := HX.out.2.1.1.blk (.int .i64 0) (.int .i64 0) (.int .i64 v) (.slice none 0 0) (.slice a3 m a4)
    refine leaves_cons (f := 100) (args := #[.pointer (some ⟨w.heap.size + 2, 0, none⟩), .pointer (some ⟨w.heap.size, 0, none⟩)]) (by simp) (by simp [go_sem]) ?_
    refine (catch_idle (w.heap.size + 2) w.heap.size b _ _ _ _ _ _ _ a1 ys.length a2 _ hbk ((World.cell?_of_block (w := X) (a := ⟨w.heap.size, 0, none⟩) (heap_setRow X _ _ _ (by first | omega | (simp; done) | (simp; omega)))).trans HX.out.2.1.2.1) (HX.out.1.1.1.kept (heap_setRow X _ _ _ (by omega)))).mono ?_
    rintro e u' w'' ⟨rfl, rfl, rfl⟩
    exact ⟨_, pl_results Tryz.results79 _ _ (w.heap.size + 2) _ _ _ _ _ rfl (hbk.set3 _), _, _, rfl, told_end HX.out.1.1 HX.out.2.1.2.2 HX.out.2.2.1 HX.out.2.2.2 (by omega), ((HX.out.1.2.offs (by rw [size_setRow]) (fun k hk => heap_setRow _ _ _ _ hk) ⟨rfl, rfl, rfl⟩ (by omega)).offs (by simp) (fun k hk => Below.heap_setCell _ ⟨w.heap.size + 2, 3, none⟩ _ k hk) ⟨rfl, rfl, rfl⟩ (by first | omega | (simp; done) | (simp; omega)))⟩
  · obtain ⟨a1, a2, rfl⟩ := hl.2.2.2.1.form
    have HX : Hid ((Looks X b rb mb L ys (.slice a1 ys.length a2) ∧ Keeps w X b mb vr (.slice a1 ys.length a2)) ∧ (PBk X (w.heap.size + 2) ∧ X.cell? ⟨w.heap.size, 0, none⟩ = some (.pointer (some ⟨b, 0, none⟩)) ∧ Off X b mb (.slice a1 ys.length a2) (w.heap.size + 2))) :=
      ⟨⟨hl, HO.out.2.trans hk⟩, ⟨HP.out.1.kept (hk.off HO.out.1.2).2, (World.cell?_of_block (a := ⟨w.heap.size, 0, none⟩) (hk.off HO.out.1.1).2).trans HP.out.2, (hk.off HO.out.1.2).1⟩⟩
    clear hl hk HC HO HP
    have hbk := HX.out.2.1.blk (.int .i64 0) (.int .i64 r) (.int .i64 0) (.slice none 0 0) (.slice none 0 0)
    refine leaves_cons (f := 100) (args := #[.pointer (some ⟨w.heap.size + 2, 0, none⟩), .pointer (some ⟨w.heap.size, 0, none⟩)]) (by simp) (by simp [go_sem]) ?_
    refine (catch_panicking (w.heap.size + 2) w.heap.size b _ _ a1 ys.length a2 r [] _ HX.out.2.1 HX.out.2.2.1 HX.out.1.1.1 (by omega) (by omega)).mono ?_
    rintro e u' w'' ⟨rfl, rfl, rfl⟩
    exact ⟨_, pl_results Tryz.results79 _ _ (w.heap.size + 2) _ _ _ _ _ rfl (hbk.set3 _), _, _, rfl, told_end HX.out.1.1 HX.out.2.2.2 (OwnM.nil _ _ _ _) (fun k _ e => by cases e) (by omega), ((HX.out.1.2.offs (by rw [size_setRow]) (fun k hk => heap_setRow _ _ _ _ hk) ⟨rfl, rfl, rfl⟩ (by omega)).offs (by simp) (fun k hk => Below.heap_setCell _ ⟨w.heap.size + 2, 3, none⟩ _ k hk) ⟨rfl, rfl, rfl⟩ (by first | omega | (simp; done) | (simp; omega)))⟩
end Go.Proofs.YtnchaccgenfhoaaGreat

namespace Go.Proofs.YtnchaccgenfhoaaGreat
open Go.RowKit

/-- The box of the operation and that of the plan. -/
def Bxo (w : World) (kd d nm td tn vv : Int) (X : World) : Prop := opB X w.heap.size kd d nm td tn vv ∧ PBk X (w.heap.size + 1)
theorem Bxo.later {w X X' : World} {kd d nm td tn vv : Int} (h : Bxo w kd d nm td tn vv X) (hb : Below X.heap.size X X') : Bxo w kd d nm td tn vv X' := ⟨h.1.later hb, h.2.later hb⟩
theorem Bxo.drew {w X : World} {kd d nm td tn vv : Int} (h : Bxo w kd d nm td tn vv X) : Bxo w kd d nm td tn vv X.drew := h.later ⟨rfl, rfl, rfl, Nat.le_refl _, fun _ _ => rfl⟩
theorem Bxo.new (w : World) (kd d nm td tn vv : Int) : Bxo w kd d nm td tn vv ((w.alloc (opO kd d nm td tn vv)).alloc zeroPl) := by
  refine ⟨(Blk6.new w _ _ _ _ _ _ _).alloc _, ?_⟩
  have q := PBk.new (w.alloc (opO kd d nm td tn vv)) (.int .i64 0) (.int .i64 0) (.int .i64 0) (.slice none 0 0) (.slice none 0 0)
  rwa [World.size_alloc] at q
theorem Bxo.rowed {w X : World} {kd d nm td tn vv : Int} (h : Bxo w kd d nm td tn vv X) (cs : Array Value) (hcs : cs.size = 5) : Bxo w kd d nm td tn vv (X.setRow (w.heap.size + 1) cs) := by
  refine ⟨h.1.kept (heap_setRow _ _ _ _ (by omega)), ?_⟩
  obtain ⟨old, hg, _⟩ := h.2
  exact ⟨cs, by simp [World.setRow, Array.getElem?_modify, hg], hcs⟩
theorem plan_kept {X : World} {B g : Nat} {xs W : List Int} {m : Nat} {vr vw : Value} {cs : Array Value} (h : PlanAt X B xs m W vr vw) (h1 : ∀ k, vr.ownBlock = some k → k ≠ g) (h2 : ∀ k, vw.ownBlock = some k → k ≠ g) : PlanAt (X.setRow g cs) B xs m W vr vw := by
  have hi : OwnM X B 2 1 vr xs.length xs := h.1
  exact ⟨OwnM.keptB hi (fun k hk => heap_setRow _ _ _ _ (h1 k hk)), OwnM.keptB h.2.1 (fun k hk => heap_setRow _ _ _ _ (h2 k hk)), h.2.2⟩
set_option maxRecDepth 100000 in
set_option maxHeartbeats 4000000 in
theorem implCompile_is (y : Value) (B n : Nat) (F : Nat → Int) (kd d nm td tn vv c : Int) (p : PRf) (w : World) (h : Row w B 2 n F y) (hn : n ≤ 1048576) (ha : CompAns n F kd d nm td tn vv c p) :
    Calls Tryz.prog 50 #[y, .agg #[.int .i64 kd, .int .i64 d, .int .i64 nm, .int .i64 td, .int .i64 tn, .int .i64 vv]] w (ResPlan w c p.1 p.2.1 p.2.2.1 p.2.2.2.1 p.2.2.2.2) := by
  have H : Hid (Row w B 2 n F y) := h
  clear h
  rcases ha with ⟨h1, rfl, rfl⟩ | ⟨h1, h2, rfl, rfl⟩ | ⟨h1, h2, rfl, rfl⟩
  · obtain ⟨f, hf⟩ : ∃ f, pairsF F n 0 = f := ⟨_, rfl⟩
    have HF : Hid (pairsF F n 0 = f ∧ True) := ⟨hf, trivial⟩
    have dd : (f != 0) = true := bne_iff_ne.2 (by rw [← hf]; exact h1)
    rw [hf]
    clear h1 hf
    go_enter Tryz.func50, Tryz.ntmps50
    go_wp2_with fail
    refine (implPairs_any _ B n F _ ((H.out.alloc _).alloc _) hn).mono ?_
    rintro e w1 ⟨rfl, q1⟩
    rw [HF.out.1]
    have H1 : Hid (Bxo w kd d nm td tn vv w1 ∧ Below w.heap.size w w1) := ⟨(Bxo.new w kd d nm td tn vv).later q1, ((below_alloc _ _).alloc (by simp) _).trans (q1.mono (by simp; omega))⟩
    clear q1
    go_wp2_with (refine wpList_storeP rfl _ _ rfl (w.heap.size + 1) _ _ _ _ _ rfl rfl H1.out.1.2 (by kernel_rfl) ?_)
    exact bodyPost_ret (v := .agg #[.int .i64 f, .int .i64 0, .int .i64 0, .slice none 0 0, .slice none 0 0]) (results_pl Tryz.results50 _ _ _ _ _ _ _ _ rfl H1.out.1.2) rfl ⟨_, _, rfl, ⟨Ints.nil _ _, OwnM.nil _ _ _ _, fun k hk => by cases hk⟩, below_row H1.out.2 (by omega) _⟩
  · obtain ⟨f, hf⟩ : ∃ f, opF kd d nm td tn vv = f := ⟨_, rfl⟩
    have HF : Hid (pairsF F n 0 = 0 ∧ opF kd d nm td tn vv = f) := ⟨h1, hf⟩
    have dd : (f != 0) = true := bne_iff_ne.2 (by rw [← hf]; exact h2)
    rw [hf]
    clear h1 h2 hf
    go_enter Tryz.func50, Tryz.ntmps50
    go_wp2_with fail
    refine (implPairs_any _ B n F _ ((H.out.alloc _).alloc _) hn).mono ?_
    rintro e w1 ⟨rfl, q1⟩
    rw [HF.out.1]
    have H1 : Hid (Bxo w kd d nm td tn vv w1 ∧ Below w.heap.size w w1) := ⟨(Bxo.new w kd d nm td tn vv).later q1, ((below_alloc _ _).alloc (by simp) _).trans (q1.mono (by simp; omega))⟩
    clear q1
    obtain ⟨⟨o0, o1, o2, o3, o4, o5⟩, _⟩ := H1.out.1.1
    go_wp2_with fail
    refine (implFsOp_any kd d nm td tn vv _).mono ?_
    rintro e w2 ⟨rfl, q2⟩
    have H1' : Hid (Bxo w kd d nm td tn vv w2 ∧ Below w.heap.size w w2) := ⟨H1.out.1.later q2, H1.out.2.trans (q2.mono H1.out.2.size)⟩
    clear q2 H1 o0 o1 o2 o3 o4 o5
    have H1 := H1'
    clear H1'
    rw [HF.out.2]
    go_wp2_with (refine wpList_storeP rfl _ _ rfl (w.heap.size + 1) _ _ _ _ _ rfl rfl H1.out.1.2 (by kernel_rfl) ?_)
    exact bodyPost_ret (v := .agg #[.int .i64 f, .int .i64 0, .int .i64 0, .slice none 0 0, .slice none 0 0]) (results_pl Tryz.results50 _ _ _ _ _ _ _ _ rfl H1.out.1.2) rfl ⟨_, _, rfl, ⟨Ints.nil _ _, OwnM.nil _ _ _ _, fun k hk => by cases hk⟩, below_row H1.out.2 (by omega) _⟩
  · obtain ⟨q, hq⟩ : ∃ q, replyP (listOf F n) kd d nm td tn vv = q := ⟨_, rfl⟩
    obtain ⟨r, v, ys, m, W⟩ := q
    rw [hq]
    have HF : Hid (pairsF F n 0 = 0 ∧ opF kd d nm td tn vv = 0 ∧ replyP (listOf F n) kd d nm td tn vv = (r, v, ys, m, W)) := ⟨h1, h2, hq⟩
    have HOB : Hid _ := op_bounds h2
    clear h1 h2 hq
    go_enter Tryz.func50, Tryz.ntmps50
    go_wp2_with fail
    refine (implPairs_any _ B n F _ ((H.out.alloc _).alloc _) hn).mono ?_
    rintro e w1 ⟨rfl, q1⟩
    rw [HF.out.1]
    have H1 : Hid (Bxo w kd d nm td tn vv w1 ∧ Below w.heap.size w w1) := ⟨(Bxo.new w kd d nm td tn vv).later q1, ((below_alloc _ _).alloc (by simp) _).trans (q1.mono (by simp; omega))⟩
    clear q1
    obtain ⟨⟨o0, o1, o2, o3, o4, o5⟩, _⟩ := H1.out.1.1
    go_wp2_with fail
    refine (implFsOp_any kd d nm td tn vv _).mono ?_
    rintro e w2 ⟨rfl, q2⟩
    have H1' : Hid (Bxo w kd d nm td tn vv w2 ∧ Below w.heap.size w w2) := ⟨H1.out.1.later q2, H1.out.2.trans (q2.mono H1.out.2.size)⟩
    clear q2 H1 o0 o1 o2 o3 o4 o5
    have H1 := H1'
    clear H1'
    rw [HF.out.2.1]
    go_upto_region 7 with fail
    refine wp_region_held_drew (S := Bxo w kd d nm td tn vv) (by kernel_rfl) H1.out.1.drew (fun hS => ?_)
    have HB2 : Hid (Below w.heap.size w w2.drew) := H1.out.2.drew
    clear H1
    generalize w2.drew = w2 at HB2 hS ⊢
    refine tkH 0 ?_ hS (fun wx hx => ?_) ?_; rotate_left
    · obtain ⟨⟨⟨hx0, hx1, hx2, hx3, hx4, hx5⟩, _⟩, _⟩ := hx; go_simp; try with_reducible rfl
    refine tkH 2 ?_ hS (fun wx hx => ?_) ?_; rotate_left
    · obtain ⟨⟨⟨hx0, hx1, hx2, hx3, hx4, hx5⟩, _⟩, _⟩ := hx; go_simp; try with_reducible rfl
    refine rdH 1 (fun K hK => ?_)
    go_simp
    go_wp2_with fail
    refine (lookAt_is (listOf F n) y B _ (row_list (H.out.later HB2.out)) (pairs_rise HF.out.1).1 (by rw [listOf_length]; have := (pairs_rise HF.out.1).2; omega)).mono ?_
    rintro e w3 ⟨b, rb, mb, rfl, l3, hrb, q3⟩
    have hS3 := hS.later q3
    have H3 : Hid (Looks w3 b rb mb (listOf F n) [] (.slice none 0 0) ∧ w2.heap.size ≤ rb ∧ Below w.heap.size w w3 ∧ w.heap.size + 1 < w2.heap.size) := ⟨l3, hrb, HB2.out.trans (q3.mono HB2.out.size), hS.2.lt⟩
    clear l3 hrb q3 HB2 hS
    go_wp2_with fail
    refine hK.out _ _ hS3 (fun hS => ?_)
    clear hK K
    clear hS3
    refine rdH 3 (fun K hK => ?_)
    go_simp
    go_wp2_with fail
    refine (plan_is (listOf F n) b rb mb _ kd d nm td tn vv _ H3.out.1 (pairs_rise HF.out.1).1 (by rw [listOf_length]; have := (pairs_rise HF.out.1).2; omega) (look_fits HF.out.1) HOB.out.1 HOB.out.2.1 HOB.out.2.2.1 HOB.out.2.2.2.1 HOB.out.2.2.2.2 r v ys m W HF.out.2.2).mono ?_
    rintro e w4 ⟨vy, vw, rfl, hA, k4⟩
    have hord := H3.out.1.2.2.2.2
    have hof : ∀ k, k < w2.heap.size → Off w3 b mb (.slice none 0 0) k := fun k hk => ⟨by have := H3.out.1.1.lt; have := H3.out.2.1; omega, by have := H3.out.2.1; omega, by have := H3.out.2.1; omega, fun e => by cases e⟩
    have hS4 : Bxo w kd d nm td tn vv w4 := ⟨hS.1.kept (k4.off (hof _ (by have := H3.out.2.2.2; omega))).2, hS.2.kept (k4.off (hof _ (by have := H3.out.2.2.2; omega))).2⟩
    have hB4 : Below w.heap.size w w4 := H3.out.2.2.1.trans (k4.toBelow H3.out.2.2.1.size (by have := H3.out.2.1; have := H3.out.2.2.2; omega) (by have := H3.out.2.1; have := H3.out.2.2.2; omega) (fun k hk => by cases hk))
    have hP4 : PlanAt w4 (w.heap.size + 2) ys m W vy vw := ⟨hA.1.mono (by have := H3.out.2.1; have := H3.out.2.2.2; omega), OwnM.monoP hA.2.1 (by have := H3.out.2.1; have := H3.out.2.2.2; have := H3.out.1.1.lt; omega), hA.2.2⟩
    obtain ⟨⟨a1, a2, rfl⟩, ⟨a3, a4, rfl⟩⟩ := hP4.form
    have H4 : Hid (Below w.heap.size w w4 ∧ PlanAt w4 (w.heap.size + 2) ys m W (.slice a1 ys.length a2) (.slice a3 m a4)) := ⟨hB4, hP4⟩
    clear hA k4 hord hof hB4 hP4 hS H3
    go_wp2_with fail
    refine hK.out _ _ hS4 (fun hS => ?_)
    clear hK K
    clear hS4
    refine rdH 4 (fun K hK => ?_)
    refine step_storeP rfl _ _ rfl (w.heap.size + 1) _ _ _ _ _ rfl rfl hS.2 (by kernel_rfl) ?_
    have HS5 : Hid (PBk w4 (w.heap.size + 1)) := hS.2
    have hS5 := hS.rowed #[.int .i64 0, .int .i64 r, .int .i64 v, .slice a1 ys.length a2, .slice a3 m a4] rfl
    clear hS
    refine hK.out _ _ hS5 (fun hS => ?_)
    clear hK K
    clear hS5
    refine wpAnyH_done (by kernel_rfl) ?_ _
    go_simp
    go_wp2
    exact bodyPost_ret (v := .agg #[.int .i64 0, .int .i64 r, .int .i64 v, .slice a1 ys.length a2, .slice a3 m a4]) (results_pl Tryz.results50 _ _ _ _ _ _ _ _ rfl HS5.out) rfl ⟨_, _, rfl, PlanAt.up (plan_kept H4.out.2 (fun k hk => by have := (H4.out.2.1.lt k hk).1; omega) (fun k hk => by have := (OwnM.block H4.out.2.2.1 k hk).1; omega)) (by omega), below_row H4.out.1 (by omega) _⟩
end Go.Proofs.YtnchaccgenfhoaaGreat

namespace Go.Proofs.YtnchaccgenfhoaaGreat
open Go.RowKit

def partK (key : Int) : Int := if faultOf key = 0 then kindAt key else 0
def partA (key : Int) : Int := if faultOf key = 0 then (if kindAt key = 2 then (key - 20) / 10 else key - firstAt key) else 0
def partB (key : Int) : Int := if faultOf key = 0 then (if kindAt key = 2 then key % 10 else 0) else 0
theorem parts_bad {key : Int} (h : faultOf key ≠ 0) : partK key = 0 ∧ partA key = 0 ∧ partB key = 0 := by
  unfold partK partA partB; rw [if_neg h, if_neg h, if_neg h]; exact ⟨rfl, rfl, rfl⟩
theorem parts_ok {key : Int} (h : faultOf key = 0) : partK key = kindAt key ∧ partA key = (if kindAt key = 2 then (key - 20) / 10 else key - firstAt key) ∧ partB key = (if kindAt key = 2 then key % 10 else 0) := by
  unfold partK partA partB; rw [if_pos h, if_pos h, if_pos h]; exact ⟨rfl, rfl, rfl⟩
theorem fault_zero {key : Int} (h : faultOf key = 0) : key = 0 ∨ (10 ≤ key ∧ key ≤ 19) ∨ (180 ≤ key ∧ key ≤ 189) ∨ (20 ≤ key ∧ key ≤ 119 ∧ key % 10 ≤ 5) := by
  apply Classical.byContradiction; intro hn
  by_cases h1 : key < 0 ∨ 199 < key
  · rw [faultOf_range h1] at h; omega
  · rw [faultOf_form (by omega) (by omega) hn] at h; omega
/-- The ways of a key: it has a fault, or it is of one of the four kinds. -/
theorem parts_ways (key : Int) :
    (faultOf key ≠ 0 ∧ partK key = 0 ∧ partA key = 0 ∧ partB key = 0)
    ∨ (key = 0 ∧ faultOf key = 0 ∧ partK key = 0 ∧ partA key = 0 ∧ partB key = 0)
    ∨ (10 ≤ key ∧ key ≤ 19 ∧ faultOf key = 0 ∧ partK key = 1 ∧ partA key = key - 10 ∧ partB key = 0)
    ∨ (20 ≤ key ∧ key ≤ 119 ∧ key % 10 ≤ 5 ∧ faultOf key = 0 ∧ partK key = 2 ∧ partA key = (key - 20) / 10 ∧ partB key = key % 10)
    ∨ (180 ≤ key ∧ key ≤ 189 ∧ faultOf key = 0 ∧ partK key = 3 ∧ partA key = key - 180 ∧ partB key = 0) := by
  by_cases h : faultOf key = 0
  · right
    obtain ⟨hk, ha, hb⟩ := parts_ok h
    rcases fault_zero h with rfl | ⟨h1, h2⟩ | ⟨h1, h2⟩ | ⟨h1, h2, h3⟩
    · obtain ⟨e1, e2⟩ := kindAt_0 (key := 0) (by omega)
      rw [e1] at hk; rw [e1, if_neg (by omega), e2] at ha; rw [e1, if_neg (by omega)] at hb
      exact Or.inl ⟨rfl, h, hk, ha, hb⟩
    · obtain ⟨e1, e2⟩ := kindAt_1 h1 (by omega)
      rw [e1] at hk; rw [e1, if_neg (by omega), e2] at ha; rw [e1, if_neg (by omega)] at hb
      exact Or.inr (Or.inl ⟨h1, h2, h, hk, ha, hb⟩)
    · obtain ⟨e1, e2⟩ := kindAt_3 h1
      rw [e1] at hk; rw [e1, if_neg (by omega), e2] at ha; rw [e1, if_neg (by omega)] at hb
      exact Or.inr (Or.inr (Or.inr ⟨h1, h2, h, hk, ha, hb⟩))
    · obtain ⟨e1, e2⟩ := kindAt_2 h1 (by omega)
      rw [e1] at hk; rw [e1, if_pos rfl] at ha; rw [e1, if_pos rfl] at hb
      exact Or.inr (Or.inr (Or.inl ⟨h1, h2, h3, h, hk, ha, hb⟩))
  · exact Or.inl ⟨h, parts_bad h⟩

/-- What both answer. -/
def partsVal (key : Int) : Value := .agg #[.int .i64 (faultOf key), .int .i64 (partK key), .int .i64 (partA key), .int .i64 (partB key)]
def partsObj (key : Int) : Obj := .cells #[.int .i64 (faultOf key), .int .i64 (partK key), .int .i64 (partA key), .int .i64 (partB key)] 97

set_option maxHeartbeats 1000000 in
theorem implPartsOf_any (key : Int) (w : World) :
    Calls Tryz.prog 64 #[.int .i64 key] w fun e w' => e = .returned (partsVal key) ∧ w' = w.alloc (partsObj key) := by
  unfold partsVal partsObj
  rcases parts_ways key with ⟨h, e1, e2, e3⟩ | ⟨rfl, h, e1, e2, e3⟩ | ⟨h1, h2, h, e1, e2, e3⟩ | ⟨h1, h2, h3, h, e1, e2, e3⟩ | ⟨h1, h2, h, e1, e2, e3⟩
  · rw [e1, e2, e3]; clear e1 e2 e3
    have hF := fun w => keyFault_any key w
    generalize faultOf key = c at *
    have HF : Hid (∀ w, Calls Tryz.prog 62 #[.int .i64 key] w fun e w' => e = .returned (.int .i64 c) ∧ w' = w) := hF
    clear hF
    have d : (c != 0) = true := by rw [bne_iff_ne]; exact h
    go_enter Tryz.func64, Tryz.ntmps64
    go_wp2_with fail
    refine (HF.out _).mono ?_
    rintro e w' ⟨rfl, rfl⟩
    go_wp2
    exact bodyPost_ret (v := .agg #[.int .i64 c, .int .i64 0, .int .i64 0, .int .i64 0]) (by simp [results, Tryz.results64, go_sem]) rfl ⟨rfl, rfl⟩
  · have HE := kindAt_0 (key := 0) (by omega)
    rw [e1, e2, e3, h]; clear e1 e2 e3
    have HF : Hid (∀ w, Calls Tryz.prog 62 #[.int .i64 0] w fun e w' => e = .returned (.int .i64 0) ∧ w' = w) := fun w => by have := keyFault_any 0 w; rw [h] at this; exact this
    clear h
    go_enter Tryz.func64, Tryz.ntmps64
    go_wp2_with fail
    refine (HF.out _).mono ?_
    rintro e w' ⟨rfl, rfl⟩
    go_wp2_with fail
    refine (tellKey_any _ _ (by omega) (by omega)).mono ?_
    rintro e w' ⟨rfl, rfl⟩
    rw [HE.1, HE.2]; clear HE
    go_wp2_with fail
    refine (partsTold_other _ _ _ (by omega) (by omega) rfl (by omega) (by omega)).mono ?_
    rintro e w' ⟨rfl, rfl⟩
    go_wp2
    exact bodyPost_ret (v := .agg #[.int .i64 0, .int .i64 0, .int .i64 0, .int .i64 0]) (by simp [results, Tryz.results64, go_sem]) rfl ⟨rfl, rfl⟩
  · have HE := kindAt_1 h1 (by omega)
    rw [e1, e2, e3, h]; clear e1 e2 e3
    have HF : Hid (∀ w, Calls Tryz.prog 62 #[.int .i64 key] w fun e w' => e = .returned (.int .i64 0) ∧ w' = w) := fun w => by have := keyFault_any key w; rw [h] at this; exact this
    clear h
    go_enter Tryz.func64, Tryz.ntmps64
    go_wp2_with fail
    refine (HF.out _).mono ?_
    rintro e w' ⟨rfl, rfl⟩
    go_wp2_with fail
    refine (tellKey_any _ _ (by omega) (by omega)).mono ?_
    rintro e w' ⟨rfl, rfl⟩
    rw [HE.1, HE.2]; clear HE
    go_wp2_with fail
    refine (partsTold_other _ _ _ (by omega) (by omega) rfl (by omega) (by omega)).mono ?_
    rintro e w' ⟨rfl, rfl⟩
    go_wp2
    exact bodyPost_ret (v := .agg #[.int .i64 0, .int .i64 1, .int .i64 (key - 10), .int .i64 0]) (by simp [results, Tryz.results64, go_sem]) rfl ⟨rfl, rfl⟩
  · have HE := kindAt_2 h1 (by omega)
    have em : (key - 20) % 10 = key % 10 := by omega
    have Hem : Hid ((key - 20) % 10 = key % 10) := em
    clear em
    rw [e1, e2, e3, h]; clear e1 e2 e3
    have HF : Hid (∀ w, Calls Tryz.prog 62 #[.int .i64 key] w fun e w' => e = .returned (.int .i64 0) ∧ w' = w) := fun w => by have := keyFault_any key w; rw [h] at this; exact this
    clear h
    go_enter Tryz.func64, Tryz.ntmps64
    go_wp2_with fail
    refine (HF.out _).mono ?_
    rintro e w' ⟨rfl, rfl⟩
    go_wp2_with fail
    refine (tellKey_any _ _ (by omega) (by omega)).mono ?_
    rintro e w' ⟨rfl, rfl⟩
    rw [HE.1, HE.2]; clear HE
    go_wp2_with fail
    refine (partsTold_entry _ _ (by omega) (by omega)).mono ?_
    rintro e w' ⟨rfl, rfl⟩
    rw [Hem.out]; clear Hem
    go_wp2
    exact bodyPost_ret (v := .agg #[.int .i64 0, .int .i64 2, .int .i64 ((key - 20) / 10), .int .i64 (key % 10)]) (by simp [results, Tryz.results64, go_sem]) rfl ⟨rfl, rfl⟩
  · have HE := kindAt_3 h1
    rw [e1, e2, e3, h]; clear e1 e2 e3
    have HF : Hid (∀ w, Calls Tryz.prog 62 #[.int .i64 key] w fun e w' => e = .returned (.int .i64 0) ∧ w' = w) := fun w => by have := keyFault_any key w; rw [h] at this; exact this
    clear h
    go_enter Tryz.func64, Tryz.ntmps64
    go_wp2_with fail
    refine (HF.out _).mono ?_
    rintro e w' ⟨rfl, rfl⟩
    go_wp2_with fail
    refine (tellKey_any _ _ (by omega) (by omega)).mono ?_
    rintro e w' ⟨rfl, rfl⟩
    rw [HE.1, HE.2]; clear HE
    go_wp2_with fail
    refine (partsTold_other _ _ _ (by omega) (by omega) rfl (by omega) (by omega)).mono ?_
    rintro e w' ⟨rfl, rfl⟩
    go_wp2
    exact bodyPost_ret (v := .agg #[.int .i64 0, .int .i64 3, .int .i64 (key - 180), .int .i64 0]) (by simp [results, Tryz.results64, go_sem]) rfl ⟨rfl, rfl⟩
end Go.Proofs.YtnchaccgenfhoaaGreat

namespace Go.Proofs.YtnchaccgenfhoaaGreat
open Go.RowKit

/-- The entries of a view: of which directory each is, and what hangs there. -/
def lnkL : Prs → Prs
  | [] => []
  | e :: t => (if partK e.1 = 2 then [(partA e.1, e.2)] else []) ++ lnkL t
/-- Those of one inode. -/
def toL (K : Prs) (a : Int) : Prs := K.filter fun l => l.2 == a
def linkN (L : Prs) (a : Int) : Nat := (toL (lnkL L) a).length
theorem lnkL_append : ∀ (L M : Prs), lnkL (L ++ M) = lnkL L ++ lnkL M
  | [], _ => rfl
  | e :: t, M => by simp only [List.cons_append, lnkL, lnkL_append t M, List.append_assoc]
theorem lnkL_len : ∀ (L : Prs), (lnkL L).length ≤ L.length
  | [] => Nat.le_refl _
  | e :: t => by
    have := lnkL_len t
    simp only [lnkL, List.length_append, List.length_cons]
    split <;> simp <;> omega
theorem toL_len (K : Prs) (a : Int) : (toL K a).length ≤ K.length := List.length_filter_le _ _
theorem take_snoc {L : Prs} {k : Nat} (hk : k < L.length) : L.take (k + 1) = L.take k ++ [L.getD k (0, 0)] := by
  rw [List.take_add_one, List.getD_eq_getElem?_getD, List.getElem?_eq_getElem hk]
  rfl
theorem lnk_step {L : Prs} {k : Nat} (hk : k < L.length) {n0 n1 : Int} (h0 : (L.getD k (0, 0)).1 = n0) (h1 : (L.getD k (0, 0)).2 = n1) : lnkL (L.take (k + 1)) = lnkL (L.take k) ++ (if partK n0 = 2 then [(partA n0, n1)] else []) := by
  rw [take_snoc hk, lnkL_append, ← h0, ← h1]
  simp only [lnkL, List.append_nil]
theorem linkN_step {L : Prs} {k : Nat} (hk : k < L.length) {n0 n1 : Int} (h0 : (L.getD k (0, 0)).1 = n0) (h1 : (L.getD k (0, 0)).2 = n1) (a : Int) : linkN (L.take (k + 1)) a = linkN (L.take k) a + (if partK n0 = 2 ∧ n1 = a then 1 else 0) := by
  unfold linkN
  rw [lnk_step hk h0 h1]
  unfold toL
  rw [List.filter_append, List.length_append]
  congr 1
  by_cases h : partK n0 = 2
  · by_cases h2 : n1 = a
    · rw [if_pos h, if_pos ⟨h, h2⟩]; simp [h2]
    · rw [if_pos h, if_neg (fun q => h2 q.2)]; simp [h2]
  · rw [if_neg h, if_neg (fun q => h q.1)]; rfl
theorem linkN_take (L : Prs) (a : Int) : linkN (L.take L.length) a = linkN L a := by rw [List.take_length]
/-- All keys of a list are keys. -/
def KeysOk (L : Prs) : Prop := ∀ k, k < L.length → faultOf (L.getD k (0, 0)).1 = 0
theorem pairs_keys {F : Nat → Int} {n : Nat} (h : pairsF F n 0 = 0) : KeysOk (listOf F n) := fun k hk => by
  rw [listOf_length] at hk
  rw [listOf_get hk]
  have := pairsF_all h k hk
  rw [Nat.zero_add] at this
  exact (pairF_zero this).1
set_option maxHeartbeats 1000000 in
theorem l1Parts_is (key : Int) (hf : faultOf key = 0) (w : World) :
    Calls Tryz.prog 57 #[.int .i64 key] w fun e w' => e = .returned (.tuple #[.int .i64 (partK key), .int .i64 (partA key), .int .i64 (partB key)]) ∧ w' = w := by
  rcases parts_ways key with ⟨h, e1, e2, e3⟩ | ⟨rfl, h, e1, e2, e3⟩ | ⟨h1, h2, h, e1, e2, e3⟩ | ⟨h1, h2, h3, h, e1, e2, e3⟩ | ⟨h1, h2, h, e1, e2, e3⟩
  · exact absurd hf h
  · rw [e1, e2, e3]; clear e1 e2 e3 hf h
    go_enter Tryz.func57, Tryz.ntmps57
    go_wp2
    go_ret3
    exact ⟨rfl, rfl⟩
  · rw [e1, e2, e3]; clear e1 e2 e3 hf h
    have d0 : (key == 0) = false := beq_eq_false_iff_ne.2 (by omega)
    have d1 : decide (key < 20) = true := decide_eq_true (by omega)
    go_enter Tryz.func57, Tryz.ntmps57
    go_wp2
    go_ret3
    exact ⟨rfl, rfl⟩
  · rw [e1, e2, e3]; clear e1 e2 e3 hf h h3
    have d0 : (key == 0) = false := beq_eq_false_iff_ne.2 (by omega)
    have d1 : decide (key < 20) = false := decide_eq_false (by omega)
    have d2 : decide (key < 180) = true := decide_eq_true (by omega)
    go_enter Tryz.func57, Tryz.ntmps57
    go_wp2
    go_ret3
    exact ⟨rfl, rfl⟩
  · rw [e1, e2, e3]; clear e1 e2 e3 hf h
    have d0 : (key == 0) = false := beq_eq_false_iff_ne.2 (by omega)
    have d1 : decide (key < 20) = false := decide_eq_false (by omega)
    have d2 : decide (key < 180) = false := decide_eq_false (by omega)
    go_enter Tryz.func57, Tryz.ntmps57
    go_wp2
    go_ret3
    exact ⟨rfl, rfl⟩
set_option maxRecDepth 100000 in
set_option maxHeartbeats 2000000 in
theorem l14Links_is (L : Prs) (v : Value) (B : Nat) (a : Int) (w : World) (h : Row w B 2 L.length (rowL L) v) (hn : L.length ≤ 1000) (hf : KeysOk L) :
    Calls Tryz.prog 84 #[v, .int .i64 a] w fun e w' => e = .returned (.int .i64 (linkN L a)) ∧ w' = w := by
  obtain ⟨ao, cp, rfl⟩ := h.form
  have H : Hid (Row w B 2 L.length (rowL L) (.slice ao L.length cp) ∧ KeysOk L) := ⟨h, hf⟩
  clear h hf
  go_enter Tryz.func84, Tryz.ntmps84
  go_wp2
  go_loopw [5, 6] (fun n i wr => ∃ k c : Nat, k ≤ L.length ∧ i = .int .i64 k ∧ n = .int .i64 c ∧ c ≤ k ∧ Hid (linkN (L.take k) a = c) ∧ wr = w) (fun _ i _ => L.length - (intOf i).toNat)
  case atStart => exact ⟨0, 0, Nat.zero_le _, rfl, rfl, Nat.le_refl _, rfl, rfl⟩
  case round =>
    obtain ⟨k, c, hk, rfl, rfl, hc, HC, rfl⟩ := hrel
    by_cases hlt : k < L.length
    case neg =>
      obtain rfl : k = L.length := by omega
      have HE : Hid (linkN L a = c) := (linkN_take L a).symm.trans HC.out
      clear HC
      go_wp2
      go_ret
      rw [HE.out]
      exact ⟨rfl, rfl⟩
    obtain ⟨g, o, hao, _, hg, y0, y1⟩ := H.out.1.at2 hlt
    subst hao
    rw [rowL_key] at y0
    rw [rowL_val] at y1
    obtain ⟨n0, N0⟩ : ∃ x, (L.getD k (0, 0)).1 = x := ⟨_, rfl⟩
    rw [N0] at y0
    obtain ⟨n1, N1⟩ : ∃ x, (L.getD k (0, 0)).2 = x := ⟨_, rfl⟩
    rw [N1] at y1
    have HF : Hid (faultOf n0 = 0) := by have := H.out.2 k hlt; rwa [N0] at this
    obtain ⟨s, hs⟩ : ∃ s, linkN (L.take (k + 1)) a = s := ⟨_, rfl⟩
    have HS : Hid (linkN (L.take (k + 1)) a = s) := hs
    have hst := linkN_step hlt N0 N1 a
    rw [hs, HC.out] at hst
    obtain ⟨kk, hkk⟩ : ∃ x, partK n0 = x := ⟨_, rfl⟩
    obtain ⟨ka, hka⟩ : ∃ x, partA n0 = x := ⟨_, rfl⟩
    obtain ⟨kb, hkb⟩ : ∃ x, partB n0 = x := ⟨_, rfl⟩
    have HK : Hid (partK n0 = kk ∧ partA n0 = ka ∧ partB n0 = kb) := ⟨hkk, hka, hkb⟩
    rw [hkk] at hst
    clear hs N0 N1 hkk hka hkb HC
    have hsk : s ≤ k + 1 := by rw [hst]; split <;> omega
    by_cases h2 : kk = 2
    · by_cases h3 : n1 = a
      · obtain rfl : s = c + 1 := by rw [hst, if_pos ⟨h2, h3⟩]
        clear hst
        subst h2
        have d2 : (n1 == a) = true := beq_iff_eq.2 h3
        clear h3
        go_wp2_with fail
        refine (l1Parts_is n0 HF.out _).mono ?_
        rintro e w9 ⟨rfl, hw9⟩
        obtain rfl := hw9.symm
        rw [HK.out.1, HK.out.2.1, HK.out.2.2]
        go_wp2
        go_roundw
        case rel => exact ⟨k + 1, c + 1, by omega, by go_num, by go_num, by omega, HS, trivial⟩
        case measure => simp [intOf]; omega
      · obtain rfl : s = c := by rw [hst, if_neg (fun q => h3 q.2)]; rfl
        clear hst
        subst h2
        have d2 : (n1 == a) = false := beq_eq_false_iff_ne.2 h3
        clear h3
        go_wp2_with fail
        refine (l1Parts_is n0 HF.out _).mono ?_
        rintro e w9 ⟨rfl, hw9⟩
        obtain rfl := hw9.symm
        rw [HK.out.1, HK.out.2.1, HK.out.2.2]
        go_wp2
        go_roundw
        case rel => exact ⟨k + 1, s, by omega, by go_num, rfl, by omega, HS, trivial⟩
        case measure => simp [intOf]; omega
    · obtain rfl : s = c := by rw [hst, if_neg (fun q => h2 q.1)]; rfl
      clear hst
      have d2 : (kk == 2) = false := beq_eq_false_iff_ne.2 h2
      clear h2
      go_wp2_with fail
      refine (l1Parts_is n0 HF.out _).mono ?_
      rintro e w9 ⟨rfl, hw9⟩
      obtain rfl := hw9.symm
      rw [HK.out.1, HK.out.2.1, HK.out.2.2]
      go_wp2
      go_roundw
      case rel => exact ⟨k + 1, s, by omega, by go_num, rfl, by omega, HS, trivial⟩
      case measure => simp [intOf]; omega
/-- What LinksTo answers. -/
def LnkAns (n : Nat) (F : Nat → Int) (a c z : Int) : Prop :=
  (pairsF F n 0 ≠ 0 ∧ c = pairsF F n 0 ∧ z = 0) ∨ (pairsF F n 0 = 0 ∧ ¬ (0 ≤ a ∧ a ≤ 9) ∧ c = 3 ∧ z = 0) ∨ (pairsF F n 0 = 0 ∧ (0 ≤ a ∧ a ≤ 9) ∧ c = 0 ∧ z = linkN (listOf F n) a)
theorem LnkAns.get (n : Nat) (F : Nat → Int) (a : Int) : ∃ c z, LnkAns n F a c z := by
  by_cases h : pairsF F n 0 = 0
  · by_cases h2 : 0 ≤ a ∧ a ≤ 9
    · exact ⟨0, _, Or.inr (Or.inr ⟨h, h2, rfl, rfl⟩)⟩
    · exact ⟨3, 0, Or.inr (Or.inl ⟨h, h2, rfl, rfl⟩)⟩
  · exact ⟨_, 0, Or.inl ⟨h, rfl, rfl⟩⟩
end Go.Proofs.YtnchaccgenfhoaaGreat

namespace Go.Proofs.YtnchaccgenfhoaaGreat
open Go.RowKit

/-- Only a list of the caller's own has turned. -/
theorem Looks.grew {X X' : World} {b rb mb B : Nat} {L : Prs} {zs : List Int} {vz u : Value} (h : Looks X b rb mb L zs vz) (hl : ∀ k, u.ownBlock = some k → B ≤ k) (hb : b < B) (hd : ∀ k, vz.ownBlock = some k → u.ownBlock ≠ some k) (hk : ∀ k, k < X.heap.size → u.ownBlock ≠ some k → X'.heap[k]? = X.heap[k]?) : Looks X' b rb mb L zs vz := by
  have low : ∀ k, k < X.heap.size → k < B → X'.heap[k]? = X.heap[k]? := fun k h1 h2 => hk k h1 (fun e => by have := hl k e; omega)
  have hi : OwnM X (b + 1) 2 1 vz zs.length zs := h.2.2.2.1
  have ho := h.2.2.2.2
  exact ⟨h.1.kept (low b h.1.lt hb), h.2.1.kept (fun k h1 h2 => low k h1 (by omega)) ho.1, h.2.2.1.kept (low mb h.2.2.1.lt (by omega)), OwnM.keptB hi (fun k hq => hk k (OwnM.block hi k hq).2 (hd k hq)), ho⟩
theorem Blk2.set1E {x : World} {b : Nat} {a0 a1 : Value} (h : Blk2 x b a0 a1) (u : Value) : Blk2 (x.setCell ⟨b, 1, none⟩ u) b a0 u := by
  obtain ⟨⟨h0, h1⟩, f0, f1⟩ := h
  exact ⟨⟨(World.cell?_setCell_other _ _ _ _ (by simp)).trans h0, World.cell?_setCell_same _ _ _ h1⟩, by simpa using f0, by simpa using f1⟩
end Go.Proofs.YtnchaccgenfhoaaGreat

namespace Go.Proofs.YtnchaccgenfhoaaGreat
open Go.RowKit

/-- The numbers of a list of pairs, as a list. -/
def flatL : Prs → List Int
  | [] => []
  | e :: t => e.1 :: e.2 :: flatL t
theorem flatL_length : ∀ L, (flatL L).length = L.length * 2
  | [] => rfl
  | e :: t => by simp only [flatL, List.length_cons, flatL_length t]; omega
theorem flatL_append : ∀ (L M : Prs), flatL (L ++ M) = flatL L ++ flatL M
  | [], _ => rfl
  | e :: t, M => by simp only [List.cons_append, flatL, flatL_append t M]
theorem flatL_get : ∀ (L : Prs) (p : Nat), (flatL L).getD p 0 = rowL L p
  | [], p => by simp [flatL, rowL]
  | e :: t, 0 => rfl
  | e :: t, 1 => rfl
  | e :: t, p + 2 => by
    simp only [flatL, List.getD_cons_succ]
    rw [flatL_get t p, rowL, rowL, show (p + 2) % 2 = p % 2 by omega, show (p + 2) / 2 = p / 2 + 1 by omega, List.getD_cons_succ]
theorem ownM_own {w : World} {B : Nat} {v : Value} {L : Prs} (h : OwnM w B 61 2 v L.length (flatL L)) : Own w B 61 2 L.length (rowL L) v := own_eqP (h.own (flatL_length L)) fun p _ => flatL_get L p
theorem own_ownP {w : World} {B : Nat} {v : Value} {L : Prs} (h : Own w B 61 2 L.length (rowL L) v) : OwnM w B 61 2 v L.length (flatL L) := by
  unfold OwnM
  unfold Own at h
  have e : (flatL L).map (Value.int .i64) = vals (rowL L) (L.length * 2) := by
    refine List.ext_getElem? fun p => ?_
    unfold vals
    rw [List.getElem?_map, List.getElem?_map]
    by_cases hp : p < L.length * 2
    · rw [List.getElem?_range hp]
      have h1 := flatL_get L p
      rw [List.getD_eq_getElem?_getD] at h1
      have hp' : p < (flatL L).length := by rw [flatL_length]; exact hp
      rw [List.getElem?_eq_getElem hp'] at h1 ⊢
      simp only [Option.getD_some] at h1
      simp [h1]
    · rw [List.getElem?_eq_none (by rw [flatL_length]; omega), List.getElem?_eq_none (by simp; omega)]
      rfl
  rwa [e]
theorem row_lit2 (w : World) (x0 x1 : Int) (t : TypeId) : Row (w.alloc (.cells #[.int .i64 x0, .int .i64 x1] t)) 0 2 1 (fun p => [x0, x1].getD p 0) (.slice (some ⟨w.heap.size, 0, none⟩) 1 1) := by
  refine ⟨_, _, rfl, fun _ => ⟨w.heap.size, 0, rfl, Nat.zero_le _, by simp, fun p hp => ?_⟩⟩
  rw [Nat.zero_add, World.cell?_alloc_mark]
  match p, hp with
  | 0, _ => rfl
  | 1, _ => rfl
/-- One round of the model's set. -/
def stepS (k x : Int) (q : Prs × Bool) (e : Int × Int) : Prs × Bool :=
  ((if q.2 = false ∧ k ≤ e.1 then q.1 ++ [(k, x)] else q.1) ++ (if e.1 = k then [] else [e]), if k ≤ e.1 then true else q.2)
def accS (L : Prs) (k x : Int) (has : Bool) : Nat → Prs × Bool
  | 0 => ([], !has)
  | i + 1 => stepS k x (accS L k x has i) (L.getD i (0, 0))
/-- What the model's set comes to. -/
def setS (L : Prs) (k x : Int) (has : Bool) : Prs := if (accS L k x has L.length).2 then (accS L k x has L.length).1 else (accS L k x has L.length).1 ++ [(k, x)]
theorem accS_foldl (L : Prs) (k x : Int) (has : Bool) : ∀ i, i ≤ L.length → accS L k x has i = (L.take i).foldl (stepS k x) ([], !has)
  | 0, _ => by simp [accS]
  | i + 1, h => by
    have hg : L.getD i (0, 0) = L[i] := by simp [List.getD, show i < L.length by omega]
    rw [accS, accS_foldl L k x has i (by omega), List.take_succ_eq_append_getElem (by omega), List.foldl_append, hg]
    rfl
theorem fold_done (k x : Int) : ∀ (L o : Prs), L.foldl (stepS k x) (o, true) = (o ++ gonePr L k, true)
  | [], o => by simp [gonePr]
  | e :: t, o => by
    rw [List.foldl_cons]
    have h1 : stepS k x (o, true) e = (o ++ (if e.1 = k then [] else [e]), true) := by simp [stepS]
    rw [h1, fold_done k x t, List.append_assoc]
    congr 2
    unfold gonePr
    by_cases he : e.1 = k
    · rw [if_pos he, List.filter_cons_of_neg (by simp [he])]; rfl
    · rw [if_neg he, List.filter_cons_of_pos (by simp [he])]; rfl
theorem fold_put (k x : Int) : ∀ (L o : Prs), (if (L.foldl (stepS k x) (o, false)).2 then (L.foldl (stepS k x) (o, false)).1 else (L.foldl (stepS k x) (o, false)).1 ++ [(k, x)]) = o ++ putPr L k x
  | [], o => by simp [putPr]
  | e :: t, o => by
    rw [List.foldl_cons]
    by_cases he : k ≤ e.1
    · have h1 : stepS k x (o, false) e = ((o ++ [(k, x)]) ++ (if e.1 = k then [] else [e]), true) := by simp [stepS, he]
      rw [h1, fold_done]
      simp only [if_true]
      rw [putPr, if_pos he]
      have h2 : gonePr (e :: t) k = (if e.1 = k then [] else [e]) ++ gonePr t k := by
        unfold gonePr
        by_cases hk : e.1 = k
        · rw [if_pos hk, List.filter_cons_of_neg (by simp [hk])]; rfl
        · rw [if_neg hk, List.filter_cons_of_pos (by simp [hk])]; rfl
      rw [h2]
      simp
    · have h1 : stepS k x (o, false) e = (o ++ [e], false) := by simp [stepS, he, show ¬ e.1 = k by omega]
      rw [h1, fold_put k x t (o ++ [e]), putPr, if_neg he]
      simp
theorem setS_put (L : Prs) (k x : Int) : setS L k x true = putPr L k x := by
  unfold setS
  rw [accS_foldl L k x true _ (Nat.le_refl _), List.take_length]
  exact fold_put k x L []
theorem setS_gone (L : Prs) (k x : Int) : setS L k x false = gonePr L k := by
  unfold setS
  rw [accS_foldl L k x false _ (Nat.le_refl _), List.take_length]
  show (if (L.foldl (stepS k x) ([], true)).2 = true then (L.foldl (stepS k x) ([], true)).1 else _) = _
  rw [fold_done]
  rfl
theorem accS_len (L : Prs) (k x : Int) (has : Bool) : ∀ i, (accS L k x has i).1.length ≤ i * 2
  | 0 => by simp [accS]
  | i + 1 => by
    have h := accS_len L k x has i
    rw [accS, stepS]
    simp only [List.length_append]
    have h1 : (if (accS L k x has i).2 = false ∧ k ≤ (L.getD i (0, 0)).1 then (accS L k x has i).1 ++ [(k, x)] else (accS L k x has i).1).length ≤ (accS L k x has i).1.length + 1 := by split <;> simp
    have h2 : (if (L.getD i (0, 0)).1 = k then [] else [L.getD i (0, 0)]).length ≤ 1 := by split <;> simp
    omega
/-- What stands while the model sets. -/
def SetE (w : World) (k x : Int) (v : Value) (o : Prs) (X : World) : Prop := OwnM X (w.heap.size + 1) 61 2 v o.length (flatL o) ∧ Blk2 X w.heap.size (.int .i64 k) (.int .i64 x) ∧ Below w.heap.size w X
theorem SetE.push {w X w2 : World} {k x a b : Int} {ao ao1 : Option Addr} {cp cp1 : Nat} {o : Prs} (h : SetE w k x (.slice ao o.length cp) o X) (O2 : OwnM w2 (w.heap.size + 1) 61 2 (.slice ao1 (o.length + 1) cp1) (o.length + 1) (flatL o ++ nums (fun p => [a, b].getD p 0) (1 * 2))) (G2 : (X.alloc (.cells #[.int .i64 a, .int .i64 b] 61)).grownBy w2 (Value.slice ao o.length cp).ownBlock) : SetE w k x (.slice ao1 (o ++ [(a, b)]).length cp1) (o ++ [(a, b)]) w2 := by
  refine ⟨?_, (h.2.1.alloc _).kept (G2.block _ (by have := h.2.1.lt; simp; omega) (fun e => by have := (h.1.block _ e.symm).1; omega)), (h.2.2.alloc h.2.2.size _).grown G2 (by have := h.2.2.size; simp; omega) (fun r e => by have := (h.1.block r e).1; omega)⟩
  rw [List.length_append, flatL_append]
  exact O2
set_option maxRecDepth 100000 in
set_option maxHeartbeats 4000000 in
theorem l11Set_any (L : Prs) (v : Value) (B : Nat) (k x : Int) (has : Bool) (w : World) (h : Row w B 2 L.length (rowL L) v) (hn : L.length ≤ 1000) :
    Calls Tryz.prog 76 #[v, .agg #[.int .i64 k, .int .i64 x], .bool has] w fun e w' => ∃ ao cp, e = .returned (.slice ao (setS L k x has).length cp) ∧ Own w' w.heap.size 61 2 (setS L k x has).length (rowL (setS L k x has)) (.slice ao (setS L k x has).length cp) ∧ Below w.heap.size w w' := by
  obtain ⟨ao0, cp0, rfl⟩ := h.form
  have H : Hid (Row w B 2 L.length (rowL L) (.slice ao0 L.length cp0)) := h
  clear h
  obtain ⟨i0, hi, iz0, iz1, iz2⟩ := info_parts infoz_Pair
  obtain ⟨R, hR⟩ : ∃ R, setS L k x has = R := ⟨_, rfl⟩
  have HR : Hid (setS L k x has = R) := hR
  rw [hR]
  clear hR
  go_enter Tryz.func76, Tryz.ntmps76
  go_wp2
  go_loopw [7, 8, 9] (fun out d i wr => ∃ (j : Nat) (ao : Option Addr) (cp : Nat) (o : Prs) (dn : Bool), j ≤ L.length ∧ i = .int .i64 j ∧ d = .bool dn ∧ out = .slice ao o.length cp ∧ Hid (accS L k x has j = (o, dn)) ∧ Hid (SetE w k x (.slice ao o.length cp) o wr)) (fun _ _ i _ => L.length - (intOf i).toNat)
  case atStart =>
    refine ⟨0, _, _, [], !has, Nat.zero_le _, rfl, rfl, rfl, rfl, OwnM.lit0 _ _ _ _ (by simp), (Blk2.new w _ _ _).alloc _, (below_alloc _ _).alloc (by simp) _⟩
  case round =>
    obtain ⟨j, ao, cp, o, dn, hj, rfl, rfl, rfl, HA, HS⟩ := hrel
    have hol : o.length ≤ 2000 := by
      have := accS_len L k x has j
      rw [HA.out] at this
      simp only at this
      omega
    have hz : w.heap.size < wr.heap.size := HS.out.2.1.lt
    obtain ⟨⟨c0, c1⟩, _, _⟩ := HS.out.2.1
    by_cases hlt : j < L.length
    case neg =>
      obtain rfl : j = L.length := by omega
      cases dn with
      | true =>
        have HE : Hid (R = o) := by
          have := HR.out
          unfold setS at this
          rw [HA.out] at this
          exact (by simpa using this.symm : R = o)
        clear HA HR
        go_wp2
        refine bodyPost_ret (v := .slice ao o.length cp) (by simp [results, Tryz.results76, go_sem]) rfl ?_
        rw [HE.out]
        exact ⟨ao, cp, rfl, (ownM_own HS.out.1).mono (by omega), HS.out.2.2⟩
      | false =>
        have HE : Hid (R = o ++ [(k, x)]) := by
          have := HR.out
          unfold setS at this
          rw [HA.out] at this
          exact (by simpa using this.symm : R = o ++ [(k, x)])
        clear HA HR
        go_wp2_with (at_builtin; refine wpList_app 61 i0 (.agg #[.int .i64 0, .int .i64 0]) 2 16 rfl _ _ 24 rfl Tryz.underlying24 hi iz0 iz1 iz2 rfl (by omega) (by omega) _ (w.heap.size + 1) o.length (flatL o) (.slice ao o.length cp) rfl (HS.out.1.later (below_alloc _ _)) 0 1 (fun p => [k, x].getD p 0) (.slice (some ⟨wr.heap.size, 0, none⟩) 1 1) rfl (row_lit2 wr k x 61) (by omega) (by simp; omega) ?_; intro ao1 cp1 w1 O2 G2)
        have HS1 : Hid (SetE w k x (.slice ao1 (o ++ [(k, x)]).length cp1) (o ++ [(k, x)]) w1) := HS.out.push O2 G2
        have hz1 : w.heap.size < w1.heap.size := HS1.out.2.1.lt
        clear O2 G2
        go_wp2
        refine bodyPost_ret (v := .slice ao1 (o ++ [(k, x)]).length cp1) (by simp [results, Tryz.results76, go_sem]) rfl ?_
        rw [HE.out]
        exact ⟨ao1, cp1, rfl, (ownM_own HS1.out.1).mono (by omega), HS1.out.2.2⟩
    obtain ⟨g, oo, hao, _, hg, yw0, yw1⟩ := H.out.at2 hlt
    subst hao
    obtain ⟨n0, N0⟩ : ∃ x, rowL L (j * 2) = x := ⟨_, rfl⟩
    rw [N0] at yw0
    obtain ⟨n1, N1⟩ : ∃ x, rowL L (j * 2 + 1) = x := ⟨_, rfl⟩
    rw [N1] at yw1
    have HN : Hid (accS L k x has (j + 1) = stepS k x (o, dn) (n0, n1)) := by
      unfold Hid
      rw [accS, HA.out, ← N0, ← N1, rowL_key, rowL_val]
    clear N0 N1 HA HR c0 c1
    have yr0 := (HS.out.2.2.cell (p := ⟨g, oo + j * 2, none⟩) hg).trans yw0
    have yr1 := (HS.out.2.2.cell (p := ⟨g, oo + j * 2 + 1, none⟩) hg).trans yw1
    obtain ⟨⟨cr0, cr1⟩, _, _⟩ := HS.out.2.1
    cases dn with
    | true =>
      by_cases he : n0 = k
      · have HE : Hid (accS L k x has (j + 1) = (o, true)) := by unfold Hid; rw [HN.out]; simp [stepS, he]
        subst he
        clear HN
        go_wp2_with fail
        go_quiet (fail)
        have HSa : Hid (SetE w n0 x (.slice ao (o).length cp) (o) (wr.drewN nq)) := ⟨HS.out.1, HS.out.2.1, below_dn HS.out.2.2 _⟩
        generalize wr.drewN nq = Xa at HSa ⊢
        have hza : w.heap.size < Xa.heap.size := HSa.out.2.1.lt
        have ya0 := (HSa.out.2.2.cell (p := ⟨g, oo + j * 2, none⟩) hg).trans yw0
        have ya1 := (HSa.out.2.2.cell (p := ⟨g, oo + j * 2 + 1, none⟩) hg).trans yw1
        obtain ⟨⟨ca0, ca1⟩, _, _⟩ := HSa.out.2.1
        clear yr0 yr1 cr0 cr1
        go_wp2_with fail
        go_quiet (fail)
        have HSb : Hid (SetE w n0 x (.slice ao (o).length cp) (o) (Xa.drewN nq)) := ⟨HSa.out.1, HSa.out.2.1, below_dn HSa.out.2.2 _⟩
        generalize Xa.drewN nq = Xb at HSb ⊢
        have hzb : w.heap.size < Xb.heap.size := HSb.out.2.1.lt
        have yb0 := (HSb.out.2.2.cell (p := ⟨g, oo + j * 2, none⟩) hg).trans yw0
        have yb1 := (HSb.out.2.2.cell (p := ⟨g, oo + j * 2 + 1, none⟩) hg).trans yw1
        obtain ⟨⟨cb0, cb1⟩, _, _⟩ := HSb.out.2.1
        go_wp2
        go_roundw
        case rel => exact ⟨j + 1, ao, cp, o, true, by omega, by go_num, rfl, by first | rfl | simp, HE, HSb⟩
        case measure => simp [intOf]; omega
      · have HE : Hid (accS L k x has (j + 1) = (o ++ [(n0, n1)], true)) := by unfold Hid; rw [HN.out]; simp [stepS, he]
        have d : (n0 != k) = true := bne_iff_ne.2 he
        clear HN he
        go_wp2_with fail
        go_quiet (fail)
        have HSa : Hid (SetE w k x (.slice ao (o).length cp) (o) (wr.drewN nq)) := ⟨HS.out.1, HS.out.2.1, below_dn HS.out.2.2 _⟩
        generalize wr.drewN nq = Xa at HSa ⊢
        have hza : w.heap.size < Xa.heap.size := HSa.out.2.1.lt
        have ya0 := (HSa.out.2.2.cell (p := ⟨g, oo + j * 2, none⟩) hg).trans yw0
        have ya1 := (HSa.out.2.2.cell (p := ⟨g, oo + j * 2 + 1, none⟩) hg).trans yw1
        obtain ⟨⟨ca0, ca1⟩, _, _⟩ := HSa.out.2.1
        clear yr0 yr1 cr0 cr1
        go_wp2_with fail
        go_quiet (fail)
        have HSb : Hid (SetE w k x (.slice ao (o).length cp) (o) (Xa.drewN nq)) := ⟨HSa.out.1, HSa.out.2.1, below_dn HSa.out.2.2 _⟩
        generalize Xa.drewN nq = Xb at HSb ⊢
        have hzb : w.heap.size < Xb.heap.size := HSb.out.2.1.lt
        have yb0 := (HSb.out.2.2.cell (p := ⟨g, oo + j * 2, none⟩) hg).trans yw0
        have yb1 := (HSb.out.2.2.cell (p := ⟨g, oo + j * 2 + 1, none⟩) hg).trans yw1
        obtain ⟨⟨cb0, cb1⟩, _, _⟩ := HSb.out.2.1
        clear ya0 ya1 ca0 ca1
        go_wp2_with (at_builtin; refine wpList_app 61 i0 (.agg #[.int .i64 0, .int .i64 0]) 2 16 rfl _ _ 24 rfl Tryz.underlying24 hi iz0 iz1 iz2 rfl (by omega) (by omega) _ (w.heap.size + 1) (o).length (flatL (o)) (.slice ao (o).length cp) rfl (HSb.out.1.later (below_alloc _ _)) 0 1 (fun p => [n0, n1].getD p 0) (.slice (some ⟨Xb.heap.size, 0, none⟩) 1 1) rfl (row_lit2 Xb n0 n1 61) (by simp <;> omega) (by simp; omega) ?_; intro ao1 cp1 w1 O2 G2)
        have HS1 : Hid (SetE w k x (.slice ao1 ((o) ++ [(n0, n1)]).length cp1) ((o) ++ [(n0, n1)]) w1) := HSb.out.push O2 G2
        have hz1 : w.heap.size < w1.heap.size := HS1.out.2.1.lt
        clear O2 G2
        go_wp2
        go_roundw
        case rel => exact ⟨j + 1, ao1, cp1, o ++ [(n0, n1)], true, by omega, by go_num, rfl, by first | rfl | simp, HE, HS1⟩
        case measure => simp [intOf]; omega
    | false =>
      by_cases hle : k ≤ n0
      · have dg : decide (n0 ≥ k) = true := decide_eq_true hle
        by_cases he : n0 = k
        · have HE : Hid (accS L k x has (j + 1) = (o ++ [(k, x)], true)) := by unfold Hid; rw [HN.out]; simp [stepS, he]
          subst he
          clear HN hle
          go_wp2_with fail
          go_quiet (fail)
          have HSa : Hid (SetE w n0 x (.slice ao (o).length cp) (o) (wr.drewN nq)) := ⟨HS.out.1, HS.out.2.1, below_dn HS.out.2.2 _⟩
          generalize wr.drewN nq = Xa at HSa ⊢
          have hza : w.heap.size < Xa.heap.size := HSa.out.2.1.lt
          have ya0 := (HSa.out.2.2.cell (p := ⟨g, oo + j * 2, none⟩) hg).trans yw0
          have ya1 := (HSa.out.2.2.cell (p := ⟨g, oo + j * 2 + 1, none⟩) hg).trans yw1
          obtain ⟨⟨ca0, ca1⟩, _, _⟩ := HSa.out.2.1
          clear yr0 yr1 cr0 cr1
          go_wp2_with (at_builtin; refine wpList_app 61 i0 (.agg #[.int .i64 0, .int .i64 0]) 2 16 rfl _ _ 24 rfl Tryz.underlying24 hi iz0 iz1 iz2 rfl (by omega) (by omega) _ (w.heap.size + 1) (o).length (flatL (o)) (.slice ao (o).length cp) rfl (HSa.out.1.later (below_alloc _ _)) 0 1 (fun p => [n0, x].getD p 0) (.slice (some ⟨Xa.heap.size, 0, none⟩) 1 1) rfl (row_lit2 Xa n0 x 61) (by simp <;> omega) (by simp; omega) ?_; intro ao1 cp1 w1 O2 G2)
          have HS1 : Hid (SetE w n0 x (.slice ao1 ((o) ++ [(n0, x)]).length cp1) ((o) ++ [(n0, x)]) w1) := HSa.out.push O2 G2
          have hz1 : w.heap.size < w1.heap.size := HS1.out.2.1.lt
          clear O2 G2
          clear ya0 ya1 ca0 ca1
          have ys0 := (HS1.out.2.2.cell (p := ⟨g, oo + j * 2, none⟩) hg).trans yw0
          have ys1 := (HS1.out.2.2.cell (p := ⟨g, oo + j * 2 + 1, none⟩) hg).trans yw1
          obtain ⟨⟨cs0, cs1⟩, _, _⟩ := HS1.out.2.1
          go_wp2_with fail
          go_quiet (fail)
          have HSb : Hid (SetE w n0 x (.slice ao1 (o ++ [(n0, x)]).length cp1) (o ++ [(n0, x)]) (w1.drewN nq)) := ⟨HS1.out.1, HS1.out.2.1, below_dn HS1.out.2.2 _⟩
          generalize w1.drewN nq = Xb at HSb ⊢
          have hzb : w.heap.size < Xb.heap.size := HSb.out.2.1.lt
          have yb0 := (HSb.out.2.2.cell (p := ⟨g, oo + j * 2, none⟩) hg).trans yw0
          have yb1 := (HSb.out.2.2.cell (p := ⟨g, oo + j * 2 + 1, none⟩) hg).trans yw1
          obtain ⟨⟨cb0, cb1⟩, _, _⟩ := HSb.out.2.1
          go_wp2
          go_roundw
          case rel => exact ⟨j + 1, ao1, cp1, o ++ [(n0, x)], true, by omega, by go_num, rfl, by first | rfl | simp, HE, HSb⟩
          case measure => simp [intOf]; omega
        · have HE : Hid (accS L k x has (j + 1) = ((o ++ [(k, x)]) ++ [(n0, n1)], true)) := by unfold Hid; rw [HN.out]; simp [stepS, he, hle]
          have d : (n0 != k) = true := bne_iff_ne.2 he
          clear HN hle he
          go_wp2_with fail
          go_quiet (fail)
          have HSa : Hid (SetE w k x (.slice ao (o).length cp) (o) (wr.drewN nq)) := ⟨HS.out.1, HS.out.2.1, below_dn HS.out.2.2 _⟩
          generalize wr.drewN nq = Xa at HSa ⊢
          have hza : w.heap.size < Xa.heap.size := HSa.out.2.1.lt
          have ya0 := (HSa.out.2.2.cell (p := ⟨g, oo + j * 2, none⟩) hg).trans yw0
          have ya1 := (HSa.out.2.2.cell (p := ⟨g, oo + j * 2 + 1, none⟩) hg).trans yw1
          obtain ⟨⟨ca0, ca1⟩, _, _⟩ := HSa.out.2.1
          clear yr0 yr1 cr0 cr1
          go_wp2_with (at_builtin; refine wpList_app 61 i0 (.agg #[.int .i64 0, .int .i64 0]) 2 16 rfl _ _ 24 rfl Tryz.underlying24 hi iz0 iz1 iz2 rfl (by omega) (by omega) _ (w.heap.size + 1) (o).length (flatL (o)) (.slice ao (o).length cp) rfl (HSa.out.1.later (below_alloc _ _)) 0 1 (fun p => [k, x].getD p 0) (.slice (some ⟨Xa.heap.size, 0, none⟩) 1 1) rfl (row_lit2 Xa k x 61) (by simp <;> omega) (by simp; omega) ?_; intro ao1 cp1 w1 O2 G2)
          have HS1 : Hid (SetE w k x (.slice ao1 ((o) ++ [(k, x)]).length cp1) ((o) ++ [(k, x)]) w1) := HSa.out.push O2 G2
          have hz1 : w.heap.size < w1.heap.size := HS1.out.2.1.lt
          clear O2 G2
          clear ya0 ya1 ca0 ca1
          have ys0 := (HS1.out.2.2.cell (p := ⟨g, oo + j * 2, none⟩) hg).trans yw0
          have ys1 := (HS1.out.2.2.cell (p := ⟨g, oo + j * 2 + 1, none⟩) hg).trans yw1
          obtain ⟨⟨cs0, cs1⟩, _, _⟩ := HS1.out.2.1
          go_wp2_with fail
          go_quiet (fail)
          have HSb : Hid (SetE w k x (.slice ao1 (o ++ [(k, x)]).length cp1) (o ++ [(k, x)]) (w1.drewN nq)) := ⟨HS1.out.1, HS1.out.2.1, below_dn HS1.out.2.2 _⟩
          generalize w1.drewN nq = Xb at HSb ⊢
          have hzb : w.heap.size < Xb.heap.size := HSb.out.2.1.lt
          have yb0 := (HSb.out.2.2.cell (p := ⟨g, oo + j * 2, none⟩) hg).trans yw0
          have yb1 := (HSb.out.2.2.cell (p := ⟨g, oo + j * 2 + 1, none⟩) hg).trans yw1
          obtain ⟨⟨cb0, cb1⟩, _, _⟩ := HSb.out.2.1
          clear ys0 ys1 cs0 cs1
          have e1 : (o ++ [(k, x)]).length = o.length + 1 := by simp
          go_wp2_with (at_builtin; refine wpList_app 61 i0 (.agg #[.int .i64 0, .int .i64 0]) 2 16 rfl _ _ 24 rfl Tryz.underlying24 hi iz0 iz1 iz2 rfl (by omega) (by omega) _ (w.heap.size + 1) (o.length + 1) (flatL (o ++ [(k, x)])) (.slice ao1 (o.length + 1) cp1) rfl (by have q := HSb.out.1.later (below_alloc _ (.cells #[.int .i64 n0, .int .i64 n1] 61)); rw [e1] at q; exact q) 0 1 (fun p => [n0, n1].getD p 0) (.slice (some ⟨Xb.heap.size, 0, none⟩) 1 1) rfl (row_lit2 Xb n0 n1 61) (by simp <;> omega) (by simp; omega) ?_; intro ao2 cp2 w2 O2 G2)
          have HS2 : Hid (SetE w k x (.slice ao2 ((o ++ [(k, x)]) ++ [(n0, n1)]).length cp2) ((o ++ [(k, x)]) ++ [(n0, n1)]) w2) := HSb.out.push (by rw [e1]; exact O2) (by rw [e1]; exact G2)
          have hz3 : w.heap.size < w2.heap.size := HS2.out.2.1.lt
          clear O2 G2
          go_wp2
          go_roundw
          case rel => exact ⟨j + 1, ao2, cp2, (o ++ [(k, x)]) ++ [(n0, n1)], true, by omega, by go_num, rfl, by first | rfl | simp, HE, HS2⟩
          case measure => simp [intOf]; omega
      · have dg : decide (n0 ≥ k) = false := decide_eq_false hle
        have he : n0 ≠ k := by omega
        have HE : Hid (accS L k x has (j + 1) = (o ++ [(n0, n1)], false)) := by unfold Hid; rw [HN.out]; simp [stepS, he, hle]
        have d : (n0 != k) = true := bne_iff_ne.2 he
        clear HN hle he
        go_wp2_with fail
        go_quiet (fail)
        have HSa : Hid (SetE w k x (.slice ao (o).length cp) (o) (wr.drewN nq)) := ⟨HS.out.1, HS.out.2.1, below_dn HS.out.2.2 _⟩
        generalize wr.drewN nq = Xa at HSa ⊢
        have hza : w.heap.size < Xa.heap.size := HSa.out.2.1.lt
        have ya0 := (HSa.out.2.2.cell (p := ⟨g, oo + j * 2, none⟩) hg).trans yw0
        have ya1 := (HSa.out.2.2.cell (p := ⟨g, oo + j * 2 + 1, none⟩) hg).trans yw1
        obtain ⟨⟨ca0, ca1⟩, _, _⟩ := HSa.out.2.1
        clear yr0 yr1 cr0 cr1
        go_wp2_with fail
        go_quiet (fail)
        have HSb : Hid (SetE w k x (.slice ao (o).length cp) (o) (Xa.drewN nq)) := ⟨HSa.out.1, HSa.out.2.1, below_dn HSa.out.2.2 _⟩
        generalize Xa.drewN nq = Xb at HSb ⊢
        have hzb : w.heap.size < Xb.heap.size := HSb.out.2.1.lt
        have yb0 := (HSb.out.2.2.cell (p := ⟨g, oo + j * 2, none⟩) hg).trans yw0
        have yb1 := (HSb.out.2.2.cell (p := ⟨g, oo + j * 2 + 1, none⟩) hg).trans yw1
        obtain ⟨⟨cb0, cb1⟩, _, _⟩ := HSb.out.2.1
        clear ya0 ya1 ca0 ca1
        go_wp2_with (at_builtin; refine wpList_app 61 i0 (.agg #[.int .i64 0, .int .i64 0]) 2 16 rfl _ _ 24 rfl Tryz.underlying24 hi iz0 iz1 iz2 rfl (by omega) (by omega) _ (w.heap.size + 1) (o).length (flatL (o)) (.slice ao (o).length cp) rfl (HSb.out.1.later (below_alloc _ _)) 0 1 (fun p => [n0, n1].getD p 0) (.slice (some ⟨Xb.heap.size, 0, none⟩) 1 1) rfl (row_lit2 Xb n0 n1 61) (by simp <;> omega) (by simp; omega) ?_; intro ao1 cp1 w1 O2 G2)
        have HS1 : Hid (SetE w k x (.slice ao1 ((o) ++ [(n0, n1)]).length cp1) ((o) ++ [(n0, n1)]) w1) := HSb.out.push O2 G2
        have hz1 : w.heap.size < w1.heap.size := HS1.out.2.1.lt
        clear O2 G2
        go_wp2
        go_roundw
        case rel => exact ⟨j + 1, ao1, cp1, o ++ [(n0, n1)], false, by omega, by go_num, rfl, by first | rfl | simp, HE, HS1⟩
        case measure => simp [intOf]; omega
end Go.Proofs.YtnchaccgenfhoaaGreat

namespace Go.Proofs.YtnchaccgenfhoaaGreat
open Go.RowKit

theorem infoz_link : (Tryz.prog.info? 100).map (fun i => (i.zero, i.size, i.bytes)) = some (some (.agg #[.int .i64 0, .int .i64 0]), 2, 16) := by kernel_rfl
theorem Own.keptT {w w' : World} {B : Nat} {e : TypeId} {m n : Nat} {F : Nat → Int} {v : Value} (h : Own w B e m n F v) (hb : ∀ k, v.ownBlock = some k → w'.heap[k]? = w.heap[k]?) : Own w' B e m n F v := by
  refine ⟨h.1, ?_⟩
  rcases h.2 with q | ⟨g, cap, cur, rfl, hg, hw, r⟩
  · exact Or.inl q
  · exact Or.inr ⟨g, cap, cur, rfl, hg, (hb g rfl).trans hw, r⟩
/-- A view under way: how it is looked at, and its entries so far. -/
def HgE (w1 : World) (b rb mb : Nat) (L K : Prs) (lv : Value) (X : World) : Prop :=
  (Looks X b rb mb L [] (.slice none 0 0) ∧ b < w1.heap.size) ∧ Blk2 X w1.heap.size (.pointer (some ⟨b, 0, none⟩)) lv ∧ OwnM X (w1.heap.size + 1) 100 2 lv K.length (flatL K) ∧ Below w1.heap.size w1 X
theorem HgE.later {w1 X X' : World} {b rb mb : Nat} {L K : Prs} {lv : Value} (h : HgE w1 b rb mb L K lv X) (hb : Below X.heap.size X X') : HgE w1 b rb mb L K lv X' :=
  ⟨⟨h.1.1.later hb, h.1.2⟩, h.2.1.later hb, h.2.2.1.later hb, h.2.2.2.trans (hb.mono h.2.2.2.size)⟩
theorem HgE.app {w1 X w6 : World} {b rb mb : Nat} {L K : Prs} {ao ao1 : Option Addr} {cp cp1 : Nat} {a0 a1 : Int} (h : HgE w1 b rb mb L K (.slice ao K.length cp) X)
    (O6 : OwnM w6 (w1.heap.size + 1) 100 2 (.slice ao1 (K.length + 1) cp1) (K.length + 1) (flatL K ++ nums (fun p => [a0, a1].getD p 0) (1 * 2))) (G6 : X.grownBy w6 (Value.slice ao K.length cp).ownBlock) :
    Blk2 w6 w1.heap.size (.pointer (some ⟨b, 0, none⟩)) (.slice ao K.length cp) ∧ HgE w1 b rb mb L (K ++ [(a0, a1)]) (.slice ao1 (K.length + 1) cp1) (w6.setCell ⟨w1.heap.size, 1, none⟩ (.slice ao1 (K.length + 1) cp1)) := by
  obtain ⟨⟨h1, hb⟩, h2, h3, h4⟩ := h
  have hbb := h2.lt
  have kp : ∀ k, k < X.heap.size → (Value.slice ao K.length cp).ownBlock ≠ some k → w6.heap[k]? = X.heap[k]? := fun k hk hne => G6.block k hk (fun e => hne e.symm)
  have hB6 := h2.kept (kp _ hbb (fun e => by have := (h3.block _ e).1; omega))
  have ks : ∀ k, k ≠ w1.heap.size → (w6.setCell ⟨w1.heap.size, 1, none⟩ (.slice ao1 (K.length + 1) cp1)).heap[k]? = w6.heap[k]? := fun k hk => Below.heap_setCell w6 ⟨w1.heap.size, 1, none⟩ _ k hk
  have l6 : Looks w6 b rb mb L [] (.slice none 0 0) := h1.grew (B := w1.heap.size + 1) (fun k hk => (h3.block k hk).1) (by omega) (fun k hk => by cases hk) kp
  have l7 : Looks (w6.setCell ⟨w1.heap.size, 1, none⟩ (.slice ao1 (K.length + 1) cp1)) b rb mb L [] (.slice none 0 0) :=
    l6.grew (u := .slice (some ⟨w1.heap.size, 0, none⟩) 0 0) (B := w1.heap.size) (fun k hk => Nat.le_of_eq (Option.some.inj hk)) hb (fun k hk => by cases hk) (fun k _ hk => ks k (fun e => hk (by rw [e]; rfl)))
  refine ⟨hB6, ⟨l7, hb⟩, hB6.set1E _, ?_, h4.trans ⟨G6.os, G6.tape, G6.output, by simpa using G6.size, fun k hk => (ks k (by omega)).trans (kp k (by omega) (fun e => by have := (h3.block k e).1; omega))⟩⟩
  have e : nums (fun p => [a0, a1].getD p 0) (1 * 2) = [a0, a1] := rfl
  rw [e] at O6
  rw [List.length_append, flatL_append]
  exact OwnM.keptB O6 (fun k hk => ks k (by have := (OwnM.block O6 k hk).1; omega))
/-- What hangingIn answers. -/
def HangRes (w : World) (L : Prs) (e : Ending) (w' : World) : Prop :=
  ∃ b rb mb lv, e = .returned (.agg #[.pointer (some ⟨b, 0, none⟩), lv]) ∧ Looks w' b rb mb L [] (.slice none 0 0) ∧ OwnM w' (b + 1) 100 2 lv (lnkL L).length (flatL (lnkL L)) ∧ w.heap.size ≤ rb ∧ Below w.heap.size w w'
set_option maxRecDepth 100000 in
set_option maxHeartbeats 4000000 in
theorem hangingIn_is (L : Prs) (v : Value) (B : Nat) (w : World) (h : Row w B 2 L.length (rowL L) v) (hr : Rises L) (hn : L.length ≤ 800) (hf : KeysOk L) :
    Calls Tryz.prog 28 #[v] w (HangRes w L) := by
  obtain ⟨ao0, cp0, rfl⟩ := h.form
  have H : Hid (Row w B 2 L.length (rowL L) (.slice ao0 L.length cp0) ∧ Rises L ∧ KeysOk L) := ⟨h, hr, hf⟩
  obtain ⟨i0, hi, iz0, iz1, iz2⟩ := info_parts infoz_link
  clear h hr hf
  go_enter Tryz.func28, Tryz.ntmps28
  go_wp2_with fail
  refine (lookAt_is L _ B _ (H.out.1.alloc _) H.out.2.1 hn).mono ?_
  rintro e w1 ⟨b, rb, mb, rfl, hl, hrb, q1⟩
  have hbl : b < w1.heap.size := hl.1.lt
  have hrb' : w.heap.size < rb := by rw [World.size_alloc] at hrb; omega
  have HR1 : Hid (Blk2 w1 w.heap.size (.pointer none) (.slice none 0 0) ∧ Below w.heap.size w w1 ∧ w.heap.size < rb ∧ rb < mb ∧ mb < b) := ⟨(Blk2.new w _ _ _).later q1, (below_alloc _ _).trans (q1.mono (by simp)), hrb', hl.2.2.2.2.1, hl.2.2.2.2.2⟩
  have HE0 : Hid (HgE w1 b rb mb L [] (.slice none 0 0) (w1.alloc (.cells #[.pointer (some ⟨b, 0, none⟩), .slice none 0 0] 57))) := ⟨⟨hl.alloc _, hbl⟩, Blk2.new _ _ _ _, OwnM.nil _ _ _ _, below_alloc _ _⟩
  have HB : Hid (b < w1.heap.size) := hbl
  clear hl hrb hrb' q1 hbl
  go_wp2
  go_loopw [12] (fun i wr => ∃ (k : Nat) (ao : Option Addr) (cp : Nat) (K : Prs), k ≤ L.length ∧ i = .int .i64 k ∧ List.length K ≤ k ∧ Hid (lnkL (L.take k) = K ∧ HgE w1 b rb mb L K (.slice ao (List.length K) cp) wr)) (fun i _ => L.length - (intOf i).toNat)
  case atStart => exact ⟨0, none, 0, [], Nat.zero_le _, rfl, Nat.le_refl _, rfl, HE0.out⟩
  case round =>
    obtain ⟨k, ao, cp, K, hk, rfl, hK, HS⟩ := hrel
    have hz : Hid (w.heap.size < wr.heap.size ∧ w1.heap.size < wr.heap.size) := ⟨Nat.lt_of_lt_of_le HR1.out.1.lt HS.out.2.2.2.2.size, HS.out.2.2.1.lt⟩
    by_cases hlt : k < L.length
    case neg =>
      obtain rfl : k = L.length := by omega
      have HX : Hid (HgE w1 b rb mb L (lnkL L) (.slice ao K.length cp) wr) := by
        have e := HS.out.1
        rw [List.take_length] at e
        unfold Hid
        rw [e]
        exact HS.out.2
      have HQ : Hid (Blk2 wr w.heap.size (.pointer none) (.slice none 0 0) ∧ Below w.heap.size w wr) := ⟨HR1.out.1.kept (HS.out.2.2.2.2.block _ HR1.out.1.lt), HR1.out.2.1.trans (HS.out.2.2.2.2.mono HR1.out.2.1.size)⟩
      obtain ⟨⟨u0, u1⟩, v0, v1⟩ := HX.out.2.1
      obtain ⟨⟨x0, x1⟩, y0, y1⟩ := HQ.out.1
      have HP : Hid (_ ∧ _) := (Blk2.put (x := wr) (b := w.heap.size) ⟨⟨x0, x1⟩, y0, y1⟩ (.pointer (some ⟨b, 0, none⟩)) (.slice ao K.length cp)).1
      go_wp2
      refine bodyPost_ret (v := .agg #[.pointer (some ⟨b, 0, none⟩), .slice ao K.length cp]) (by simp [results, Tryz.results28, go_sem, HP.out.1, HP.out.2]) rfl ⟨b, rb, mb, _, rfl, ?_, ?_, by have := HR1.out.2.2.1; omega, (HQ.out.2.setCell (by simp) _).setCell (by simp) _⟩
      · have hk : ∀ q, q ≠ w.heap.size → ((wr.setCell ⟨w.heap.size, 0, none⟩ (.pointer (some ⟨b, 0, none⟩))).setCell ⟨w.heap.size, 1, none⟩ (.slice ao K.length cp)).heap[q]? = wr.heap[q]? := fun q hq => (Below.heap_setCell _ ⟨w.heap.size, 1, none⟩ _ q hq).trans (Below.heap_setCell _ ⟨w.heap.size, 0, none⟩ _ q hq)
        have hq := HR1.out.2.2
        obtain ⟨l1, l2, l3, l4, l5, l6⟩ := HX.out.1.1
        obtain ⟨vv, r1, r2, r3⟩ := l2
        refine ⟨l1.kept (hk b (by omega)), ⟨vv, r1.kept (hk rb (by omega)), Own.keptT r2 (fun q hqq => hk q (by have := (own_in r2 q hqq).1; omega)), r3⟩, l3.kept (hk mb (by omega)), Ints.nil _ _, l5, l6⟩
      · have e := HS.out.1
        rw [List.take_length] at e
        rw [e]
        have hi := HS.out.2.2.2.1
        have hq := HR1.out.2.2
        have hbb := HB.out
        exact OwnM.monoP (OwnM.keptB hi (fun q hqq => (Below.heap_setCell _ ⟨w.heap.size, 1, none⟩ _ q (by have := (OwnM.block hi q hqq).1; simp; omega)).trans (Below.heap_setCell _ ⟨w.heap.size, 0, none⟩ _ q (by have := (OwnM.block hi q hqq).1; simp; omega)))) (by omega)
    have HBW : Hid (Below w.heap.size w wr) := HR1.out.2.1.trans (HS.out.2.2.2.2.mono HR1.out.2.1.size)
    obtain ⟨g, o, hao, _, hg, y0, y1⟩ := (H.out.1.later HBW.out).at2 hlt
    subst hao
    rw [rowL_key] at y0
    rw [rowL_val] at y1
    obtain ⟨n0, N0⟩ : ∃ x, (L.getD k (0, 0)).1 = x := ⟨_, rfl⟩
    rw [N0] at y0
    obtain ⟨n1, N1⟩ : ∃ x, (L.getD k (0, 0)).2 = x := ⟨_, rfl⟩
    rw [N1] at y1
    have HF : Hid (faultOf n0 = 0) := by have := H.out.2.2 k hlt; rwa [N0] at this
    have hst := lnk_step hlt N0 N1
    rw [HS.out.1] at hst
    obtain ⟨kk, hkk⟩ : ∃ x, partK n0 = x := ⟨_, rfl⟩
    obtain ⟨ka, hka⟩ : ∃ x, partA n0 = x := ⟨_, rfl⟩
    rw [hkk, hka] at hst
    have HST : Hid (lnkL (L.take (k + 1)) = K ++ (if kk = 2 then [(ka, n1)] else [])) := hst
    have HK : Hid (partK n0 = kk ∧ partA n0 = ka) := ⟨hkk, hka⟩
    clear N0 N1 hst hkk hka
    go_wp2_with fail
    refine (implPartsOf_any n0 _).mono ?_
    rintro e w9 ⟨rfl, hw9⟩
    have HP5 : Hid (Blk2 w9 wr.heap.size (.int .i64 n0) (.int .i64 n1) ∧ Below wr.heap.size wr w9 ∧ w9.heap.size = wr.heap.size + 2) := by
      subst hw9
      exact ⟨(Blk2.new wr _ _ _).later (below_alloc _ _), (below_alloc _ _).trans ((below_alloc _ _).mono (by simp)), by simp⟩
    have HE5 : Hid (HgE w1 b rb mb L K (.slice ao K.length cp) w9) := HS.out.2.later HP5.out.2.1
    clear hw9 y0 y1
    unfold partsVal
    rw [HK.out.1, HK.out.2, HF.out]
    obtain ⟨⟨p0, p1⟩, _, _⟩ := HP5.out.1
    obtain ⟨⟨x0, x1⟩, z0, z1⟩ := HE5.out.2.1
    have hz9 : wr.heap.size < w9.heap.size := by have := HP5.out.2.2; omega
    have hz8 : w1.heap.size < w9.heap.size := by have := hz.out.2; omega
    by_cases h2 : kk = 2
    · subst h2
      have HO : Hid (OwnM ((w9.alloc (.cells #[.int .i64 0, .int .i64 2, .int .i64 ka, .int .i64 (partB n0)] 97)).alloc (.cells #[.int .i64 ka, .int .i64 n1] 100)) (w1.heap.size + 1) 100 2 (.slice ao K.length cp) K.length (flatL K)) := HE5.out.2.2.1.later ((below_alloc _ _).alloc (by simp) _)
      have HRW : Hid (Row ((w9.alloc (.cells #[.int .i64 0, .int .i64 2, .int .i64 ka, .int .i64 (partB n0)] 97)).alloc (.cells #[.int .i64 ka, .int .i64 n1] 100)) 0 2 1 (fun p => [ka, n1].getD p 0) (.slice (some ⟨(w9.alloc (.cells #[.int .i64 0, .int .i64 2, .int .i64 ka, .int .i64 (partB n0)] 97)).heap.size, 0, none⟩) 1 1)) := row_lit2 _ ka n1 _
      have HEa : Hid (HgE w1 b rb mb L K (.slice ao K.length cp) ((w9.alloc (.cells #[.int .i64 0, .int .i64 2, .int .i64 ka, .int .i64 (partB n0)] 97)).alloc (.cells #[.int .i64 ka, .int .i64 n1] 100))) := HE5.out.later ((below_alloc _ _).alloc (by simp) _)
      go_wp2_with (at_builtin; refine wpList_app 100 i0 (.agg #[.int .i64 0, .int .i64 0]) 2 16 rfl _ _ 55 rfl Tryz.underlying55 hi iz0 iz1 iz2 rfl (by omega) (by omega) _ (w1.heap.size + 1) K.length (flatL K) (.slice ao K.length cp) rfl HO.out 0 1 (fun p => [ka, n1].getD p 0) (.slice (some ⟨w9.heap.size + 1, 0, none⟩) 1 1) rfl (by simpa using HRW.out) (by omega) (by simp; omega) ?_; intro ao1 cp1 w6 O6 G6; clear x0 x1 z0 z1; obtain ⟨⟨⟨x0, x1⟩, z0, z1⟩, hq6⟩ := HEa.out.app O6 G6; have H6 : Hid (HgE w1 b rb mb L (K ++ [(ka, n1)]) (.slice ao1 (K.length + 1) cp1) (w6.setCell ⟨w1.heap.size, 1, none⟩ (.slice ao1 (K.length + 1) cp1))) := hq6; clear hq6 O6 G6 HO HRW HEa)
      go_roundw
      case rel => exact ⟨k + 1, ao1, cp1, K ++ [(ka, n1)], by omega, by go_num, by simp; omega, by simpa using HST.out, by simpa using H6.out⟩
      case measure => simp [intOf]; omega
    · have d2 : (kk == 2) = false := beq_eq_false_iff_ne.2 h2
      have HE6 : Hid (HgE w1 b rb mb L K (.slice ao K.length cp) (w9.alloc (.cells #[.int .i64 0, .int .i64 kk, .int .i64 ka, .int .i64 (partB n0)] 97))) := HE5.out.later (below_alloc _ _)
      have HST2 : Hid (lnkL (L.take (k + 1)) = K) := by
        have := HST.out
        rw [if_neg h2, List.append_nil] at this
        exact this
      clear h2
      go_wp2
      go_roundw
      case rel => exact ⟨k + 1, ao, cp, K, by omega, by go_num, by omega, HST2.out, HE6.out⟩
      case measure => simp [intOf]; omega
end Go.Proofs.YtnchaccgenfhoaaGreat

namespace Go.Proofs.YtnchaccgenfhoaaGreat
open Go.RowKit

/-- The entries of one inode under way. -/
def LtE (w : World) (K : Prs) (lv : Value) (X : World) : Prop := OwnM X (w.heap.size + 1) 100 2 lv K.length (flatL K) ∧ Below w.heap.size w X ∧ w.heap.size < X.heap.size
theorem LtE.later {w X X' : World} {K : Prs} {lv : Value} (h : LtE w K lv X) (hb : Below X.heap.size X X') : LtE w K lv X' := ⟨h.1.later hb, h.2.1.trans (hb.mono h.2.1.size), Nat.lt_of_lt_of_le h.2.2 hb.size⟩
theorem LtE.app {w X w6 : World} {K : Prs} {ao ao1 : Option Addr} {cp cp1 : Nat} {a0 a1 : Int} (h : LtE w K (.slice ao K.length cp) X)
    (O6 : OwnM w6 (w.heap.size + 1) 100 2 (.slice ao1 (K.length + 1) cp1) (K.length + 1) (flatL K ++ nums (fun p => [a0, a1].getD p 0) (1 * 2))) (G6 : X.grownBy w6 (Value.slice ao K.length cp).ownBlock) : LtE w (K ++ [(a0, a1)]) (.slice ao1 (K.length + 1) cp1) w6 := by
  refine ⟨?_, h.2.1.trans ⟨G6.os, G6.tape, G6.output, G6.size, fun k hk => G6.block k (Nat.lt_trans hk h.2.2) (fun e => by have := (h.1.block _ e.symm).1; omega)⟩, Nat.lt_of_lt_of_le h.2.2 G6.size⟩
  have e : nums (fun p => [a0, a1].getD p 0) (1 * 2) = [a0, a1] := rfl
  rw [e] at O6
  rw [List.length_append, flatL_append]
  exact O6
theorem toL_step {K : Prs} {k : Nat} (hk : k < K.length) {n0 n1 : Int} (h0 : (K.getD k (0, 0)).1 = n0) (h1 : (K.getD k (0, 0)).2 = n1) (a : Int) : toL (K.take (k + 1)) a = toL (K.take k) a ++ (if n1 = a then [(n0, n1)] else []) := by
  unfold toL
  have e : K.getD k (0, 0) = (n0, n1) := by rw [← h0, ← h1]
  rw [take_snoc hk, List.filter_append, e]
  by_cases h : n1 = a
  · rw [if_pos h]; simp [h]
  · rw [if_neg h]; simp [h]
set_option maxRecDepth 100000 in
set_option maxHeartbeats 4000000 in
theorem linksTo_is (K : Prs) (pb : Addr) (v : Value) (B : Nat) (a : Int) (w : World) (h : Row w B 2 K.length (rowL K) v) (hn : K.length ≤ 1000) :
    Calls Tryz.prog 39 #[.agg #[.pointer (some pb), v], .int .i64 a] w fun e w' => ∃ lv, e = .returned lv ∧ OwnM w' w.heap.size 100 2 lv (toL K a).length (flatL (toL K a)) ∧ Below w.heap.size w w' := by
  obtain ⟨ao0, cp0, rfl⟩ := h.form
  have H : Hid (Row w B 2 K.length (rowL K) (.slice ao0 K.length cp0)) := h
  obtain ⟨i0, hi, iz0, iz1, iz2⟩ := info_parts infoz_link
  clear h
  go_enter Tryz.func39, Tryz.ntmps39
  go_wp2
  go_loopw [4, 10] (fun l i wr => ∃ (k : Nat) (ao : Option Addr) (cp : Nat) (M : Prs), k ≤ K.length ∧ i = .int .i64 k ∧ List.length M ≤ k ∧ l = .slice ao (List.length M) cp ∧ Hid (toL (K.take k) a = M ∧ LtE w M (.slice ao (List.length M) cp) wr)) (fun _ i _ => K.length - (intOf i).toNat)
  case atStart => exact ⟨0, none, 0, [], Nat.zero_le _, rfl, Nat.le_refl _, rfl, rfl, OwnM.nil _ _ _ _, below_alloc _ _, by simp⟩
  case round =>
    obtain ⟨k, ao, cp, M, hk, rfl, hM, rfl, HS⟩ := hrel
    by_cases hlt : k < K.length
    case neg =>
      obtain rfl : k = K.length := by omega
      go_wp2
      go_ret
      have e := HS.out.1
      rw [List.take_length] at e
      refine ⟨_, rfl, ?_, HS.out.2.2.1⟩
      rw [e]
      exact OwnM.monoP HS.out.2.1 (by omega)
    obtain ⟨g, o, hao, _, hg, y0, y1⟩ := (H.out.later HS.out.2.2.1).at2 hlt
    subst hao
    rw [rowL_key] at y0
    rw [rowL_val] at y1
    obtain ⟨n0, N0⟩ : ∃ x, (K.getD k (0, 0)).1 = x := ⟨_, rfl⟩
    rw [N0] at y0
    obtain ⟨n1, N1⟩ : ∃ x, (K.getD k (0, 0)).2 = x := ⟨_, rfl⟩
    rw [N1] at y1
    have hst := toL_step hlt N0 N1 a
    rw [HS.out.1] at hst
    have HST : Hid (toL (K.take (k + 1)) a = M ++ (if n1 = a then [(n0, n1)] else [])) := hst
    clear N0 N1 hst
    by_cases h2 : n1 = a
    · have d2 : (n1 == a) = true := beq_iff_eq.2 h2
      have HST2 : Hid (toL (K.take (k + 1)) a = M ++ [(n0, n1)]) := by
        have := HST.out
        rwa [if_pos h2] at this
      clear h2 HST
      have HEa : Hid (LtE w M (.slice ao M.length cp) ((wr.alloc (.cells #[.int .i64 n0, .int .i64 n1] 100)).alloc (.cells #[.int .i64 n0, .int .i64 n1] 100))) := HS.out.2.later ((below_alloc _ _).alloc (by simp) _)
      have HRW : Hid (Row ((wr.alloc (.cells #[.int .i64 n0, .int .i64 n1] 100)).alloc (.cells #[.int .i64 n0, .int .i64 n1] 100)) 0 2 1 (fun p => [n0, n1].getD p 0) (.slice (some ⟨(wr.alloc (.cells #[.int .i64 n0, .int .i64 n1] 100)).heap.size, 0, none⟩) 1 1)) := row_lit2 _ n0 n1 _
      have hz : w.heap.size < wr.heap.size := HS.out.2.2.2
      go_wp2_with (at_builtin; refine wpList_app 100 i0 (.agg #[.int .i64 0, .int .i64 0]) 2 16 rfl _ _ 55 rfl Tryz.underlying55 hi iz0 iz1 iz2 rfl (by omega) (by omega) _ (w.heap.size + 1) M.length (flatL M) (.slice ao M.length cp) rfl HEa.out.1 0 1 (fun p => [n0, n1].getD p 0) (.slice (some ⟨wr.heap.size + 1, 0, none⟩) 1 1) rfl (by simpa using HRW.out) (by omega) (by simp; omega) ?_; intro ao1 cp1 w6 O6 G6; have H6 : Hid (LtE w (M ++ [(n0, n1)]) (.slice ao1 (M.length + 1) cp1) w6) := HEa.out.app O6 G6; clear O6 G6 HRW HEa)
      go_roundw
      case rel => exact ⟨k + 1, ao1, cp1, M ++ [(n0, n1)], by omega, by go_num, by simp; omega, by simp, HST2.out, by simpa using H6.out⟩
      case measure => simp [intOf]; omega
    · have d2 : (n1 == a) = false := beq_eq_false_iff_ne.2 h2
      have HST2 : Hid (toL (K.take (k + 1)) a = M) := by
        have := HST.out
        rw [if_neg h2, List.append_nil] at this
        exact this
      have H6 : Hid (LtE w M (.slice ao M.length cp) (wr.alloc (.cells #[.int .i64 n0, .int .i64 n1] 100))) := HS.out.2.later (below_alloc _ _)
      clear h2 HST
      go_wp2
      go_roundw
      case rel => exact ⟨k + 1, ao, cp, M, by omega, by go_num, by omega, rfl, HST2.out, H6.out⟩
      case measure => simp [intOf]; omega
theorem countLinks_is (ao : Option Addr) (n cp : Nat) (hn : n ≤ 1000) (w : World) :
    Calls Tryz.prog 38 #[.slice ao n cp] w fun e w' => e = .returned (.int .u64 n) ∧ w' = w := by
  go_enter Tryz.func38, Tryz.ntmps38
  go_wp2
  go_ret
  exact ⟨rfl, rfl⟩
/-- A code and a value. -/
def ResIntT (w : World) (c v : Int) (e : Ending) (w' : World) : Prop := e = .returned (.agg #[.int .i64 c, .int .i64 v]) ∧ Below w.heap.size w w'
set_option maxRecDepth 100000 in
set_option maxHeartbeats 2000000 in
theorem implLinks_is (y : Value) (B n : Nat) (F : Nat → Int) (a c z : Int) (w : World) (h : Row w B 2 n F y) (hn : n ≤ 1048576) (ha : LnkAns n F a c z) :
    Calls Tryz.prog 17 #[y, .int .i64 a] w (ResIntT w c z) := by
  have H : Hid (Row w B 2 n F y) := h
  clear h
  have HZ : Hid (Below w.heap.size w (w.alloc (.cells #[.int .i64 0, .int .i64 0] 45))) := below_alloc _ _
  rcases ha with ⟨h1, rfl, rfl⟩ | ⟨h1, h2, rfl, rfl⟩ | ⟨h1, h2, rfl, rfl⟩
  · obtain ⟨f, hf⟩ : ∃ f, pairsF F n 0 = f := ⟨_, rfl⟩
    have HF : Hid (pairsF F n 0 = f ∧ True) := ⟨hf, trivial⟩
    have dd : (f != 0) = true := bne_iff_ne.2 (by rw [← hf]; exact h1)
    rw [hf]
    clear h1 hf
    go_enter Tryz.func17, Tryz.ntmps17
    go_wp2_with fail
    refine (implPairs_any _ B n F _ (H.out.alloc _) hn).mono ?_
    rintro e w1 ⟨rfl, q1⟩
    rw [HF.out.1]
    have hb := (Blk2.new w (.int .i64 0) (.int .i64 0) 45).later q1
    have HB : Hid (Below w.heap.size w w1) := HZ.out.trans (q1.mono (by simp))
    obtain ⟨⟨x0, x1⟩, y0, y1⟩ := hb
    clear q1
    go_wp2
    refine bodyPost_ret (v := .agg #[.int .i64 f, .int .i64 (0)]) (by simp [results, Tryz.results17, go_sem, x0, x1]) rfl ⟨rfl, ?_⟩
    exact (HB.out.setCell (by simp) _).setCell (by simp) _
  · have HF : Hid (pairsF F n 0 = 0 ∧ True) := ⟨h1, trivial⟩
    have D1 : Hid (decide (0 ≤ a ∧ a ≤ 9) = false) := decide_eq_false h2
    clear h2 h1
    go_enter Tryz.func17, Tryz.ntmps17
    go_wp2_with fail
    refine (implPairs_any _ B n F _ (H.out.alloc _) hn).mono ?_
    rintro e w1 ⟨rfl, q1⟩
    rw [HF.out.1]
    have hb := (Blk2.new w (.int .i64 0) (.int .i64 0) 45).later q1
    have HB : Hid (Below w.heap.size w w1) := HZ.out.trans (q1.mono (by simp))
    obtain ⟨⟨x0, x1⟩, y0, y1⟩ := hb
    clear q1
    go_wp2_with fail
    refine (isInodeT_is _ _ D1.out _).mono ?_
    rintro e w9 ⟨rfl, hw9⟩
    obtain rfl := hw9.symm
    go_wp2
    refine bodyPost_ret (v := .agg #[.int .i64 3, .int .i64 (0)]) (by simp [results, Tryz.results17, go_sem, x0, x1]) rfl ⟨rfl, ?_⟩
    exact (HB.out.setCell (by simp) _).setCell (by simp) _
  · have HF : Hid (pairsF F n 0 = 0 ∧ True) := ⟨h1, trivial⟩
    have D1 : Hid (decide (0 ≤ a ∧ a ≤ 9) = true) := decide_eq_true h2
    have hn2 := (pairs_rise h1).2
    clear h1 h2
    go_enter Tryz.func17, Tryz.ntmps17
    go_wp2_with fail
    refine (implPairs_any _ B n F _ (H.out.alloc _) hn).mono ?_
    rintro e w1 ⟨rfl, q1⟩
    rw [HF.out.1]
    have hb := (Blk2.new w (.int .i64 0) (.int .i64 0) 45).later q1
    have HB : Hid (Below w.heap.size w w1) := HZ.out.trans (q1.mono (by simp))
    obtain ⟨⟨x0, x1⟩, y0, y1⟩ := hb
    clear q1
    have hBK : Hid (Blk2 w1 w.heap.size (.int .i64 0) (.int .i64 0)) := ⟨⟨x0, x1⟩, y0, y1⟩
    clear x0 x1 y0 y1
    go_wp2_with fail
    refine (isInodeT_is _ _ D1.out _).mono ?_
    rintro e w9 ⟨rfl, hw9⟩
    obtain rfl := hw9.symm
    go_wp2_with fail
    refine (hangingIn_is (listOf F n) _ B _ (row_list (H.out.later HB.out)) (pairs_rise HF.out.1).1 (by rw [listOf_length]; omega) (pairs_keys HF.out.1)).mono ?_
    rintro e w2 ⟨b, rb, mb, lv, rfl, hl, ho, _, q2⟩
    obtain ⟨lo, lc, rfl⟩ := ho.form
    have hK1 : (lnkL (listOf F n)).length ≤ 200 := by have := lnkL_len (listOf F n); rw [listOf_length] at this; omega
    have HB2 : Hid (Below w.heap.size w w2 ∧ Blk2 w2 w.heap.size (.int .i64 0) (.int .i64 0) ∧ Own w2 (b + 1) 100 2 (lnkL (listOf F n)).length (rowL (lnkL (listOf F n))) (.slice lo (lnkL (listOf F n)).length lc)) := ⟨HB.out.trans (q2.mono HB.out.size), hBK.out.later q2, own_eqP (ho.own (flatL_length _)) fun p _ => flatL_get _ p⟩
    clear hl ho q2 HB hBK
    go_wp2_with fail
    refine (linksTo_is (lnkL (listOf F n)) ⟨b, 0, none⟩ _ (b + 1) a _ HB2.out.2.2.row.1 (by omega)).mono ?_
    rintro e w3 ⟨mv, rfl, hm, q3⟩
    obtain ⟨mo, mc, rfl⟩ := hm.form
    have hK2 : (toL (lnkL (listOf F n)) a).length ≤ 200 := by have := toL_len (lnkL (listOf F n)) a; omega
    have HB3 : Hid (Below w.heap.size w w3 ∧ Blk2 w3 w.heap.size (.int .i64 0) (.int .i64 0)) := ⟨HB2.out.1.trans (q3.mono HB2.out.1.size), HB2.out.2.1.later q3⟩
    clear hm q3 HB2
    go_wp2_with fail
    refine (countLinks_is mo _ mc (by omega) _).mono ?_
    rintro e w9 ⟨rfl, hw9⟩
    obtain rfl := hw9.symm
    obtain ⟨⟨x0, x1⟩, y0, y1⟩ := HB3.out.2
    obtain ⟨q, hq⟩ : ∃ q, (toL (lnkL (listOf F n)) a).length = q := ⟨_, rfl⟩
    have HQ : Hid (linkN (listOf F n) a = q) := hq
    rw [hq] at hK2 ⊢
    clear hq
    go_wp2
    refine bodyPost_ret (v := .agg #[.int .i64 0, .int .i64 q]) (by simp [results, Tryz.results17, go_sem, x0, x1]) rfl ⟨by rw [HQ.out], ?_⟩
    exact (HB3.out.1.setCell (by simp) _).setCell (by simp) _
end Go.Proofs.YtnchaccgenfhoaaGreat

namespace Go.Proofs.YtnchaccgenfhoaaGreat
open Go.RowKit

/-- An entry of an inode that does not hang as it must. -/
def badE (L : Prs) (has dir : Bool) (a : Int) (e : Int × Int) : Bool := (partK e.1 == 2) && ((e.2 == a) && (!has || (!(dirB L (partA e.1)) || (dir && decide (partA e.1 ≥ a)))))
def dirV (r : Bool) (z : Int) : Bool := r && (z == 1000)
def fileV (r : Bool) (z c : Int) : Bool := r && (decide (c > 0) && (z == 2000 + c))
/-- Does an inode hang together? r, z: whether it has a value, and which; c: its entries; s: whether it has bytes. -/
def inodeV (L : Prs) (r : Bool) (z c : Int) (s : Bool) (nx a : Int) : Bool :=
  !(r && (decide (a ≥ nx) || (!(dirV r z) && !(fileV r z c)))) && (!(dirV r z && ((a != 0 && c != 1) || (a == 0 && c != 0))) && (!(s && !(fileV r z c)) && L.all (fun e => !(badE L r (dirV r z) a e))))
def inodeB (L : Prs) (nx a : Int) : Bool := inodeV L (lookF L (kI a)).1 (lookF L (kI a)).2 (linkN L a) (lookF L (kB a)).1 nx a
theorem all_ok {L : Prs} {p : Int × Int → Bool} (h : ∀ j, j < L.length → p (L.getD j (0, 0)) = false) : (L.all fun e => !(p e)) = true := by
  rw [List.all_eq_true]
  intro e he
  obtain ⟨i, hi, rfl⟩ := List.getElem_of_mem he
  have := h i hi
  rw [List.getD_eq_getElem?_getD, List.getElem?_eq_getElem hi] at this
  simpa using this
theorem all_no {L : Prs} {p : Int × Int → Bool} {j : Nat} (hj : j < L.length) (h : p (L.getD j (0, 0)) = true) : (L.all fun e => !(p e)) = false := by
  rw [List.all_eq_false]
  refine ⟨L[j], List.getElem_mem hj, ?_⟩
  rw [List.getD_eq_getElem?_getD, List.getElem?_eq_getElem hj] at h
  simpa using h
theorem partA_in {key : Int} (h : partK key = 2) : 0 ≤ partA key ∧ partA key ≤ 9 := by
  rcases parts_ways key with ⟨_, e1, _, _⟩ | ⟨_, _, e1, _, _⟩ | ⟨_, _, _, e1, _, _⟩ | ⟨h1, h2, _, _, e1, e2, _⟩ | ⟨_, _, _, e1, _, _⟩
  · omega
  · omega
  · omega
  · rw [e2]; omega
  · omega

set_option maxRecDepth 100000 in
set_option maxHeartbeats 4000000 in
theorem l14Inode_is (L : Prs) (v : Value) (B : Nat) (a nx : Int) (w : World) (h : Row w B 2 L.length (rowL L) v) (hn1 : L.length ≤ 1000) (hf : KeysOk L) (ha : 0 ≤ a ∧ a ≤ 9) :
    Calls Tryz.prog 56 #[v, .int .i64 a, .int .i64 nx] w fun e w' => e = .returned (.bool (inodeB L nx a)) ∧ w' = w := by
  obtain ⟨ao, cp, rfl⟩ := h.form
  have hn : L.length ≤ 1048576 := by omega
  have H : Hid (Row w B 2 L.length (rowL L) (.slice ao L.length cp) ∧ KeysOk L ∧ (0 ≤ a ∧ a ≤ 9)) := ⟨h, hf, ha⟩
  obtain ⟨t, ht⟩ : ∃ t, lookF L (kI a) = t := ⟨_, rfl⟩
  obtain ⟨r, z⟩ := t
  obtain ⟨t, hu⟩ : ∃ t, lookF L (kB a) = t := ⟨_, rfl⟩
  obtain ⟨s, sz⟩ := t
  obtain ⟨c, hc⟩ : ∃ c : Int, ((linkN L a : Nat) : Int) = c := ⟨_, rfl⟩
  have hc0 : 0 ≤ c ∧ c ≤ 1000 := by
    have := toL_len (lnkL L) a
    have := lnkL_len L
    unfold linkN at hc
    omega
  have HV : Hid (lookF L (kI a) = (r, z) ∧ ((linkN L a : Nat) : Int) = c ∧ lookF L (kB a) = (s, sz)) := ⟨ht, hc, hu⟩
  obtain ⟨res, hres⟩ : ∃ res, inodeB L nx a = res := ⟨_, rfl⟩
  have hR : inodeV L r z c s nx a = res := by rw [← hres]; unfold inodeB; rw [ht, hc, hu]
  rw [hres]
  clear h hf ha ht hu hc hres
  cases r with
  | false =>
    cases s with
    | true =>
      have HQ : Hid (res = false) := by unfold Hid; rw [← hR]; simp [inodeV, dirV, fileV]
      clear hR
      go_enter Tryz.func56, Tryz.ntmps56
      go_wp2_with fail
      refine (ofI_is a H.out.2.2 _).mono ?_
      rintro e w9 ⟨rfl, hw9⟩
      obtain rfl := hw9.symm
      go_wp2_with fail
      refine (l11Value_any L _ B (kI a) _ H.out.1 hn).mono ?_
      rintro e w9 ⟨rfl, hw9⟩
      obtain rfl := hw9.symm
      rw [HV.out.1]
      go_wp2_with fail
      refine (l14Links_is L _ B a _ H.out.1 hn1 H.out.2.1).mono ?_
      rintro e w9 ⟨rfl, hw9⟩
      obtain rfl := hw9.symm
      rw [HV.out.2.1]
      go_wp2_with fail
      refine (ofB_is a H.out.2.2 _).mono ?_
      rintro e w9 ⟨rfl, hw9⟩
      obtain rfl := hw9.symm
      go_wp2_with fail
      refine (l11Value_any L _ B (kB a) _ H.out.1 hn).mono ?_
      rintro e w9 ⟨rfl, hw9⟩
      obtain rfl := hw9.symm
      rw [HV.out.2.2]
      go_wp2
      go_ret
      rw [(HQ.out : res = false)]
      exact ⟨rfl, rfl⟩
    | false =>
      have HR : Hid (res = L.all (fun e => !(badE L false false a e))) := by unfold Hid; rw [← hR]; simp [inodeV, dirV, fileV]
      clear hR
      go_enter Tryz.func56, Tryz.ntmps56
      go_wp2_with fail
      refine (ofI_is a H.out.2.2 _).mono ?_
      rintro e w9 ⟨rfl, hw9⟩
      obtain rfl := hw9.symm
      go_wp2_with fail
      refine (l11Value_any L _ B (kI a) _ H.out.1 hn).mono ?_
      rintro e w9 ⟨rfl, hw9⟩
      obtain rfl := hw9.symm
      rw [HV.out.1]
      go_wp2_with fail
      refine (l14Links_is L _ B a _ H.out.1 hn1 H.out.2.1).mono ?_
      rintro e w9 ⟨rfl, hw9⟩
      obtain rfl := hw9.symm
      rw [HV.out.2.1]
      go_wp2_with fail
      refine (ofB_is a H.out.2.2 _).mono ?_
      rintro e w9 ⟨rfl, hw9⟩
      obtain rfl := hw9.symm
      go_wp2_with fail
      refine (l11Value_any L _ B (kB a) _ H.out.1 hn).mono ?_
      rintro e w9 ⟨rfl, hw9⟩
      obtain rfl := hw9.symm
      rw [HV.out.2.2]
      go_wp2
      go_loopw [14] (fun i wr => ∃ k : Nat, k ≤ L.length ∧ i = .int .i64 k ∧ Hid (∀ j, j < k → badE L false false a (L.getD j (0, 0)) = false) ∧ wr = w) (fun i _ => L.length - (intOf i).toNat)
      case atStart => exact ⟨0, Nat.zero_le _, rfl, fun j hj => absurd hj (Nat.not_lt_zero j), rfl⟩
      case round =>
        obtain ⟨k, hk, rfl, HS, rfl⟩ := hrel
        by_cases hlt : k < L.length
        case neg =>
          have HE : Hid (res = true) := HR.out.trans (all_ok fun j hj => HS.out j (by omega))
          clear HS HR
          go_wp2
          go_ret
          rw [HE.out]
          exact ⟨rfl, rfl⟩
        obtain ⟨g, o, hao, _, hg, y0, y1⟩ := H.out.1.at2 hlt
        subst hao
        rw [rowL_key] at y0
        rw [rowL_val] at y1
        obtain ⟨n0, N0⟩ : ∃ x, (L.getD k (0, 0)).1 = x := ⟨_, rfl⟩
        rw [N0] at y0
        obtain ⟨n1, N1⟩ : ∃ x, (L.getD k (0, 0)).2 = x := ⟨_, rfl⟩
        rw [N1] at y1
        have HF : Hid (faultOf n0 = 0) := by have := H.out.2.1 k hlt; rwa [N0] at this
        obtain ⟨kk, hkk⟩ : ∃ x, partK n0 = x := ⟨_, rfl⟩
        obtain ⟨ka, hka⟩ : ∃ x, partA n0 = x := ⟨_, rfl⟩
        obtain ⟨kb, hkb⟩ : ∃ x, partB n0 = x := ⟨_, rfl⟩
        have HK : Hid (partK n0 = kk ∧ partA n0 = ka ∧ partB n0 = kb) := ⟨hkk, hka, hkb⟩
        obtain ⟨q, hq⟩ : ∃ q, badE L false false a (L.getD k (0, 0)) = q := ⟨_, rfl⟩
        have HQ : Hid (badE L false false a (L.getD k (0, 0)) = q) := hq
        have hq2 : ((kk == 2) && ((n1 == a) && (!false || (!(dirB L ka) || (false && decide (ka ≥ a)))))) = q := by rw [← hq, ← hkk, ← hka, ← N0, ← N1]; rfl
        have hkr : kk = 2 → 0 ≤ ka ∧ ka ≤ 9 := fun e => by rw [← hka]; exact partA_in (hkk.trans e)
        clear hq N0 N1 hkk hka hkb
        have HON : Hid (q = false → ∀ j, j < k + 1 → badE L false false a (L.getD j (0, 0)) = false) := fun e j hj => by
          rcases Nat.eq_or_lt_of_le (Nat.lt_succ_iff.1 hj) with rfl | qq
          · exact HQ.out.trans e
          · exact HS.out j qq
        have HNO : Hid (q = true → res = false) := fun e => HR.out.trans (all_no hlt (HQ.out.trans e))
        clear HS HR HQ
        by_cases h2 : kk = 2
        · subst h2
          have hkr2 := hkr rfl
          clear hkr
          by_cases h3 : n1 = a
          · have dn : (n1 != a) = false := by simp [h3]
            have HX := HNO.out (by rw [← hq2]; simp [h3])
            have HX2 : Hid (res = false) := HX
            clear HX hq2 h3 HON HNO
            go_wp2_with fail
            refine (l1Parts_is n0 HF.out _).mono ?_
            rintro e w9 ⟨rfl, hw9⟩
            obtain rfl := hw9.symm
            rw [HK.out.1, HK.out.2.1, HK.out.2.2]
            go_wp2
            go_ret
            rw [HX2.out]
            exact ⟨rfl, rfl⟩
          · have dn : (n1 != a) = true := bne_iff_ne.2 h3
            have HX := HON.out (by rw [← hq2, beq_eq_false_iff_ne.2 h3]; simp)
            have HX2 : Hid (∀ j, j < k + 1 → badE L false false a (L.getD j (0, 0)) = false) := HX
            clear HX hq2 h3 HON HNO
            go_wp2_with fail
            refine (l1Parts_is n0 HF.out _).mono ?_
            rintro e w9 ⟨rfl, hw9⟩
            obtain rfl := hw9.symm
            rw [HK.out.1, HK.out.2.1, HK.out.2.2]
            go_wp2
            go_roundw
            case rel => exact ⟨k + 1, by omega, by go_num, HX2, trivial⟩
            case measure => simp [intOf]; omega
        · have dk : (kk != 2) = true := bne_iff_ne.2 h2
          have HX := HON.out (by rw [← hq2, beq_eq_false_iff_ne.2 h2]; simp)
          have HX2 : Hid (∀ j, j < k + 1 → badE L false false a (L.getD j (0, 0)) = false) := HX
          clear HX hq2 h2 HON HNO hkr
          go_wp2_with fail
          refine (l1Parts_is n0 HF.out _).mono ?_
          rintro e w9 ⟨rfl, hw9⟩
          obtain rfl := hw9.symm
          rw [HK.out.1, HK.out.2.1, HK.out.2.2]
          go_wp2
          go_roundw
          case rel => exact ⟨k + 1, by omega, by go_num, HX2, trivial⟩
          case measure => simp [intOf]; omega
  | true =>
    by_cases hnx : a ≥ nx
    · have HQ : Hid (res = false) := by unfold Hid; rw [← hR]; simp [inodeV, hnx]
      have d1 : decide (a ≥ nx) = true := decide_eq_true hnx
      clear hR hnx
      by_cases hz : z = 1000
      · have dz : (z == 1000) = true := beq_iff_eq.2 hz
        subst hz
        by_cases hcp : c > 0
        · have dc : decide (c > 0) = true := decide_eq_true hcp
          have df : ((1000 : Int) == 2000 + c) = false := beq_eq_false_iff_ne.2 (by omega)
          go_enter Tryz.func56, Tryz.ntmps56
          go_wp2_with fail
          refine (ofI_is a H.out.2.2 _).mono ?_
          rintro e w9 ⟨rfl, hw9⟩
          obtain rfl := hw9.symm
          go_wp2_with fail
          refine (l11Value_any L _ B (kI a) _ H.out.1 hn).mono ?_
          rintro e w9 ⟨rfl, hw9⟩
          obtain rfl := hw9.symm
          rw [HV.out.1]
          go_wp2_with fail
          refine (l14Links_is L _ B a _ H.out.1 hn1 H.out.2.1).mono ?_
          rintro e w9 ⟨rfl, hw9⟩
          obtain rfl := hw9.symm
          rw [HV.out.2.1]
          go_wp2
          go_ret
          rw [(HQ.out : res = false)]
          exact ⟨rfl, rfl⟩
        · have dc : decide (c > 0) = false := decide_eq_false hcp
          go_enter Tryz.func56, Tryz.ntmps56
          go_wp2_with fail
          refine (ofI_is a H.out.2.2 _).mono ?_
          rintro e w9 ⟨rfl, hw9⟩
          obtain rfl := hw9.symm
          go_wp2_with fail
          refine (l11Value_any L _ B (kI a) _ H.out.1 hn).mono ?_
          rintro e w9 ⟨rfl, hw9⟩
          obtain rfl := hw9.symm
          rw [HV.out.1]
          go_wp2_with fail
          refine (l14Links_is L _ B a _ H.out.1 hn1 H.out.2.1).mono ?_
          rintro e w9 ⟨rfl, hw9⟩
          obtain rfl := hw9.symm
          rw [HV.out.2.1]
          go_wp2
          go_ret
          rw [(HQ.out : res = false)]
          exact ⟨rfl, rfl⟩
      · have dz : (z == 1000) = false := beq_eq_false_iff_ne.2 hz
        by_cases hcp : c > 0
        · have dc : decide (c > 0) = true := decide_eq_true hcp
          by_cases hzc : z = 2000 + c
          · have df : (z == 2000 + c) = true := beq_iff_eq.2 hzc
            clear hz hzc
            go_enter Tryz.func56, Tryz.ntmps56
            go_wp2_with fail
            refine (ofI_is a H.out.2.2 _).mono ?_
            rintro e w9 ⟨rfl, hw9⟩
            obtain rfl := hw9.symm
            go_wp2_with fail
            refine (l11Value_any L _ B (kI a) _ H.out.1 hn).mono ?_
            rintro e w9 ⟨rfl, hw9⟩
            obtain rfl := hw9.symm
            rw [HV.out.1]
            go_wp2_with fail
            refine (l14Links_is L _ B a _ H.out.1 hn1 H.out.2.1).mono ?_
            rintro e w9 ⟨rfl, hw9⟩
            obtain rfl := hw9.symm
            rw [HV.out.2.1]
            go_wp2
            go_ret
            rw [(HQ.out : res = false)]
            exact ⟨rfl, rfl⟩
          · have df : (z == 2000 + c) = false := beq_eq_false_iff_ne.2 hzc
            clear hz hzc
            go_enter Tryz.func56, Tryz.ntmps56
            go_wp2_with fail
            refine (ofI_is a H.out.2.2 _).mono ?_
            rintro e w9 ⟨rfl, hw9⟩
            obtain rfl := hw9.symm
            go_wp2_with fail
            refine (l11Value_any L _ B (kI a) _ H.out.1 hn).mono ?_
            rintro e w9 ⟨rfl, hw9⟩
            obtain rfl := hw9.symm
            rw [HV.out.1]
            go_wp2_with fail
            refine (l14Links_is L _ B a _ H.out.1 hn1 H.out.2.1).mono ?_
            rintro e w9 ⟨rfl, hw9⟩
            obtain rfl := hw9.symm
            rw [HV.out.2.1]
            go_wp2
            go_ret
            rw [(HQ.out : res = false)]
            exact ⟨rfl, rfl⟩
        · have dc : decide (c > 0) = false := decide_eq_false hcp
          clear hz
          go_enter Tryz.func56, Tryz.ntmps56
          go_wp2_with fail
          refine (ofI_is a H.out.2.2 _).mono ?_
          rintro e w9 ⟨rfl, hw9⟩
          obtain rfl := hw9.symm
          go_wp2_with fail
          refine (l11Value_any L _ B (kI a) _ H.out.1 hn).mono ?_
          rintro e w9 ⟨rfl, hw9⟩
          obtain rfl := hw9.symm
          rw [HV.out.1]
          go_wp2_with fail
          refine (l14Links_is L _ B a _ H.out.1 hn1 H.out.2.1).mono ?_
          rintro e w9 ⟨rfl, hw9⟩
          obtain rfl := hw9.symm
          rw [HV.out.2.1]
          go_wp2
          go_ret
          rw [(HQ.out : res = false)]
          exact ⟨rfl, rfl⟩
    · have d1 : decide (a ≥ nx) = false := decide_eq_false hnx
      have hnx2 : decide (a ≥ nx) = false := d1
      by_cases hz : z = 1000
      · subst hz
        have hfv : fileV true 1000 c = false := by
          unfold fileV
          by_cases hcp : c > 0
          · rw [beq_eq_false_iff_ne.2 (show (1000 : Int) ≠ 2000 + c by omega)]; simp
          · simp [hcp]
        unfold inodeV at hR
        rw [hfv, hnx2] at hR
        simp only [dirV, Bool.true_and, Bool.not_false, Bool.and_true, Bool.false_or, beq_self_eq_true, Bool.not_true] at hR
        by_cases ha0 : a = 0
        · have da : (a != 0) = false := by simp [ha0]
          have db : (a == 0) = true := by simp [ha0]
          by_cases hc0' : c = 0
          · have dc : decide (c > 0) = false := decide_eq_false (by omega)
            have dd : (c != 0) = false := by simp [hc0']
            cases s with
            | true =>
              have HQ : Hid (res = false) := by unfold Hid; rw [← hR]; simp
              clear hR hfv ha0 hc0'
              go_enter Tryz.func56, Tryz.ntmps56
              go_wp2_with fail
              refine (ofI_is a H.out.2.2 _).mono ?_
              rintro e w9 ⟨rfl, hw9⟩
              obtain rfl := hw9.symm
              go_wp2_with fail
              refine (l11Value_any L _ B (kI a) _ H.out.1 hn).mono ?_
              rintro e w9 ⟨rfl, hw9⟩
              obtain rfl := hw9.symm
              rw [HV.out.1]
              go_wp2_with fail
              refine (l14Links_is L _ B a _ H.out.1 hn1 H.out.2.1).mono ?_
              rintro e w9 ⟨rfl, hw9⟩
              obtain rfl := hw9.symm
              rw [HV.out.2.1]
              go_wp2_with fail
              refine (ofB_is a H.out.2.2 _).mono ?_
              rintro e w9 ⟨rfl, hw9⟩
              obtain rfl := hw9.symm
              go_wp2_with fail
              refine (l11Value_any L _ B (kB a) _ H.out.1 hn).mono ?_
              rintro e w9 ⟨rfl, hw9⟩
              obtain rfl := hw9.symm
              rw [HV.out.2.2]
              go_wp2
              go_ret
              rw [(HQ.out : res = false)]
              exact ⟨rfl, rfl⟩
            | false =>
              have HR : Hid (res = L.all (fun e => !(badE L true true a e))) := by unfold Hid; rw [← hR]; simp [ha0, hc0']
              clear hR hfv ha0 hc0'
              go_enter Tryz.func56, Tryz.ntmps56
              go_wp2_with fail
              refine (ofI_is a H.out.2.2 _).mono ?_
              rintro e w9 ⟨rfl, hw9⟩
              obtain rfl := hw9.symm
              go_wp2_with fail
              refine (l11Value_any L _ B (kI a) _ H.out.1 hn).mono ?_
              rintro e w9 ⟨rfl, hw9⟩
              obtain rfl := hw9.symm
              rw [HV.out.1]
              go_wp2_with fail
              refine (l14Links_is L _ B a _ H.out.1 hn1 H.out.2.1).mono ?_
              rintro e w9 ⟨rfl, hw9⟩
              obtain rfl := hw9.symm
              rw [HV.out.2.1]
              go_wp2_with fail
              refine (ofB_is a H.out.2.2 _).mono ?_
              rintro e w9 ⟨rfl, hw9⟩
              obtain rfl := hw9.symm
              go_wp2_with fail
              refine (l11Value_any L _ B (kB a) _ H.out.1 hn).mono ?_
              rintro e w9 ⟨rfl, hw9⟩
              obtain rfl := hw9.symm
              rw [HV.out.2.2]
              go_wp2
              go_loopw [14] (fun i wr => ∃ k : Nat, k ≤ L.length ∧ i = .int .i64 k ∧ Hid (∀ j, j < k → badE L true true a (L.getD j (0, 0)) = false) ∧ wr = w) (fun i _ => L.length - (intOf i).toNat)
              case atStart => exact ⟨0, Nat.zero_le _, rfl, fun j hj => absurd hj (Nat.not_lt_zero j), rfl⟩
              case round =>
                obtain ⟨k, hk, rfl, HS, rfl⟩ := hrel
                by_cases hlt : k < L.length
                case neg =>
                  have HE : Hid (res = true) := HR.out.trans (all_ok fun j hj => HS.out j (by omega))
                  clear HS HR
                  go_wp2
                  go_ret
                  rw [HE.out]
                  exact ⟨rfl, rfl⟩
                obtain ⟨g, o, hao, _, hg, y0, y1⟩ := H.out.1.at2 hlt
                subst hao
                rw [rowL_key] at y0
                rw [rowL_val] at y1
                obtain ⟨n0, N0⟩ : ∃ x, (L.getD k (0, 0)).1 = x := ⟨_, rfl⟩
                rw [N0] at y0
                obtain ⟨n1, N1⟩ : ∃ x, (L.getD k (0, 0)).2 = x := ⟨_, rfl⟩
                rw [N1] at y1
                have HF : Hid (faultOf n0 = 0) := by have := H.out.2.1 k hlt; rwa [N0] at this
                obtain ⟨kk, hkk⟩ : ∃ x, partK n0 = x := ⟨_, rfl⟩
                obtain ⟨ka, hka⟩ : ∃ x, partA n0 = x := ⟨_, rfl⟩
                obtain ⟨kb, hkb⟩ : ∃ x, partB n0 = x := ⟨_, rfl⟩
                have HK : Hid (partK n0 = kk ∧ partA n0 = ka ∧ partB n0 = kb) := ⟨hkk, hka, hkb⟩
                obtain ⟨q, hq⟩ : ∃ q, badE L true true a (L.getD k (0, 0)) = q := ⟨_, rfl⟩
                have HQ : Hid (badE L true true a (L.getD k (0, 0)) = q) := hq
                have hq2 : ((kk == 2) && ((n1 == a) && (!true || (!(dirB L ka) || (true && decide (ka ≥ a)))))) = q := by rw [← hq, ← hkk, ← hka, ← N0, ← N1]; rfl
                have hkr : kk = 2 → 0 ≤ ka ∧ ka ≤ 9 := fun e => by rw [← hka]; exact partA_in (hkk.trans e)
                clear hq N0 N1 hkk hka hkb
                have HON : Hid (q = false → ∀ j, j < k + 1 → badE L true true a (L.getD j (0, 0)) = false) := fun e j hj => by
                  rcases Nat.eq_or_lt_of_le (Nat.lt_succ_iff.1 hj) with rfl | qq
                  · exact HQ.out.trans e
                  · exact HS.out j qq
                have HNO : Hid (q = true → res = false) := fun e => HR.out.trans (all_no hlt (HQ.out.trans e))
                clear HS HR HQ
                by_cases h2 : kk = 2
                · subst h2
                  have hkr2 := hkr rfl
                  clear hkr
                  by_cases h3 : n1 = a
                  · have dn : (n1 != a) = false := by simp [h3]
                    obtain ⟨db, hdb⟩ : ∃ db, dirB L ka = db := ⟨_, rfl⟩
                    have HD : Hid (dirB L ka = db) := hdb
                    rw [hdb] at hq2
                    clear hdb
                    cases db with
                    | false =>
                      have HX := HNO.out (by rw [← hq2]; simp [h3])
                      have HX2 : Hid (res = false) := HX
                      clear HX hq2 h3 HON HNO
                      go_wp2_with fail
                      refine (l1Parts_is n0 HF.out _).mono ?_
                      rintro e w9 ⟨rfl, hw9⟩
                      obtain rfl := hw9.symm
                      rw [HK.out.1, HK.out.2.1, HK.out.2.2]
                      go_wp2_with fail
                      refine (l13Dir_is L _ B ka _ H.out.1 hn hkr2).mono ?_
                      rintro e w9 ⟨rfl, hw9⟩
                      obtain rfl := hw9.symm
                      rw [HD.out]
                      go_wp2
                      go_ret
                      rw [HX2.out]
                      exact ⟨rfl, rfl⟩
                    | true =>
                      by_cases hge : ka ≥ a
                      · have HX := HNO.out (by rw [← hq2]; simp [h3, hge])
                        have HX2 : Hid (res = false) := HX
                        have dg : decide (ka ≥ a) = true := decide_eq_true hge
                        clear HX hq2 h3 HON HNO hge
                        go_wp2_with fail
                        refine (l1Parts_is n0 HF.out _).mono ?_
                        rintro e w9 ⟨rfl, hw9⟩
                        obtain rfl := hw9.symm
                        rw [HK.out.1, HK.out.2.1, HK.out.2.2]
                        go_wp2_with fail
                        refine (l13Dir_is L _ B ka _ H.out.1 hn hkr2).mono ?_
                        rintro e w9 ⟨rfl, hw9⟩
                        obtain rfl := hw9.symm
                        rw [HD.out]
                        go_wp2
                        go_ret
                        rw [HX2.out]
                        exact ⟨rfl, rfl⟩
                      · have HX := HON.out (by rw [← hq2]; simp; intro _; omega)
                        have HX2 : Hid (∀ j, j < k + 1 → badE L true true a (L.getD j (0, 0)) = false) := HX
                        have dg : decide (ka ≥ a) = false := decide_eq_false hge
                        clear HX hq2 h3 HON HNO hge
                        go_wp2_with fail
                        refine (l1Parts_is n0 HF.out _).mono ?_
                        rintro e w9 ⟨rfl, hw9⟩
                        obtain rfl := hw9.symm
                        rw [HK.out.1, HK.out.2.1, HK.out.2.2]
                        go_wp2_with fail
                        refine (l13Dir_is L _ B ka _ H.out.1 hn hkr2).mono ?_
                        rintro e w9 ⟨rfl, hw9⟩
                        obtain rfl := hw9.symm
                        rw [HD.out]
                        go_wp2
                        go_roundw
                        case rel => exact ⟨k + 1, by omega, by go_num, HX2, trivial⟩
                        case measure => simp [intOf]; omega
                  · have dn : (n1 != a) = true := bne_iff_ne.2 h3
                    have HX := HON.out (by rw [← hq2, beq_eq_false_iff_ne.2 h3]; simp)
                    have HX2 : Hid (∀ j, j < k + 1 → badE L true true a (L.getD j (0, 0)) = false) := HX
                    clear HX hq2 h3 HON HNO
                    go_wp2_with fail
                    refine (l1Parts_is n0 HF.out _).mono ?_
                    rintro e w9 ⟨rfl, hw9⟩
                    obtain rfl := hw9.symm
                    rw [HK.out.1, HK.out.2.1, HK.out.2.2]
                    go_wp2
                    go_roundw
                    case rel => exact ⟨k + 1, by omega, by go_num, HX2, trivial⟩
                    case measure => simp [intOf]; omega
                · have dk : (kk != 2) = true := bne_iff_ne.2 h2
                  have HX := HON.out (by rw [← hq2, beq_eq_false_iff_ne.2 h2]; simp)
                  have HX2 : Hid (∀ j, j < k + 1 → badE L true true a (L.getD j (0, 0)) = false) := HX
                  clear HX hq2 h2 HON HNO hkr
                  go_wp2_with fail
                  refine (l1Parts_is n0 HF.out _).mono ?_
                  rintro e w9 ⟨rfl, hw9⟩
                  obtain rfl := hw9.symm
                  rw [HK.out.1, HK.out.2.1, HK.out.2.2]
                  go_wp2
                  go_roundw
                  case rel => exact ⟨k + 1, by omega, by go_num, HX2, trivial⟩
                  case measure => simp [intOf]; omega
          · have dd : (c != 0) = true := bne_iff_ne.2 hc0'
            have dc : decide (c > 0) = true := decide_eq_true (by omega)
            have df : ((1000 : Int) == 2000 + c) = false := beq_eq_false_iff_ne.2 (by omega)
            have HQ : Hid (res = false) := by unfold Hid; rw [← hR]; simp [ha0, hc0']
            clear hR hfv ha0 hc0'
            go_enter Tryz.func56, Tryz.ntmps56
            go_wp2_with fail
            refine (ofI_is a H.out.2.2 _).mono ?_
            rintro e w9 ⟨rfl, hw9⟩
            obtain rfl := hw9.symm
            go_wp2_with fail
            refine (l11Value_any L _ B (kI a) _ H.out.1 hn).mono ?_
            rintro e w9 ⟨rfl, hw9⟩
            obtain rfl := hw9.symm
            rw [HV.out.1]
            go_wp2_with fail
            refine (l14Links_is L _ B a _ H.out.1 hn1 H.out.2.1).mono ?_
            rintro e w9 ⟨rfl, hw9⟩
            obtain rfl := hw9.symm
            rw [HV.out.2.1]
            go_wp2
            go_ret
            rw [(HQ.out : res = false)]
            exact ⟨rfl, rfl⟩
        · have da : (a != 0) = true := bne_iff_ne.2 ha0
          have db : (a == 0) = false := beq_eq_false_iff_ne.2 ha0
          by_cases hc1 : c = 1
          · subst hc1
            have df : ((1000 : Int) == 2000 + 1) = false := by decide
            cases s with
            | true =>
              have HQ : Hid (res = false) := by unfold Hid; rw [← hR]; simp
              clear hR hfv ha0
              go_enter Tryz.func56, Tryz.ntmps56
              go_wp2_with fail
              refine (ofI_is a H.out.2.2 _).mono ?_
              rintro e w9 ⟨rfl, hw9⟩
              obtain rfl := hw9.symm
              go_wp2_with fail
              refine (l11Value_any L _ B (kI a) _ H.out.1 hn).mono ?_
              rintro e w9 ⟨rfl, hw9⟩
              obtain rfl := hw9.symm
              rw [HV.out.1]
              go_wp2_with fail
              refine (l14Links_is L _ B a _ H.out.1 hn1 H.out.2.1).mono ?_
              rintro e w9 ⟨rfl, hw9⟩
              obtain rfl := hw9.symm
              rw [HV.out.2.1]
              go_wp2_with fail
              refine (ofB_is a H.out.2.2 _).mono ?_
              rintro e w9 ⟨rfl, hw9⟩
              obtain rfl := hw9.symm
              go_wp2_with fail
              refine (l11Value_any L _ B (kB a) _ H.out.1 hn).mono ?_
              rintro e w9 ⟨rfl, hw9⟩
              obtain rfl := hw9.symm
              rw [HV.out.2.2]
              go_wp2
              go_ret
              rw [(HQ.out : res = false)]
              exact ⟨rfl, rfl⟩
            | false =>
              have HR : Hid (res = L.all (fun e => !(badE L true true a e))) := by unfold Hid; rw [← hR]; simp [ha0]
              clear hR hfv ha0
              go_enter Tryz.func56, Tryz.ntmps56
              go_wp2_with fail
              refine (ofI_is a H.out.2.2 _).mono ?_
              rintro e w9 ⟨rfl, hw9⟩
              obtain rfl := hw9.symm
              go_wp2_with fail
              refine (l11Value_any L _ B (kI a) _ H.out.1 hn).mono ?_
              rintro e w9 ⟨rfl, hw9⟩
              obtain rfl := hw9.symm
              rw [HV.out.1]
              go_wp2_with fail
              refine (l14Links_is L _ B a _ H.out.1 hn1 H.out.2.1).mono ?_
              rintro e w9 ⟨rfl, hw9⟩
              obtain rfl := hw9.symm
              rw [HV.out.2.1]
              go_wp2_with fail
              refine (ofB_is a H.out.2.2 _).mono ?_
              rintro e w9 ⟨rfl, hw9⟩
              obtain rfl := hw9.symm
              go_wp2_with fail
              refine (l11Value_any L _ B (kB a) _ H.out.1 hn).mono ?_
              rintro e w9 ⟨rfl, hw9⟩
              obtain rfl := hw9.symm
              rw [HV.out.2.2]
              go_wp2
              go_loopw [14] (fun i wr => ∃ k : Nat, k ≤ L.length ∧ i = .int .i64 k ∧ Hid (∀ j, j < k → badE L true true a (L.getD j (0, 0)) = false) ∧ wr = w) (fun i _ => L.length - (intOf i).toNat)
              case atStart => exact ⟨0, Nat.zero_le _, rfl, fun j hj => absurd hj (Nat.not_lt_zero j), rfl⟩
              case round =>
                obtain ⟨k, hk, rfl, HS, rfl⟩ := hrel
                by_cases hlt : k < L.length
                case neg =>
                  have HE : Hid (res = true) := HR.out.trans (all_ok fun j hj => HS.out j (by omega))
                  clear HS HR
                  go_wp2
                  go_ret
                  rw [HE.out]
                  exact ⟨rfl, rfl⟩
                obtain ⟨g, o, hao, _, hg, y0, y1⟩ := H.out.1.at2 hlt
                subst hao
                rw [rowL_key] at y0
                rw [rowL_val] at y1
                obtain ⟨n0, N0⟩ : ∃ x, (L.getD k (0, 0)).1 = x := ⟨_, rfl⟩
                rw [N0] at y0
                obtain ⟨n1, N1⟩ : ∃ x, (L.getD k (0, 0)).2 = x := ⟨_, rfl⟩
                rw [N1] at y1
                have HF : Hid (faultOf n0 = 0) := by have := H.out.2.1 k hlt; rwa [N0] at this
                obtain ⟨kk, hkk⟩ : ∃ x, partK n0 = x := ⟨_, rfl⟩
                obtain ⟨ka, hka⟩ : ∃ x, partA n0 = x := ⟨_, rfl⟩
                obtain ⟨kb, hkb⟩ : ∃ x, partB n0 = x := ⟨_, rfl⟩
                have HK : Hid (partK n0 = kk ∧ partA n0 = ka ∧ partB n0 = kb) := ⟨hkk, hka, hkb⟩
                obtain ⟨q, hq⟩ : ∃ q, badE L true true a (L.getD k (0, 0)) = q := ⟨_, rfl⟩
                have HQ : Hid (badE L true true a (L.getD k (0, 0)) = q) := hq
                have hq2 : ((kk == 2) && ((n1 == a) && (!true || (!(dirB L ka) || (true && decide (ka ≥ a)))))) = q := by rw [← hq, ← hkk, ← hka, ← N0, ← N1]; rfl
                have hkr : kk = 2 → 0 ≤ ka ∧ ka ≤ 9 := fun e => by rw [← hka]; exact partA_in (hkk.trans e)
                clear hq N0 N1 hkk hka hkb
                have HON : Hid (q = false → ∀ j, j < k + 1 → badE L true true a (L.getD j (0, 0)) = false) := fun e j hj => by
                  rcases Nat.eq_or_lt_of_le (Nat.lt_succ_iff.1 hj) with rfl | qq
                  · exact HQ.out.trans e
                  · exact HS.out j qq
                have HNO : Hid (q = true → res = false) := fun e => HR.out.trans (all_no hlt (HQ.out.trans e))
                clear HS HR HQ
                by_cases h2 : kk = 2
                · subst h2
                  have hkr2 := hkr rfl
                  clear hkr
                  by_cases h3 : n1 = a
                  · have dn : (n1 != a) = false := by simp [h3]
                    obtain ⟨db, hdb⟩ : ∃ db, dirB L ka = db := ⟨_, rfl⟩
                    have HD : Hid (dirB L ka = db) := hdb
                    rw [hdb] at hq2
                    clear hdb
                    cases db with
                    | false =>
                      have HX := HNO.out (by rw [← hq2]; simp [h3])
                      have HX2 : Hid (res = false) := HX
                      clear HX hq2 h3 HON HNO
                      go_wp2_with fail
                      refine (l1Parts_is n0 HF.out _).mono ?_
                      rintro e w9 ⟨rfl, hw9⟩
                      obtain rfl := hw9.symm
                      rw [HK.out.1, HK.out.2.1, HK.out.2.2]
                      go_wp2_with fail
                      refine (l13Dir_is L _ B ka _ H.out.1 hn hkr2).mono ?_
                      rintro e w9 ⟨rfl, hw9⟩
                      obtain rfl := hw9.symm
                      rw [HD.out]
                      go_wp2
                      go_ret
                      rw [HX2.out]
                      exact ⟨rfl, rfl⟩
                    | true =>
                      by_cases hge : ka ≥ a
                      · have HX := HNO.out (by rw [← hq2]; simp [h3, hge])
                        have HX2 : Hid (res = false) := HX
                        have dg : decide (ka ≥ a) = true := decide_eq_true hge
                        clear HX hq2 h3 HON HNO hge
                        go_wp2_with fail
                        refine (l1Parts_is n0 HF.out _).mono ?_
                        rintro e w9 ⟨rfl, hw9⟩
                        obtain rfl := hw9.symm
                        rw [HK.out.1, HK.out.2.1, HK.out.2.2]
                        go_wp2_with fail
                        refine (l13Dir_is L _ B ka _ H.out.1 hn hkr2).mono ?_
                        rintro e w9 ⟨rfl, hw9⟩
                        obtain rfl := hw9.symm
                        rw [HD.out]
                        go_wp2
                        go_ret
                        rw [HX2.out]
                        exact ⟨rfl, rfl⟩
                      · have HX := HON.out (by rw [← hq2]; simp; intro _; omega)
                        have HX2 : Hid (∀ j, j < k + 1 → badE L true true a (L.getD j (0, 0)) = false) := HX
                        have dg : decide (ka ≥ a) = false := decide_eq_false hge
                        clear HX hq2 h3 HON HNO hge
                        go_wp2_with fail
                        refine (l1Parts_is n0 HF.out _).mono ?_
                        rintro e w9 ⟨rfl, hw9⟩
                        obtain rfl := hw9.symm
                        rw [HK.out.1, HK.out.2.1, HK.out.2.2]
                        go_wp2_with fail
                        refine (l13Dir_is L _ B ka _ H.out.1 hn hkr2).mono ?_
                        rintro e w9 ⟨rfl, hw9⟩
                        obtain rfl := hw9.symm
                        rw [HD.out]
                        go_wp2
                        go_roundw
                        case rel => exact ⟨k + 1, by omega, by go_num, HX2, trivial⟩
                        case measure => simp [intOf]; omega
                  · have dn : (n1 != a) = true := bne_iff_ne.2 h3
                    have HX := HON.out (by rw [← hq2, beq_eq_false_iff_ne.2 h3]; simp)
                    have HX2 : Hid (∀ j, j < k + 1 → badE L true true a (L.getD j (0, 0)) = false) := HX
                    clear HX hq2 h3 HON HNO
                    go_wp2_with fail
                    refine (l1Parts_is n0 HF.out _).mono ?_
                    rintro e w9 ⟨rfl, hw9⟩
                    obtain rfl := hw9.symm
                    rw [HK.out.1, HK.out.2.1, HK.out.2.2]
                    go_wp2
                    go_roundw
                    case rel => exact ⟨k + 1, by omega, by go_num, HX2, trivial⟩
                    case measure => simp [intOf]; omega
                · have dk : (kk != 2) = true := bne_iff_ne.2 h2
                  have HX := HON.out (by rw [← hq2, beq_eq_false_iff_ne.2 h2]; simp)
                  have HX2 : Hid (∀ j, j < k + 1 → badE L true true a (L.getD j (0, 0)) = false) := HX
                  clear HX hq2 h2 HON HNO hkr
                  go_wp2_with fail
                  refine (l1Parts_is n0 HF.out _).mono ?_
                  rintro e w9 ⟨rfl, hw9⟩
                  obtain rfl := hw9.symm
                  rw [HK.out.1, HK.out.2.1, HK.out.2.2]
                  go_wp2
                  go_roundw
                  case rel => exact ⟨k + 1, by omega, by go_num, HX2, trivial⟩
                  case measure => simp [intOf]; omega
          · have dd : (c != 1) = true := bne_iff_ne.2 hc1
            have df : ((1000 : Int) == 2000 + c) = false := beq_eq_false_iff_ne.2 (by omega)
            have HQ : Hid (res = false) := by unfold Hid; rw [← hR]; simp [ha0, hc1]
            clear hR hfv ha0 hc1
            by_cases hcp : c > 0
            · have dc : decide (c > 0) = true := decide_eq_true hcp
              go_enter Tryz.func56, Tryz.ntmps56
              go_wp2_with fail
              refine (ofI_is a H.out.2.2 _).mono ?_
              rintro e w9 ⟨rfl, hw9⟩
              obtain rfl := hw9.symm
              go_wp2_with fail
              refine (l11Value_any L _ B (kI a) _ H.out.1 hn).mono ?_
              rintro e w9 ⟨rfl, hw9⟩
              obtain rfl := hw9.symm
              rw [HV.out.1]
              go_wp2_with fail
              refine (l14Links_is L _ B a _ H.out.1 hn1 H.out.2.1).mono ?_
              rintro e w9 ⟨rfl, hw9⟩
              obtain rfl := hw9.symm
              rw [HV.out.2.1]
              go_wp2
              go_ret
              rw [(HQ.out : res = false)]
              exact ⟨rfl, rfl⟩
            · have dc : decide (c > 0) = false := decide_eq_false hcp
              go_enter Tryz.func56, Tryz.ntmps56
              go_wp2_with fail
              refine (ofI_is a H.out.2.2 _).mono ?_
              rintro e w9 ⟨rfl, hw9⟩
              obtain rfl := hw9.symm
              go_wp2_with fail
              refine (l11Value_any L _ B (kI a) _ H.out.1 hn).mono ?_
              rintro e w9 ⟨rfl, hw9⟩
              obtain rfl := hw9.symm
              rw [HV.out.1]
              go_wp2_with fail
              refine (l14Links_is L _ B a _ H.out.1 hn1 H.out.2.1).mono ?_
              rintro e w9 ⟨rfl, hw9⟩
              obtain rfl := hw9.symm
              rw [HV.out.2.1]
              go_wp2
              go_ret
              rw [(HQ.out : res = false)]
              exact ⟨rfl, rfl⟩
      · have dz : (z == 1000) = false := beq_eq_false_iff_ne.2 hz
        by_cases hcp : c > 0
        · have dc : decide (c > 0) = true := decide_eq_true hcp
          by_cases hzc : z = 2000 + c
          · have df : (z == 2000 + c) = true := beq_iff_eq.2 hzc
            have HR : Hid (res = L.all (fun e => !(badE L true false a e))) := by unfold Hid; rw [← hR]; unfold inodeV dirV fileV; rw [hnx2, dz, dc, df]; simp
            clear hR hz hzc
            cases s with
            | true =>
              go_enter Tryz.func56, Tryz.ntmps56
              go_wp2_with fail
              refine (ofI_is a H.out.2.2 _).mono ?_
              rintro e w9 ⟨rfl, hw9⟩
              obtain rfl := hw9.symm
              go_wp2_with fail
              refine (l11Value_any L _ B (kI a) _ H.out.1 hn).mono ?_
              rintro e w9 ⟨rfl, hw9⟩
              obtain rfl := hw9.symm
              rw [HV.out.1]
              go_wp2_with fail
              refine (l14Links_is L _ B a _ H.out.1 hn1 H.out.2.1).mono ?_
              rintro e w9 ⟨rfl, hw9⟩
              obtain rfl := hw9.symm
              rw [HV.out.2.1]
              go_wp2_with fail
              refine (ofB_is a H.out.2.2 _).mono ?_
              rintro e w9 ⟨rfl, hw9⟩
              obtain rfl := hw9.symm
              go_wp2_with fail
              refine (l11Value_any L _ B (kB a) _ H.out.1 hn).mono ?_
              rintro e w9 ⟨rfl, hw9⟩
              obtain rfl := hw9.symm
              rw [HV.out.2.2]
              go_wp2
              go_loopw [14] (fun i wr => ∃ k : Nat, k ≤ L.length ∧ i = .int .i64 k ∧ Hid (∀ j, j < k → badE L true false a (L.getD j (0, 0)) = false) ∧ wr = w) (fun i _ => L.length - (intOf i).toNat)
              case atStart => exact ⟨0, Nat.zero_le _, rfl, fun j hj => absurd hj (Nat.not_lt_zero j), rfl⟩
              case round =>
                obtain ⟨k, hk, rfl, HS, rfl⟩ := hrel
                by_cases hlt : k < L.length
                case neg =>
                  have HE : Hid (res = true) := HR.out.trans (all_ok fun j hj => HS.out j (by omega))
                  clear HS HR
                  go_wp2
                  go_ret
                  rw [HE.out]
                  exact ⟨rfl, rfl⟩
                obtain ⟨g, o, hao, _, hg, y0, y1⟩ := H.out.1.at2 hlt
                subst hao
                rw [rowL_key] at y0
                rw [rowL_val] at y1
                obtain ⟨n0, N0⟩ : ∃ x, (L.getD k (0, 0)).1 = x := ⟨_, rfl⟩
                rw [N0] at y0
                obtain ⟨n1, N1⟩ : ∃ x, (L.getD k (0, 0)).2 = x := ⟨_, rfl⟩
                rw [N1] at y1
                have HF : Hid (faultOf n0 = 0) := by have := H.out.2.1 k hlt; rwa [N0] at this
                obtain ⟨kk, hkk⟩ : ∃ x, partK n0 = x := ⟨_, rfl⟩
                obtain ⟨ka, hka⟩ : ∃ x, partA n0 = x := ⟨_, rfl⟩
                obtain ⟨kb, hkb⟩ : ∃ x, partB n0 = x := ⟨_, rfl⟩
                have HK : Hid (partK n0 = kk ∧ partA n0 = ka ∧ partB n0 = kb) := ⟨hkk, hka, hkb⟩
                obtain ⟨q, hq⟩ : ∃ q, badE L true false a (L.getD k (0, 0)) = q := ⟨_, rfl⟩
                have HQ : Hid (badE L true false a (L.getD k (0, 0)) = q) := hq
                have hq2 : ((kk == 2) && ((n1 == a) && (!true || (!(dirB L ka) || (false && decide (ka ≥ a)))))) = q := by rw [← hq, ← hkk, ← hka, ← N0, ← N1]; rfl
                have hkr : kk = 2 → 0 ≤ ka ∧ ka ≤ 9 := fun e => by rw [← hka]; exact partA_in (hkk.trans e)
                clear hq N0 N1 hkk hka hkb
                have HON : Hid (q = false → ∀ j, j < k + 1 → badE L true false a (L.getD j (0, 0)) = false) := fun e j hj => by
                  rcases Nat.eq_or_lt_of_le (Nat.lt_succ_iff.1 hj) with rfl | qq
                  · exact HQ.out.trans e
                  · exact HS.out j qq
                have HNO : Hid (q = true → res = false) := fun e => HR.out.trans (all_no hlt (HQ.out.trans e))
                clear HS HR HQ
                by_cases h2 : kk = 2
                · subst h2
                  have hkr2 := hkr rfl
                  clear hkr
                  by_cases h3 : n1 = a
                  · have dn : (n1 != a) = false := by simp [h3]
                    obtain ⟨db, hdb⟩ : ∃ db, dirB L ka = db := ⟨_, rfl⟩
                    have HD : Hid (dirB L ka = db) := hdb
                    rw [hdb] at hq2
                    clear hdb
                    cases db with
                    | false =>
                      have HX := HNO.out (by rw [← hq2]; simp [h3])
                      have HX2 : Hid (res = false) := HX
                      clear HX hq2 h3 HON HNO
                      go_wp2_with fail
                      refine (l1Parts_is n0 HF.out _).mono ?_
                      rintro e w9 ⟨rfl, hw9⟩
                      obtain rfl := hw9.symm
                      rw [HK.out.1, HK.out.2.1, HK.out.2.2]
                      go_wp2_with fail
                      refine (l13Dir_is L _ B ka _ H.out.1 hn hkr2).mono ?_
                      rintro e w9 ⟨rfl, hw9⟩
                      obtain rfl := hw9.symm
                      rw [HD.out]
                      go_wp2
                      go_ret
                      rw [HX2.out]
                      exact ⟨rfl, rfl⟩
                    | true =>
                      have HX := HON.out (by rw [← hq2]; simp)
                      have HX2 : Hid (∀ j, j < k + 1 → badE L true false a (L.getD j (0, 0)) = false) := HX
                      clear HX hq2 h3 HON HNO
                      go_wp2_with fail
                      refine (l1Parts_is n0 HF.out _).mono ?_
                      rintro e w9 ⟨rfl, hw9⟩
                      obtain rfl := hw9.symm
                      rw [HK.out.1, HK.out.2.1, HK.out.2.2]
                      go_wp2_with fail
                      refine (l13Dir_is L _ B ka _ H.out.1 hn hkr2).mono ?_
                      rintro e w9 ⟨rfl, hw9⟩
                      obtain rfl := hw9.symm
                      rw [HD.out]
                      go_wp2
                      go_roundw
                      case rel => exact ⟨k + 1, by omega, by go_num, HX2, trivial⟩
                      case measure => simp [intOf]; omega
                  · have dn : (n1 != a) = true := bne_iff_ne.2 h3
                    have HX := HON.out (by rw [← hq2, beq_eq_false_iff_ne.2 h3]; simp)
                    have HX2 : Hid (∀ j, j < k + 1 → badE L true false a (L.getD j (0, 0)) = false) := HX
                    clear HX hq2 h3 HON HNO
                    go_wp2_with fail
                    refine (l1Parts_is n0 HF.out _).mono ?_
                    rintro e w9 ⟨rfl, hw9⟩
                    obtain rfl := hw9.symm
                    rw [HK.out.1, HK.out.2.1, HK.out.2.2]
                    go_wp2
                    go_roundw
                    case rel => exact ⟨k + 1, by omega, by go_num, HX2, trivial⟩
                    case measure => simp [intOf]; omega
                · have dk : (kk != 2) = true := bne_iff_ne.2 h2
                  have HX := HON.out (by rw [← hq2, beq_eq_false_iff_ne.2 h2]; simp)
                  have HX2 : Hid (∀ j, j < k + 1 → badE L true false a (L.getD j (0, 0)) = false) := HX
                  clear HX hq2 h2 HON HNO hkr
                  go_wp2_with fail
                  refine (l1Parts_is n0 HF.out _).mono ?_
                  rintro e w9 ⟨rfl, hw9⟩
                  obtain rfl := hw9.symm
                  rw [HK.out.1, HK.out.2.1, HK.out.2.2]
                  go_wp2
                  go_roundw
                  case rel => exact ⟨k + 1, by omega, by go_num, HX2, trivial⟩
                  case measure => simp [intOf]; omega
            | false =>
              go_enter Tryz.func56, Tryz.ntmps56
              go_wp2_with fail
              refine (ofI_is a H.out.2.2 _).mono ?_
              rintro e w9 ⟨rfl, hw9⟩
              obtain rfl := hw9.symm
              go_wp2_with fail
              refine (l11Value_any L _ B (kI a) _ H.out.1 hn).mono ?_
              rintro e w9 ⟨rfl, hw9⟩
              obtain rfl := hw9.symm
              rw [HV.out.1]
              go_wp2_with fail
              refine (l14Links_is L _ B a _ H.out.1 hn1 H.out.2.1).mono ?_
              rintro e w9 ⟨rfl, hw9⟩
              obtain rfl := hw9.symm
              rw [HV.out.2.1]
              go_wp2_with fail
              refine (ofB_is a H.out.2.2 _).mono ?_
              rintro e w9 ⟨rfl, hw9⟩
              obtain rfl := hw9.symm
              go_wp2_with fail
              refine (l11Value_any L _ B (kB a) _ H.out.1 hn).mono ?_
              rintro e w9 ⟨rfl, hw9⟩
              obtain rfl := hw9.symm
              rw [HV.out.2.2]
              go_wp2
              go_loopw [14] (fun i wr => ∃ k : Nat, k ≤ L.length ∧ i = .int .i64 k ∧ Hid (∀ j, j < k → badE L true false a (L.getD j (0, 0)) = false) ∧ wr = w) (fun i _ => L.length - (intOf i).toNat)
              case atStart => exact ⟨0, Nat.zero_le _, rfl, fun j hj => absurd hj (Nat.not_lt_zero j), rfl⟩
              case round =>
                obtain ⟨k, hk, rfl, HS, rfl⟩ := hrel
                by_cases hlt : k < L.length
                case neg =>
                  have HE : Hid (res = true) := HR.out.trans (all_ok fun j hj => HS.out j (by omega))
                  clear HS HR
                  go_wp2
                  go_ret
                  rw [HE.out]
                  exact ⟨rfl, rfl⟩
                obtain ⟨g, o, hao, _, hg, y0, y1⟩ := H.out.1.at2 hlt
                subst hao
                rw [rowL_key] at y0
                rw [rowL_val] at y1
                obtain ⟨n0, N0⟩ : ∃ x, (L.getD k (0, 0)).1 = x := ⟨_, rfl⟩
                rw [N0] at y0
                obtain ⟨n1, N1⟩ : ∃ x, (L.getD k (0, 0)).2 = x := ⟨_, rfl⟩
                rw [N1] at y1
                have HF : Hid (faultOf n0 = 0) := by have := H.out.2.1 k hlt; rwa [N0] at this
                obtain ⟨kk, hkk⟩ : ∃ x, partK n0 = x := ⟨_, rfl⟩
                obtain ⟨ka, hka⟩ : ∃ x, partA n0 = x := ⟨_, rfl⟩
                obtain ⟨kb, hkb⟩ : ∃ x, partB n0 = x := ⟨_, rfl⟩
                have HK : Hid (partK n0 = kk ∧ partA n0 = ka ∧ partB n0 = kb) := ⟨hkk, hka, hkb⟩
                obtain ⟨q, hq⟩ : ∃ q, badE L true false a (L.getD k (0, 0)) = q := ⟨_, rfl⟩
                have HQ : Hid (badE L true false a (L.getD k (0, 0)) = q) := hq
                have hq2 : ((kk == 2) && ((n1 == a) && (!true || (!(dirB L ka) || (false && decide (ka ≥ a)))))) = q := by rw [← hq, ← hkk, ← hka, ← N0, ← N1]; rfl
                have hkr : kk = 2 → 0 ≤ ka ∧ ka ≤ 9 := fun e => by rw [← hka]; exact partA_in (hkk.trans e)
                clear hq N0 N1 hkk hka hkb
                have HON : Hid (q = false → ∀ j, j < k + 1 → badE L true false a (L.getD j (0, 0)) = false) := fun e j hj => by
                  rcases Nat.eq_or_lt_of_le (Nat.lt_succ_iff.1 hj) with rfl | qq
                  · exact HQ.out.trans e
                  · exact HS.out j qq
                have HNO : Hid (q = true → res = false) := fun e => HR.out.trans (all_no hlt (HQ.out.trans e))
                clear HS HR HQ
                by_cases h2 : kk = 2
                · subst h2
                  have hkr2 := hkr rfl
                  clear hkr
                  by_cases h3 : n1 = a
                  · have dn : (n1 != a) = false := by simp [h3]
                    obtain ⟨db, hdb⟩ : ∃ db, dirB L ka = db := ⟨_, rfl⟩
                    have HD : Hid (dirB L ka = db) := hdb
                    rw [hdb] at hq2
                    clear hdb
                    cases db with
                    | false =>
                      have HX := HNO.out (by rw [← hq2]; simp [h3])
                      have HX2 : Hid (res = false) := HX
                      clear HX hq2 h3 HON HNO
                      go_wp2_with fail
                      refine (l1Parts_is n0 HF.out _).mono ?_
                      rintro e w9 ⟨rfl, hw9⟩
                      obtain rfl := hw9.symm
                      rw [HK.out.1, HK.out.2.1, HK.out.2.2]
                      go_wp2_with fail
                      refine (l13Dir_is L _ B ka _ H.out.1 hn hkr2).mono ?_
                      rintro e w9 ⟨rfl, hw9⟩
                      obtain rfl := hw9.symm
                      rw [HD.out]
                      go_wp2
                      go_ret
                      rw [HX2.out]
                      exact ⟨rfl, rfl⟩
                    | true =>
                      have HX := HON.out (by rw [← hq2]; simp)
                      have HX2 : Hid (∀ j, j < k + 1 → badE L true false a (L.getD j (0, 0)) = false) := HX
                      clear HX hq2 h3 HON HNO
                      go_wp2_with fail
                      refine (l1Parts_is n0 HF.out _).mono ?_
                      rintro e w9 ⟨rfl, hw9⟩
                      obtain rfl := hw9.symm
                      rw [HK.out.1, HK.out.2.1, HK.out.2.2]
                      go_wp2_with fail
                      refine (l13Dir_is L _ B ka _ H.out.1 hn hkr2).mono ?_
                      rintro e w9 ⟨rfl, hw9⟩
                      obtain rfl := hw9.symm
                      rw [HD.out]
                      go_wp2
                      go_roundw
                      case rel => exact ⟨k + 1, by omega, by go_num, HX2, trivial⟩
                      case measure => simp [intOf]; omega
                  · have dn : (n1 != a) = true := bne_iff_ne.2 h3
                    have HX := HON.out (by rw [← hq2, beq_eq_false_iff_ne.2 h3]; simp)
                    have HX2 : Hid (∀ j, j < k + 1 → badE L true false a (L.getD j (0, 0)) = false) := HX
                    clear HX hq2 h3 HON HNO
                    go_wp2_with fail
                    refine (l1Parts_is n0 HF.out _).mono ?_
                    rintro e w9 ⟨rfl, hw9⟩
                    obtain rfl := hw9.symm
                    rw [HK.out.1, HK.out.2.1, HK.out.2.2]
                    go_wp2
                    go_roundw
                    case rel => exact ⟨k + 1, by omega, by go_num, HX2, trivial⟩
                    case measure => simp [intOf]; omega
                · have dk : (kk != 2) = true := bne_iff_ne.2 h2
                  have HX := HON.out (by rw [← hq2, beq_eq_false_iff_ne.2 h2]; simp)
                  have HX2 : Hid (∀ j, j < k + 1 → badE L true false a (L.getD j (0, 0)) = false) := HX
                  clear HX hq2 h2 HON HNO hkr
                  go_wp2_with fail
                  refine (l1Parts_is n0 HF.out _).mono ?_
                  rintro e w9 ⟨rfl, hw9⟩
                  obtain rfl := hw9.symm
                  rw [HK.out.1, HK.out.2.1, HK.out.2.2]
                  go_wp2
                  go_roundw
                  case rel => exact ⟨k + 1, by omega, by go_num, HX2, trivial⟩
                  case measure => simp [intOf]; omega
          · have df : (z == 2000 + c) = false := beq_eq_false_iff_ne.2 hzc
            have HQ : Hid (res = false) := by unfold Hid; rw [← hR]; unfold inodeV dirV fileV; rw [hnx2, dz, dc, df]; simp
            clear hR hz hzc
            go_enter Tryz.func56, Tryz.ntmps56
            go_wp2_with fail
            refine (ofI_is a H.out.2.2 _).mono ?_
            rintro e w9 ⟨rfl, hw9⟩
            obtain rfl := hw9.symm
            go_wp2_with fail
            refine (l11Value_any L _ B (kI a) _ H.out.1 hn).mono ?_
            rintro e w9 ⟨rfl, hw9⟩
            obtain rfl := hw9.symm
            rw [HV.out.1]
            go_wp2_with fail
            refine (l14Links_is L _ B a _ H.out.1 hn1 H.out.2.1).mono ?_
            rintro e w9 ⟨rfl, hw9⟩
            obtain rfl := hw9.symm
            rw [HV.out.2.1]
            go_wp2
            go_ret
            rw [(HQ.out : res = false)]
            exact ⟨rfl, rfl⟩
        · have dc : decide (c > 0) = false := decide_eq_false hcp
          have HQ : Hid (res = false) := by unfold Hid; rw [← hR]; unfold inodeV dirV fileV; rw [hnx2, dz, dc]; simp
          clear hR hz
          go_enter Tryz.func56, Tryz.ntmps56
          go_wp2_with fail
          refine (ofI_is a H.out.2.2 _).mono ?_
          rintro e w9 ⟨rfl, hw9⟩
          obtain rfl := hw9.symm
          go_wp2_with fail
          refine (l11Value_any L _ B (kI a) _ H.out.1 hn).mono ?_
          rintro e w9 ⟨rfl, hw9⟩
          obtain rfl := hw9.symm
          rw [HV.out.1]
          go_wp2_with fail
          refine (l14Links_is L _ B a _ H.out.1 hn1 H.out.2.1).mono ?_
          rintro e w9 ⟨rfl, hw9⟩
          obtain rfl := hw9.symm
          rw [HV.out.2.1]
          go_wp2
          go_ret
          rw [(HQ.out : res = false)]
          exact ⟨rfl, rfl⟩
end Go.Proofs.YtnchaccgenfhoaaGreat

