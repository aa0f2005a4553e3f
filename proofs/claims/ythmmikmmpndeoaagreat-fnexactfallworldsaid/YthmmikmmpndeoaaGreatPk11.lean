/-
  Own text, merged of OrcB, WldV, WldX.
-/
import Derived.Test.YthmmikmmpndeoaaGreatPk10
import Derived.Laws.StructEq
namespace Go.Proofs.YthmmikmmpndeoaaGreat
open Go.RowKit

set_option maxHeartbeats 1000000 in
theorem implCrash_ok (a b : Int) (w : World) (h : oFault a b = 0) :
    Calls Tryz.prog 48 #[.agg #[.int .i64 a, .int .i64 b]] w fun e w' => e = .returned (.agg #[.int .i64 0, .int .i64 0, .int .i64 b, .int .i64 b]) ∧ Below w.heap.size w w' := by
  have HC : Hid (oFault a b = 0) := h
  clear h
  go_enter Tryz.func48, Tryz.ntmps48
  go_wp2_with fail
  refine (implOracleFault_any a b _).mono ?_
  rintro e w1 ⟨rfl, rfl⟩
  rw [HC.out]
  go_wp2
  exact bodyPost_ret (v := .agg #[.int .i64 0, .int .i64 0, .int .i64 b, .int .i64 b]) (by simp [results, Tryz.results48, go_sem]) rfl ⟨rfl, by repeat (first | exact Below.refl _ _ | refine below_drewN ?_ _ | refine Below.setCell ?_ (by first | omega | (simp <;> omega)) _ | refine Below.alloc ?_ (by first | omega | (simp <;> omega)) _)⟩
end Go.Proofs.YthmmikmmpndeoaaGreat

namespace Go.Proofs.YthmmikmmpndeoaaGreat
open Go.RowKit

theorem world_orc {nw nx bd : Int} {nr : Nat} {F : Nat → Int} {n : Nat} {S : Nat → Sto} {nt : Nat} {T : Nat → Tx} (h : worldF nw nx bd nr F n S nt T = 0) : oFault nx bd = 0 := by
  by_cases q : oFault nx bd = 0
  · exact q
  · exact absurd ((worldF_oracle (world_now h) q).symm.trans h) q
theorem Blk6.put1 {x : World} {b : Nat} {a0 a1 a2 a3 a4 a5 : Value} (h : Blk6 x b a0 a1 a2 a3 a4 a5) (c1 : Value) : Blk6 (x.setCell ⟨b, 1, none⟩ c1) b a0 c1 a2 a3 a4 a5 := by
  obtain ⟨⟨h0, h1, h2, h3, h4, h5⟩, f0, f1, f2, f3, f4, f5⟩ := h
  refine ⟨⟨?_, ?_, ?_, ?_, ?_, ?_⟩, ?_, ?_, ?_, ?_, ?_, ?_⟩ <;> go_simp
theorem Blk5w.set12 {x : World} {b : Nat} {a0 a1 a2 a3 a4 : Value} (h : Blk5w x b a0 a1 a2 a3 a4) (u v : Value) : Blk5w ((x.setCell ⟨b, 1, none⟩ u).setCell ⟨b, 2, none⟩ v) b a0 u v a3 a4 := by
  obtain ⟨⟨h0, h1, h2, h3, h4⟩, h5⟩ := h
  refine ⟨⟨?_, ?_, ?_, ?_, ?_⟩, fun j => ?_⟩
  · go_simp
  · go_simp
  · go_simp
  · go_simp
  · go_simp
  · rw [World.frozen?_setCell, World.frozen?_setCell]; exact h5 j
theorem field_oracle (a b c d : Value) (w : World) : (Instr.field 88 (.agg #[a, b, c, d]) 2).run Tryz.prog w = .ok (.agg #[c, d]) w := by kernel_rfl
theorem neqOracle (x0 x1 y0 y1 : Int) (r : Bool) (hr : decide (x0 = y0 ∧ x1 = y1) = r) (w : World) : (binOp .neq 32 (.agg #[.int .i64 x0, .int .i64 x1]) (.agg #[.int .i64 y0, .int .i64 y1])).run Tryz.prog w = .ok (.bool (!r)) w := by
  have hS : Tryz.prog.underlying 32 = some (.struct (Tryz.prog.fieldsOf 32)) := by kernel_rfl
  have hp : Tryz.prog.stoodInHeld 32 = false := by kernel_rfl
  have u2 := Tryz.underlying2
  have a2 := Tryz.isAgg2
  have z2 := Tryz.sizeOf2
  rw [run_neq_struct, show (10000 : Nat) = 9999 + 1 from rfl, run_equalIn_agg w 9999 _ _ _ hS hp]
  simp only [Program.fieldsOf, Tryz.underlying32]
  subst hr
  go_simp
  by_cases h0 : x0 = y0 <;> by_cases h1 : x1 = y1 <;> simp [h0, h1]
/-- What FallWorld answers. -/
def FallAns (nw nx bd : Int) (nr : Nat) (F : Nat → Int) (n : Nat) (S : Nat → Sto) (nt : Nat) (T : Nat → Tx) (c : Int) (mv : Bool) (nw' nx' bd' : Int) (nr' n' nt' : Nat) : Prop :=
  (worldF nw nx bd nr F n S nt T ≠ 0 ∧ c = worldF nw nx bd nr F n S nt T ∧ (mv = false ∧ nw' = 0 ∧ nx' = 0 ∧ bd' = 0 ∧ nr' = 0 ∧ n' = 0 ∧ nt' = 0)) ∨
  (worldF nw nx bd nr F n S nt T = 0 ∧ c = 0 ∧ (mv = (nx != bd) ∧ nw' = nw ∧ nx' = bd ∧ bd' = bd ∧ nr' = nr ∧ n' = n ∧ nt' = nt))
theorem FallAns.get (nw nx bd : Int) (nr : Nat) (F : Nat → Int) (n : Nat) (S : Nat → Sto) (nt : Nat) (T : Nat → Tx) : ∃ c mv nw' nx' bd' nr' n' nt', (nr' ≤ nr ∧ n' ≤ n ∧ nt' ≤ nt) ∧ FallAns nw nx bd nr F n S nt T c mv nw' nx' bd' nr' n' nt' := by
  by_cases h : worldF nw nx bd nr F n S nt T = 0
  · exact ⟨_, _, _, _, _, _, _, _, ⟨Nat.le_refl _, Nat.le_refl _, Nat.le_refl _⟩, Or.inr ⟨h, rfl, rfl, rfl, rfl, rfl, rfl, rfl, rfl⟩⟩
  · exact ⟨_, _, _, _, _, _, _, _, ⟨Nat.zero_le _, Nat.zero_le _, Nat.zero_le _⟩, Or.inl ⟨h, rfl, rfl, rfl, rfl, rfl, rfl, rfl, rfl⟩⟩
set_option maxRecDepth 100000 in
set_option maxHeartbeats 8000000 in
theorem specFall_is (nw nx bd : Int) (nr : Nat) (F : Nat → Int) (n : Nat) (S : Nat → Sto) (V : Nat → Nat → Value) (vr vs : Value) (nt : Nat) (T : Nat → Tx) (X : Nat → Value) (vt : Value) (B : Nat) (c : Int) (mv : Bool) (nw' nx' bd' : Int) (nr' n' nt' : Nat) (w : World) (h : Grs w B nr F n S V vr vs) (hx : Txs w B nt T X vt) (hr : nr ≤ 9223372036854775807) (hn : n ≤ 9223372036854775807) (ht : nt ≤ 9223372036854775807) (hm : ∀ i, i < nt → (T i).m ≤ 9223372036854775807) (hA : FallAns nw nx bd nr F n S nt T c mv nw' nx' bd' nr' n' nt') :
    Calls Tryz.prog 16 #[.agg #[.int .i64 nw, .int .i64 nx, .int .i64 bd, vr, vs, vt]] w (ResWR w c mv nw' nx' bd' nr' F n' S nt' T) := by
  obtain ⟨a0, c0, a1, c1, rfl, rfl⟩ := h.form
  obtain ⟨a2, c2, rfl⟩ := hx.form
  have HM : Hid (∀ i, i < nt → (T i).m ≤ 9223372036854775807) := hm
  have H0 : Hid (LiesD ((w.alloc (.cells #[.int .i64 nw, .int .i64 nx, .int .i64 bd, .slice a0 nr c0, .slice a1 n c1, .slice a2 nt c2] 39)).alloc (.cells #[.int .i64 0, .bool false, .int .i64 0, .int .i64 0, .int .i64 0, .slice none 0 0, .slice none 0 0, .slice none 0 0] 41)) w.heap.size nw nx bd nr F n S V (.slice a0 nr c0) (.slice a1 n c1) nt T X (.slice a2 nt c2) ∧ BlkZ ((w.alloc (.cells #[.int .i64 nw, .int .i64 nx, .int .i64 bd, .slice a0 nr c0, .slice a1 n c1, .slice a2 nt c2] 39)).alloc (.cells #[.int .i64 0, .bool false, .int .i64 0, .int .i64 0, .int .i64 0, .slice none 0 0, .slice none 0 0, .slice none 0 0] 41)) (w.heap.size + 1) (.int .i64 0) (.bool false) (.int .i64 0) (.int .i64 0) (.int .i64 0) (.slice none 0 0) (.slice none 0 0) (.slice none 0 0) ∧ Below w.heap.size w ((w.alloc (.cells #[.int .i64 nw, .int .i64 nx, .int .i64 bd, .slice a0 nr c0, .slice a1 n c1, .slice a2 nt c2] 39)).alloc (.cells #[.int .i64 0, .bool false, .int .i64 0, .int .i64 0, .int .i64 0, .slice none 0 0, .slice none 0 0, .slice none 0 0] 41))) := ⟨⟨(Blk6.new w _ _ _ _ _ _ _).alloc _, ((h.mono (Nat.zero_le _)).alloc _).alloc _, ((hx.mono (Nat.zero_le _)).alloc _).alloc _⟩, by have := BlkZ.new (w.alloc (.cells #[.int .i64 nw, .int .i64 nx, .int .i64 bd, .slice a0 nr c0, .slice a1 n c1, .slice a2 nt c2] 39)) (.int .i64 0) (.bool false) (.int .i64 0) (.int .i64 0) (.int .i64 0) (.slice none 0 0) (.slice none 0 0) (.slice none 0 0) 41; simpa using this, (below_alloc _ _).alloc (by simp) _⟩
  clear h hx hm
  obtain ⟨f, E⟩ : ∃ f, Hid (worldF nw nx bd nr F n S nt T = f) := ⟨_, rfl⟩
  rcases hA with ⟨h1, rfl, rfl, rfl, rfl, rfl, rfl, rfl, rfl⟩ | ⟨h1, rfl, rfl, ew, ex, eb, er, en, et⟩
  · rw [E.out] at h1
    have d : (f != 0) = true := bne_iff_ne.2 h1
    rw [E.out]
    clear h1
    go_enter Tryz.func16, Tryz.ntmps16
    go_wp2_with fail
    refine (l10Fault_any _ nw nx bd nr F n S V _ _ nt T X _ _ H0.out.1 hr hn ht HM.out).mono ?_
    rw [E.out]
    rintro e w1 ⟨rfl, q1⟩
    have H1 : Hid (BlkZ w1 (w.heap.size + 1) (.int .i64 0) (.bool false) (.int .i64 0) (.int .i64 0) (.int .i64 0) (.slice none 0 0) (.slice none 0 0) (.slice none 0 0) ∧ Below w.heap.size w w1) := ⟨H0.out.2.1.later q1, H0.out.2.2.trans (q1.mono (by simp; omega))⟩
    clear q1 H0
    go_wp2_with fail
    refine (l10Bad_is f _).mono ?_
    rintro e w2 ⟨rfl, q2⟩
    have HX : Hid (BlkZ w2 (w.heap.size + 1) (.int .i64 0) (.bool false) (.int .i64 0) (.int .i64 0) (.int .i64 0) (.slice none 0 0) (.slice none 0 0) (.slice none 0 0)) := H1.out.1.later q2
    have HB : Hid (Below w.heap.size w w2) := H1.out.2.trans (q2.mono H1.out.2.size)
    clear q2 H1
    obtain ⟨⟨⟨k0, k1, k2, k3, k4, k5, k6, k7⟩, _⟩, fz⟩ := HX.out
    have HP := hid_mkW (HX.out.1.put (.int .i64 f) (.bool false) (.int .i64 0) (.int .i64 0) (.int .i64 0) (.slice none 0 0) (.slice none 0 0) (.slice none 0 0))
    have f0 := fz 0 (by decide)
    have f1 := fz 1 (by decide)
    have f2 := fz 2 (by decide)
    have f3 := fz 3 (by decide)
    have f4 := fz 4 (by decide)
    have f5 := fz 5 (by decide)
    have f6 := fz 6 (by decide)
    have f7 := fz 7 (by decide)
    clear fz
    go_wp2
    obtain ⟨q0, q1, q2, q3, q4, q5, q6, q7⟩ := HP.out
    unfold put8 at q0 q1 q2 q3 q4 q5 q6 q7
    exact bodyPost_ret (v := .agg #[.int .i64 f, .bool false, .int .i64 0, .int .i64 0, .int .i64 0, .slice none 0 0, .slice none 0 0, .slice none 0 0]) (by simp [results, Tryz.results16, go_sem, q0, q1, q2, q3, q4, q5, q6, q7]) rfl (ResWG.none rfl (below_put8 HB.out (Nat.le_succ _) _ _ _ _ _ _ _ _)).read
  · obtain rfl := ew.symm
    obtain rfl := eb.symm
    obtain rfl := ex.symm
    obtain rfl := er.symm
    obtain rfl := en.symm
    obtain rfl := et.symm
    have Z := world_fine h1
    have ZG := groupsF_zero Z.1
    have HOR : Hid (oFault nx bd = 0) := world_orc h1
    obtain rfl : f = 0 := E.out.symm.trans h1
    have HZ : Hid ((n = nr ∧ 0 < nr ∧ nr ≤ 12 ∧ n ≤ 12) ∧ (∀ i, i < n → storeF (S i) = 0) ∧ nt ≤ 16 ∧ (∀ i, i < nt → 1 ≤ (T i).m ∧ (T i).m ≤ 12) ∧ ∀ i, i < n → (S i).nc ≤ 1048576 ∧ (S i).nl ≤ 1048576 ∧ (S i).nw ≤ 1048576) := ⟨⟨ZG.2.1, ZG.1.n1, by have := ZG.1.n6; omega, by have := ZG.1.n6; have := ZG.2.1; omega⟩, fun i hi => (ZG.2.2.1 i hi).1, Z.2.1, fun i hi => (Z.2.2 i hi).1, fun i hi => by have := (storeF_zero (ZG.2.2.1 i hi).1).1; omega⟩
    clear h1 Z ZG
    go_enter Tryz.func16, Tryz.ntmps16
    go_wp2_with fail
    refine (l10Fault_any _ nw nx bd nr F n S V _ _ nt T X _ _ H0.out.1 hr hn ht HM.out).mono ?_
    rw [E.out]
    rintro e w1 ⟨rfl, q1⟩
    have H1 : Hid (LiesD w1 w.heap.size nw nx bd nr F n S V (.slice a0 nr c0) (.slice a1 n c1) nt T X (.slice a2 nt c2) ∧ BlkZ w1 (w.heap.size + 1) (.int .i64 0) (.bool false) (.int .i64 0) (.int .i64 0) (.int .i64 0) (.slice none 0 0) (.slice none 0 0) (.slice none 0 0) ∧ Below w.heap.size w w1) := ⟨H0.out.1.later q1, H0.out.2.1.later q1, H0.out.2.2.trans (q1.mono (by simp; omega))⟩
    clear q1 H0
    obtain ⟨⟨p0, p1, p2, p3, p4, p5⟩, _⟩ := H1.out.1.1
    obtain ⟨m0, HM0⟩ : ∃ m0, Hid ((nx != bd) = m0) := ⟨_, rfl⟩
    have dm := HM0.out
    go_wp2_with fail
    refine (l10Copy_is nw nx bd nr F n S V _ _ nt T X _ 0 _ H1.out.1.2.1 H1.out.1.2.2 ⟨HZ.out.1.2.1, HZ.out.1.2.2.1⟩ HZ.out.1.2.2.2 HZ.out.2.2.2.2 HZ.out.2.2.1 HZ.out.2.2.2.1).mono ?_
    rintro e w2 ⟨xr, vS, U, Y, v, rfl, hg, htx, q2⟩
    obtain ⟨xa, xc, sa, sc, rfl, rfl⟩ := hg.form
    obtain ⟨va, vc, rfl⟩ := htx.form
    have hlz : w.heap.size + 1 < w1.heap.size := H1.out.2.1.1.2
    have HX1 : Hid (BlkZ (w2.alloc (.cells #[.int .i64 nw, .int .i64 nx, .int .i64 bd, .slice xa nr xc, .slice sa n sc, .slice va nt vc] 39)) (w.heap.size + 1) (.int .i64 0) (.bool false) (.int .i64 0) (.int .i64 0) (.int .i64 0) (.slice none 0 0) (.slice none 0 0) (.slice none 0 0) ∧ Below w.heap.size w (w2.alloc (.cells #[.int .i64 nw, .int .i64 nx, .int .i64 bd, .slice xa nr xc, .slice sa n sc, .slice va nt vc] 39)) ∧ Blk6 (w2.alloc (.cells #[.int .i64 nw, .int .i64 nx, .int .i64 bd, .slice xa nr xc, .slice sa n sc, .slice va nt vc] 39)) w2.heap.size (.int .i64 nw) (.int .i64 nx) (.int .i64 bd) (.slice xa nr xc) (.slice sa n sc) (.slice va nt vc)) := ⟨(H1.out.2.1.later q2).later (below_alloc _ _), (H1.out.2.2.trans (q2.mono H1.out.2.2.size)).alloc (Nat.le_trans H1.out.2.2.size q2.size) _, Blk6.new w2 _ _ _ _ _ _ _⟩
    have HA6 : Hid (Blk6 (w2.alloc (.cells #[.int .i64 nw, .int .i64 nx, .int .i64 bd, .slice xa nr xc, .slice sa n sc, .slice va nt vc] 39)) w.heap.size (.int .i64 nw) (.int .i64 nx) (.int .i64 bd) (.slice a0 nr c0) (.slice a1 n c1) (.slice a2 nt c2)) := (H1.out.1.1.later q2).alloc _
    have HGL : Hid (Grs w2 w1.heap.size nr F n S U (.slice xa nr xc) (.slice sa n sc) ∧ Txs w2 w1.heap.size nt T Y (.slice va nt vc)) := ⟨hg, htx⟩
    have HEQ : Hid (∀ q, q < w2.heap.size → (w2.alloc (.cells #[.int .i64 nw, .int .i64 nx, .int .i64 bd, .slice xa nr xc, .slice sa n sc, .slice va nt vc] 39)).heap[q]? = w2.heap[q]?) := fun q h => (below_alloc w2 _).block q h
    have hlw : w.heap.size < w2.heap.size := by have := q2.size; omega
    have hl2 : w.heap.size + 1 < w2.heap.size := by have := q2.size; omega
    clear hg htx q2 H1 p0 p1 p2 p3 p4 p5
    go_upto_region 5 with fail
    generalize (w2.alloc (.cells #[.int .i64 nw, .int .i64 nx, .int .i64 bd, .slice xa nr xc, .slice sa n sc, .slice va nt vc] 39)) = wy at HX1 HA6 HEQ ⊢
    go_cut [4] (fun p wx => p = .pointer (some ⟨w2.heap.size, 0, none⟩) ∧ Hid (BlkZ wx (w.heap.size + 1) (.int .i64 0) (.bool false) (.int .i64 0) (.int .i64 0) (.int .i64 0) (.slice none 0 0) (.slice none 0 0) (.slice none 0 0) ∧ Below w.heap.size w wx ∧ Grs wx w1.heap.size nr F n S U (.slice xa nr xc) (.slice sa n sc) ∧ Txs wx w1.heap.size nt T Y (.slice va nt vc) ∧ Blk6 wx w2.heap.size (.int .i64 nw) (.int .i64 bd) (.int .i64 bd) (.slice xa nr xc) (.slice sa n sc) (.slice va nt vc) ∧ Blk6 wx w.heap.size (.int .i64 nw) (.int .i64 nx) (.int .i64 bd) (.slice a0 nr c0) (.slice a1 n c1) (.slice a2 nt c2)))
    case first =>
      obtain ⟨⟨p0, p1, p2, p3, p4, p5⟩, _⟩ := HA6.out
      obtain ⟨⟨o0, o1, o2, o3, o4, o5⟩, g0, g1, g2, g3, g4, g5⟩ := HX1.out.2.2
      have hq : ∀ q, q ≠ w2.heap.size → (wy.setCell ⟨w2.heap.size, 1, none⟩ (.int .i64 bd)).heap[q]? = wy.heap[q]? := fun q h => Below.heap_setCell wy ⟨w2.heap.size, 1, none⟩ _ q h
      have hsz : wy.heap.size ≤ (wy.setCell ⟨w2.heap.size, 1, none⟩ (.int .i64 bd)).heap.size := by simp [World.setCell]
      have HFIN : Hid (BlkZ (wy.setCell ⟨w2.heap.size, 1, none⟩ (.int .i64 bd)) (w.heap.size + 1) (.int .i64 0) (.bool false) (.int .i64 0) (.int .i64 0) (.int .i64 0) (.slice none 0 0) (.slice none 0 0) (.slice none 0 0) ∧ Below w.heap.size w (wy.setCell ⟨w2.heap.size, 1, none⟩ (.int .i64 bd)) ∧ Grs (wy.setCell ⟨w2.heap.size, 1, none⟩ (.int .i64 bd)) w1.heap.size nr F n S U (.slice xa nr xc) (.slice sa n sc) ∧ Txs (wy.setCell ⟨w2.heap.size, 1, none⟩ (.int .i64 bd)) w1.heap.size nt T Y (.slice va nt vc) ∧ Blk6 (wy.setCell ⟨w2.heap.size, 1, none⟩ (.int .i64 bd)) w2.heap.size (.int .i64 nw) (.int .i64 bd) (.int .i64 bd) (.slice xa nr xc) (.slice sa n sc) (.slice va nt vc) ∧ Blk6 (wy.setCell ⟨w2.heap.size, 1, none⟩ (.int .i64 bd)) w.heap.size (.int .i64 nw) (.int .i64 nx) (.int .i64 bd) (.slice a0 nr c0) (.slice a1 n c1) (.slice a2 nt c2)) := by
        refine ⟨⟨HX1.out.1.1.kept (hq (w.heap.size + 1) (by omega)) hsz, fun p hp => (World.frozen?_of_block (w := wy) (a := ⟨w.heap.size + 1, p, none⟩) (hq (w.heap.size + 1) (by omega))).trans (HX1.out.1.2 p hp)⟩, HX1.out.2.1.setCell (by show w.heap.size ≤ w2.heap.size; omega) _, ?_, ?_, HX1.out.2.2.put1 _, HA6.out.kept (hq w.heap.size (by omega))⟩
        · exact HGL.out.1.above (by have := HX1.out.2.2.lt; simp [World.setCell]; omega) (fun q h1 h2 => (hq q (by omega)).trans (HEQ.out q h2))
        · exact HGL.out.2.above (by have := HX1.out.2.2.lt; simp [World.setCell]; omega) (fun q h1 h2 => (hq q (by omega)).trans (HEQ.out q h2))
      go_wp2_with fail
      go_meet
      case rel => exact ⟨rfl, HFIN⟩
    case rest =>
      obtain ⟨rfl, HY⟩ := hcut
      have HX := hid_mkW HY.out.1
      have HB := hid_mkW (And.intro HY.out.2.1 (And.intro HY.out.2.2.1 HY.out.2.2.2.1))
      obtain ⟨⟨o0, o1, o2, o3, o4, o5⟩, _⟩ := HY.out.2.2.2.2.1
      obtain ⟨⟨p0, p1, p2, p3, p4, p5⟩, _⟩ := HY.out.2.2.2.2.2
      clear HY HX1 HA6
      obtain ⟨⟨⟨k0, k1, k2, k3, k4, k5, k6, k7⟩, _⟩, fz⟩ := HX.out
      have HP := hid_mkW (HX.out.1.put (.int .i64 0) (.bool m0) (.int .i64 nw) (.int .i64 bd) (.int .i64 bd) (.slice xa nr xc) (.slice sa n sc) (.slice va nt vc))
      have f0 := fz 0 (by decide)
      have f1 := fz 1 (by decide)
      have f2 := fz 2 (by decide)
      have f3 := fz 3 (by decide)
      have f4 := fz 4 (by decide)
      have f5 := fz 5 (by decide)
      have f6 := fz 6 (by decide)
      have f7 := fz 7 (by decide)
      clear fz
      go_wp2
      obtain ⟨q0, q1, q2, q3, q4, q5, q6, q7⟩ := HP.out
      unfold put8 at q0 q1 q2 q3 q4 q5 q6 q7
      refine bodyPost_ret (v := .agg #[.int .i64 0, .bool m0, .int .i64 nw, .int .i64 bd, .int .i64 bd, .slice xa nr xc, .slice sa n sc, .slice va nt vc]) (by simp [results, Tryz.results16, go_sem, q0, q1, q2, q3, q4, q5, q6, q7]) rfl ?_
      rw [HM0.out]
      refine ⟨_, _, U, Y, _, rfl, ?_, ?_, below_put8 HB.out.1 (Nat.le_succ _) _ _ _ _ _ _ _ _⟩
      · exact (grs_put8 HB.out.2.1 hlz _ _ _ _ _ _ _ _).mono (by omega)
      · exact (HB.out.2.2.above (Nat.le_of_eq (sizeT_put8 _ _ _ _ _ _ _ _ _ _).symm) (fun q hq _ => heapT_put8 (by omega) _ _ _ _ _ _ _ _)).mono (by omega)
set_option maxRecDepth 100000 in
set_option maxHeartbeats 8000000 in
theorem implFall_is (nw nx bd : Int) (nr : Nat) (F : Nat → Int) (n : Nat) (S : Nat → Sto) (V : Nat → Nat → Value) (vr vs : Value) (nt : Nat) (T : Nat → Tx) (X : Nat → Value) (vt : Value) (B : Nat) (c : Int) (mv : Bool) (nw' nx' bd' : Int) (nr' n' nt' : Nat) (w : World) (h : Grs w B nr F n S V vr vs) (hx : Txs w B nt T X vt) (hr : nr ≤ 9223372036854775807) (hn : n ≤ 9223372036854775807) (ht : nt ≤ 9223372036854775807) (hm : ∀ i, i < nt → (T i).m ≤ 9223372036854775807) (hA : FallAns nw nx bd nr F n S nt T c mv nw' nx' bd' nr' n' nt') :
    Calls Tryz.prog 17 #[.agg #[.int .i64 nw, .int .i64 nx, .int .i64 bd, vr, vs, vt]] w (ResWG w c mv nw' nx' bd' nr' F n' S nt' T) := by
  obtain ⟨a0, c0, a1, c1, rfl, rfl⟩ := h.form
  obtain ⟨a2, c2, rfl⟩ := hx.form
  have HM : Hid (∀ i, i < nt → (T i).m ≤ 9223372036854775807) := hm
  have H0 : Hid (LiesD ((w.alloc (.cells #[.int .i64 nw, .int .i64 nx, .int .i64 bd, .slice a0 nr c0, .slice a1 n c1, .slice a2 nt c2] 39)).alloc (.cells #[.int .i64 0, .bool false, .int .i64 0, .int .i64 0, .int .i64 0, .slice none 0 0, .slice none 0 0, .slice none 0 0] 41)) w.heap.size nw nx bd nr F n S V (.slice a0 nr c0) (.slice a1 n c1) nt T X (.slice a2 nt c2) ∧ BlkZ ((w.alloc (.cells #[.int .i64 nw, .int .i64 nx, .int .i64 bd, .slice a0 nr c0, .slice a1 n c1, .slice a2 nt c2] 39)).alloc (.cells #[.int .i64 0, .bool false, .int .i64 0, .int .i64 0, .int .i64 0, .slice none 0 0, .slice none 0 0, .slice none 0 0] 41)) (w.heap.size + 1) (.int .i64 0) (.bool false) (.int .i64 0) (.int .i64 0) (.int .i64 0) (.slice none 0 0) (.slice none 0 0) (.slice none 0 0) ∧ Below w.heap.size w ((w.alloc (.cells #[.int .i64 nw, .int .i64 nx, .int .i64 bd, .slice a0 nr c0, .slice a1 n c1, .slice a2 nt c2] 39)).alloc (.cells #[.int .i64 0, .bool false, .int .i64 0, .int .i64 0, .int .i64 0, .slice none 0 0, .slice none 0 0, .slice none 0 0] 41))) := ⟨⟨(Blk6.new w _ _ _ _ _ _ _).alloc _, ((h.mono (Nat.zero_le _)).alloc _).alloc _, ((hx.mono (Nat.zero_le _)).alloc _).alloc _⟩, by have := BlkZ.new (w.alloc (.cells #[.int .i64 nw, .int .i64 nx, .int .i64 bd, .slice a0 nr c0, .slice a1 n c1, .slice a2 nt c2] 39)) (.int .i64 0) (.bool false) (.int .i64 0) (.int .i64 0) (.int .i64 0) (.slice none 0 0) (.slice none 0 0) (.slice none 0 0) 41; simpa using this, (below_alloc _ _).alloc (by simp) _⟩
  clear h hx hm
  obtain ⟨f, E⟩ : ∃ f, Hid (worldF nw nx bd nr F n S nt T = f) := ⟨_, rfl⟩
  obtain ⟨⟨k0, k1, k2, k3, k4, k5⟩, _⟩ := H0.out.1.1
  rcases hA with ⟨h1, rfl, rfl, rfl, rfl, rfl, rfl, rfl, rfl⟩ | ⟨h1, rfl, rfl, ew, ex, eb, er, en, et⟩
  · rw [E.out] at h1
    have d : (f != 0) = true := bne_iff_ne.2 h1
    rw [E.out]
    clear h1
    go_enter Tryz.func17, Tryz.ntmps17
    go_wp2_with fail
    refine (implWorldFault_any nw nx bd nr F n S V _ _ nt T X _ 0 _ H0.out.1.2.1 H0.out.1.2.2 hr hn ht).mono ?_
    rw [E.out]
    rintro e w1 ⟨rfl, q1⟩
    have HX : Hid (BlkZ w1 (w.heap.size + 1) (.int .i64 0) (.bool false) (.int .i64 0) (.int .i64 0) (.int .i64 0) (.slice none 0 0) (.slice none 0 0) (.slice none 0 0)) := H0.out.2.1.later q1
    have HB : Hid (Below w.heap.size w w1) := H0.out.2.2.trans (q1.mono (by simp; omega))
    clear q1 H0 k0 k1 k2 k3 k4 k5
    obtain ⟨⟨⟨k0, k1, k2, k3, k4, k5, k6, k7⟩, _⟩, fz⟩ := HX.out
    have HP := hid_mkW (HX.out.1.put (.int .i64 f) (.bool false) (.int .i64 0) (.int .i64 0) (.int .i64 0) (.slice none 0 0) (.slice none 0 0) (.slice none 0 0))
    have f0 := fz 0 (by decide)
    have f1 := fz 1 (by decide)
    have f2 := fz 2 (by decide)
    have f3 := fz 3 (by decide)
    have f4 := fz 4 (by decide)
    have f5 := fz 5 (by decide)
    have f6 := fz 6 (by decide)
    have f7 := fz 7 (by decide)
    clear fz
    go_wp2
    obtain ⟨q0, q1, q2, q3, q4, q5, q6, q7⟩ := HP.out
    unfold put8 at q0 q1 q2 q3 q4 q5 q6 q7
    exact bodyPost_ret (v := .agg #[.int .i64 f, .bool false, .int .i64 0, .int .i64 0, .int .i64 0, .slice none 0 0, .slice none 0 0, .slice none 0 0]) (by simp [results, Tryz.results17, go_sem, q0, q1, q2, q3, q4, q5, q6, q7]) rfl (ResWG.none rfl (below_put8 HB.out (Nat.le_succ _) _ _ _ _ _ _ _ _))
  · obtain rfl := ew.symm
    obtain rfl := eb.symm
    obtain rfl := ex.symm
    obtain rfl := er.symm
    obtain rfl := en.symm
    obtain rfl := et.symm
    have Z := world_fine h1
    have ZG := groupsF_zero Z.1
    have HOR : Hid (oFault nx bd = 0) := world_orc h1
    obtain rfl : f = 0 := E.out.symm.trans h1
    have HZ : Hid ((n = nr ∧ 0 < nr ∧ nr ≤ 12 ∧ n ≤ 12) ∧ (∀ i, i < n → storeF (S i) = 0) ∧ nt ≤ 16 ∧ (∀ i, i < nt → 1 ≤ (T i).m ∧ (T i).m ≤ 12) ∧ ∀ i, i < n → (S i).nc ≤ 1048576 ∧ (S i).nl ≤ 1048576 ∧ (S i).nw ≤ 1048576) := ⟨⟨ZG.2.1, ZG.1.n1, by have := ZG.1.n6; omega, by have := ZG.1.n6; have := ZG.2.1; omega⟩, fun i hi => (ZG.2.2.1 i hi).1, Z.2.1, fun i hi => (Z.2.2 i hi).1, fun i hi => by have := (storeF_zero (ZG.2.2.1 i hi).1).1; omega⟩
    clear h1 Z ZG
    go_enter Tryz.func17, Tryz.ntmps17
    go_wp2_with fail
    refine (implWorldFault_any nw nx bd nr F n S V _ _ nt T X _ 0 _ H0.out.1.2.1 H0.out.1.2.2 hr hn ht).mono ?_
    rw [E.out]
    rintro e w1 ⟨rfl, q1⟩
    have H1 : Hid (LiesD w1 w.heap.size nw nx bd nr F n S V (.slice a0 nr c0) (.slice a1 n c1) nt T X (.slice a2 nt c2) ∧ BlkZ w1 (w.heap.size + 1) (.int .i64 0) (.bool false) (.int .i64 0) (.int .i64 0) (.int .i64 0) (.slice none 0 0) (.slice none 0 0) (.slice none 0 0) ∧ Below w.heap.size w w1) := ⟨H0.out.1.later q1, H0.out.2.1.later q1, H0.out.2.2.trans (q1.mono (by simp; omega))⟩
    clear q1 H0 k0 k1 k2 k3 k4 k5
    obtain ⟨⟨p0, p1, p2, p3, p4, p5⟩, _⟩ := H1.out.1.1
    obtain ⟨m0, HM0⟩ : ∃ m0, Hid ((nx != bd) = m0) := ⟨_, rfl⟩
    go_wp2_with fail
    refine (workOn_is nw nx bd nr F n S V _ _ nt T X _ 0 _ H1.out.1.2.1 H1.out.1.2.2 HZ.out.2.1 HZ.out.1.1 HZ.out.1.2.2.2 HZ.out.2.2.1 HZ.out.2.2.2.1).mono ?_
    rintro e w2 ⟨b, B2, g, P, Y, v, rfl, hW⟩
    obtain ⟨va, vc, rfl⟩ := hW.txs.txs.form
    have H2 : Hid (LiesD w2 w.heap.size nw nx bd nr F n S V (.slice a0 nr c0) (.slice a1 n c1) nt T X (.slice a2 nt c2) ∧ BlkZ w2 (w.heap.size + 1) (.int .i64 0) (.bool false) (.int .i64 0) (.int .i64 0) (.int .i64 0) (.slice none 0 0) (.slice none 0 0) (.slice none 0 0) ∧ Below w.heap.size w w2) := ⟨H1.out.1.later hW.below, H1.out.2.1.later hW.below, H1.out.2.2.trans (hW.below.mono H1.out.2.2.size)⟩
    have HWE := hid_mkW hW
    have hl1 : w.heap.size + 1 < w1.heap.size := H1.out.2.1.1.2
    clear hW H1 p0 p1 p2 p3 p4 p5
    obtain ⟨⟨p0, p1, p2, p3, p4, p5⟩, _⟩ := H2.out.1.1
    go_wp2_with fail
    refine (implCrash_ok nx bd _ HOR.out).mono ?_
    rintro e wc ⟨rfl, qc⟩
    have hfl := field_oracle
    have hbb := HWE.out.hb
    obtain ⟨⟨b0, b1, b2, b3, b4⟩, bf⟩ := HWE.out.kb.later qc
    have bf1 := bf 1
    have bf2 := bf 2
    obtain ⟨wy, hy1, hy2, hy3⟩ := HWE.out.back
    have hcz : w2.heap.size ≤ wc.heap.size := qc.size
    have W12 : Within b (b + 1) wc ((wc.setCell ⟨b, 1, none⟩ (.int .i64 bd)).setCell ⟨b, 2, none⟩ (.int .i64 bd)) := (withinP_set wc b 1 (.int .i64 bd)).trans (withinP_set _ b 2 (.int .i64 bd))
    have HK : Hid (Blk5w ((wc.setCell ⟨b, 1, none⟩ (.int .i64 bd)).setCell ⟨b, 2, none⟩ (.int .i64 bd)) b (.int .i64 nw) (.int .i64 bd) (.int .i64 bd) (.slice (some ⟨g, 0, none⟩) n n) (.slice va nt vc)) := (HWE.out.kb.later qc).set12 _ _
    have HBY : Below b wy ((wc.setCell ⟨b, 1, none⟩ (.int .i64 bd)).setCell ⟨b, 2, none⟩ (.int .i64 bd)) := ((hy3.trans (qc.mono (by omega))).setCell (Nat.le_refl _) _).setCell (Nat.le_refl _) _
    have HWK : Hid (Work ((wc.setCell ⟨b, 1, none⟩ (.int .i64 bd)).setCell ⟨b, 2, none⟩ (.int .i64 bd)) w1.heap.size n F S (some ⟨g, 0, none⟩) P) := hy2.later (by rw [hy1]; exact HBY)
    have HTX : Hid (WrkT ((wc.setCell ⟨b, 1, none⟩ (.int .i64 bd)).setCell ⟨b, 2, none⟩ (.int .i64 bd)) B2 nt T Y (.slice va nt vc)) := ((HWE.out.txs.later qc).far hbb.2.1 _).far hbb.2.1 _
    have HAR : Hid (Blk6 ((wc.setCell ⟨b, 1, none⟩ (.int .i64 bd)).setCell ⟨b, 2, none⟩ (.int .i64 bd)) w.heap.size (.int .i64 nw) (.int .i64 nx) (.int .i64 bd) (.slice a0 nr c0) (.slice a1 n c1) (.slice a2 nt c2)) := (H2.out.1.1.later qc).kept (W12.block w.heap.size (H2.out.1.1.later qc).lt (Or.inl (by omega)))
    have HRZ : Hid (BlkZ ((wc.setCell ⟨b, 1, none⟩ (.int .i64 bd)).setCell ⟨b, 2, none⟩ (.int .i64 bd)) (w.heap.size + 1) (.int .i64 0) (.bool false) (.int .i64 0) (.int .i64 0) (.int .i64 0) (.slice none 0 0) (.slice none 0 0) (.slice none 0 0)) := ⟨(H2.out.2.1.later qc).1.kept (W12.block (w.heap.size + 1) (H2.out.2.1.later qc).1.2 (Or.inl (by omega))) W12.size, fun p hp => (World.frozen?_of_block (w := wc) (a := ⟨w.heap.size + 1, p, none⟩) (W12.block (w.heap.size + 1) (H2.out.2.1.later qc).1.2 (Or.inl (by omega)))).trans ((H2.out.2.1.later qc).2 p hp)⟩
    have hgb : w.heap.size ≤ b := by omega
    have HBE : Hid (Below w.heap.size w ((wc.setCell ⟨b, 1, none⟩ (.int .i64 bd)).setCell ⟨b, 2, none⟩ (.int .i64 bd)) ∧ B2 ≤ ((wc.setCell ⟨b, 1, none⟩ (.int .i64 bd)).setCell ⟨b, 2, none⟩ (.int .i64 bd)).heap.size) := ⟨((H2.out.2.2.trans (qc.mono H2.out.2.2.size)).setCell hgb _).setCell hgb _, Nat.le_trans hbb.2.2 (Nat.le_trans hcz W12.size)⟩
    have HNB : Hid (w.heap.size + 1 < b ∧ b < B2) := ⟨by omega, hbb.2.1⟩
    have hq : ∀ x : World, (binOp .neq 32 (.agg #[.int .i64 bd, .int .i64 bd]) (.agg #[.int .i64 nx, .int .i64 bd])).run Tryz.prog x = .ok (.bool m0) x := fun x => by
      rw [neqOracle bd bd nx bd _ rfl x, ← HM0.out]
      congr 2
      by_cases e : bd = nx
      · subst e; simp
      · have e' : nx ≠ bd := fun q => e q.symm
        simp [e, e']
    clear W12 HBY hy1 hy2 hy3 H2 HWE qc hbb hcz hgb bf
    go_upto_region 6 with fail
    generalize ((wc.setCell ⟨b, 1, none⟩ (.int .i64 bd)).setCell ⟨b, 2, none⟩ (.int .i64 bd)) = wd at HK HWK HTX HAR HRZ HBE ⊢
    clear p0 p1 p2 p3 p4 p5 b0 b1 b2 b3 b4 bf1 bf2 hfl
    have hS0 : (fun X : World => Blk5w X b (.int .i64 nw) (.int .i64 bd) (.int .i64 bd) (.slice (some ⟨g, 0, none⟩) n n) (.slice va nt vc) ∧ Blk6 X w.heap.size (.int .i64 nw) (.int .i64 nx) (.int .i64 bd) (.slice a0 nr c0) (.slice a1 n c1) (.slice a2 nt c2)) wd.drew := ⟨HK.out.later (Below.refl _ _).drew, HAR.out.later (Below.refl _ _).drew⟩
    have HWK1 : Hid (Work wd.drew w1.heap.size n F S (some ⟨g, 0, none⟩) P ∧ WrkT wd.drew B2 nt T Y (.slice va nt vc) ∧ BlkZ wd.drew (w.heap.size + 1) (.int .i64 0) (.bool false) (.int .i64 0) (.int .i64 0) (.int .i64 0) (.slice none 0 0) (.slice none 0 0) (.slice none 0 0) ∧ Below w.heap.size w wd.drew ∧ B2 ≤ wd.drew.heap.size) := ⟨HWK.out.later (Below.refl _ _).drew, HTX.out.later (Below.refl _ _).drew, HRZ.out.later (Below.refl _ _).drew, HBE.out.1.drew, HBE.out.2⟩
    refine wp_region_held_drew (S := fun X : World => Blk5w X b (.int .i64 nw) (.int .i64 bd) (.int .i64 bd) (.slice (some ⟨g, 0, none⟩) n n) (.slice va nt vc) ∧ Blk6 X w.heap.size (.int .i64 nw) (.int .i64 nx) (.int .i64 bd) (.slice a0 nr c0) (.slice a1 n c1) (.slice a2 nt c2)) (by kernel_rfl) hS0 (fun hS => ?_)
    generalize wd.drew = wa at hS HWK1 ⊢
    clear hS0 HK HWK HTX HAR HRZ HBE
    refine tkH 0 ?_ hS (fun wx hx => ?_) ?_; rotate_left
    · obtain ⟨⟨hx0, hx1, hx2, hx3, hx4⟩, _⟩ := hx.1; obtain ⟨⟨hy0, hy1, hy2, hy3, hy4, hy5⟩, _⟩ := hx.2; go_simp; try with_reducible rfl
    refine tkH 1 ?_ hS (fun wx hx => ?_) ?_; rotate_left
    · obtain ⟨⟨hx0, hx1, hx2, hx3, hx4⟩, _⟩ := hx.1; obtain ⟨⟨hy0, hy1, hy2, hy3, hy4, hy5⟩, _⟩ := hx.2; go_simp; try with_reducible rfl
    refine tkH 2 ?_ hS (fun wx hx => ?_) ?_; rotate_left
    · obtain ⟨⟨hx0, hx1, hx2, hx3, hx4⟩, _⟩ := hx.1; obtain ⟨⟨hy0, hy1, hy2, hy3, hy4, hy5⟩, _⟩ := hx.2; go_simp; try with_reducible rfl
    try simp only [Act.put, List.getElem_toArray, List.getElem_cons_zero, List.getElem_cons_succ, List.setIfInBounds_toArray, List.set_cons_succ, List.set_cons_zero]
    refine tkH 3 ?_ hS (fun wx hx => ?_) ?_; rotate_left
    · obtain ⟨⟨hx0, hx1, hx2, hx3, hx4⟩, _⟩ := hx.1; obtain ⟨⟨hy0, hy1, hy2, hy3, hy4, hy5⟩, _⟩ := hx.2; go_simp; try with_reducible rfl
    refine tkH 4 ?_ hS (fun wx hx => ?_) ?_; rotate_left
    · obtain ⟨⟨hx0, hx1, hx2, hx3, hx4⟩, _⟩ := hx.1; obtain ⟨⟨hy0, hy1, hy2, hy3, hy4, hy5⟩, _⟩ := hx.2; go_simp; try with_reducible rfl
    refine tkH 5 ?_ hS (fun wx hx => ?_) ?_; rotate_left
    · obtain ⟨⟨hx0, hx1, hx2, hx3, hx4⟩, _⟩ := hx.1; obtain ⟨⟨hy0, hy1, hy2, hy3, hy4, hy5⟩, _⟩ := hx.2; go_simp; try with_reducible rfl
    try simp only [Act.put, List.getElem_toArray, List.getElem_cons_zero, List.getElem_cons_succ, List.setIfInBounds_toArray, List.set_cons_succ, List.set_cons_zero]
    refine tkH 6 ?_ hS (fun wx hx => ?_) ?_; rotate_left
    · obtain ⟨⟨hx0, hx1, hx2, hx3, hx4⟩, _⟩ := hx.1; obtain ⟨⟨hy0, hy1, hy2, hy3, hy4, hy5⟩, _⟩ := hx.2; go_simp; try with_reducible rfl
    refine tkH 7 ?_ hS (fun wx hx => ?_) ?_; rotate_left
    · obtain ⟨⟨hx0, hx1, hx2, hx3, hx4⟩, _⟩ := hx.1; obtain ⟨⟨hy0, hy1, hy2, hy3, hy4, hy5⟩, _⟩ := hx.2; go_simp; try with_reducible rfl
    try simp only [Act.put, List.getElem_toArray, List.getElem_cons_zero, List.getElem_cons_succ, List.setIfInBounds_toArray, List.set_cons_succ, List.set_cons_zero]
    refine rdH 8 (fun K hK => ?_)
    go_simp
    go_wp2_with fail
    refine (told_is b nw bd bd n F S g P w1.heap.size nt va vc m0 wa hS.1 HWK1.out.1 HZ.out.1.2.2.2).mono ?_
    rintro e w4 ⟨ra, rc, sa, sc, U, z, rfl, hF, q4⟩
    have hS4 : Blk5w w4 b (.int .i64 nw) (.int .i64 bd) (.int .i64 bd) (.slice (some ⟨g, 0, none⟩) n n) (.slice va nt vc) ∧ Blk6 w4 w.heap.size (.int .i64 nw) (.int .i64 nx) (.int .i64 bd) (.slice a0 nr c0) (.slice a1 n c1) (.slice a2 nt c2) := ⟨hS.1.later q4, hS.2.later q4⟩
    have HX : Hid (BlkZ w4 (w.heap.size + 1) (.int .i64 0) (.bool false) (.int .i64 0) (.int .i64 0) (.int .i64 0) (.slice none 0 0) (.slice none 0 0) (.slice none 0 0)) := HWK1.out.2.2.1.later q4
    have HB : Hid (Below w.heap.size w w4) := HWK1.out.2.2.2.1.trans (q4.mono HWK1.out.2.2.2.1.size)
    have HFF : Hid ((FineR w4 wa.heap.size w4.heap.size n F n S ra rc sa U z ∧ OwnT w4 B2 wa.heap.size nt T Y va ∧ wa.heap.size ≤ w4.heap.size) ∧ B2 ≤ wa.heap.size) := ⟨⟨hF, HWK1.out.2.1.ownT.later (Nat.le_refl _) q4, q4.size⟩, HWK1.out.2.2.2.2⟩
    clear hF q4 HWK1
    go_wp2_with fail
    refine hK.out _ _ hS4 (fun hS => ?_)
    clear hK K hS4
    refine rdH 9 (fun K hK => ?_)
    obtain ⟨⟨⟨k0, k1, k2, k3, k4, k5, k6, k7⟩, _⟩, fz⟩ := HX.out
    have HP := hid_mkW (HX.out.1.put (.int .i64 0) (.bool m0) (.int .i64 nw) (.int .i64 bd) (.int .i64 bd) (.slice ra n rc) (.slice sa n sc) (.slice va nt vc))
    have f0 := fz 0 (by decide)
    have f1 := fz 1 (by decide)
    have f2 := fz 2 (by decide)
    have f3 := fz 3 (by decide)
    have f4 := fz 4 (by decide)
    have f5 := fz 5 (by decide)
    have f6 := fz 6 (by decide)
    have f7 := fz 7 (by decide)
    clear fz
    have hSF : Blk5w (put8 w4 (w.heap.size + 1) (.int .i64 0) (.bool m0) (.int .i64 nw) (.int .i64 bd) (.int .i64 bd) (.slice ra n rc) (.slice sa n sc) (.slice va nt vc)) b (.int .i64 nw) (.int .i64 bd) (.int .i64 bd) (.slice (some ⟨g, 0, none⟩) n n) (.slice va nt vc) ∧ Blk6 (put8 w4 (w.heap.size + 1) (.int .i64 0) (.bool m0) (.int .i64 nw) (.int .i64 bd) (.int .i64 bd) (.slice ra n rc) (.slice sa n sc) (.slice va nt vc)) w.heap.size (.int .i64 nw) (.int .i64 nx) (.int .i64 bd) (.slice a0 nr c0) (.slice a1 n c1) (.slice a2 nt c2) := ⟨hS.1.kept (heapT_put8 (by have := HNB.out; omega) _ _ _ _ _ _ _ _), hS.2.kept (heapT_put8 (by omega) _ _ _ _ _ _ _ _)⟩
    unfold put8 at hSF
    go_simp
    refine hK.out _ _ hSF (fun hS => ?_)
    clear hK K hS hSF k0 k1 k2 k3 k4 k5 k6 k7 f0 f1 f2 f3 f4 f5 f6 f7
    refine wpAnyH_done (by kernel_rfl) ?_ _
    go_simp
    go_wp2
    obtain ⟨q0, q1, q2, q3, q4, q5, q6, q7⟩ := HP.out
    unfold put8 at q0 q1 q2 q3 q4 q5 q6 q7
    refine bodyPost_ret (v := .agg #[.int .i64 0, .bool m0, .int .i64 nw, .int .i64 bd, .int .i64 bd, .slice ra n rc, .slice sa n sc, .slice va nt vc]) (by simp [results, Tryz.results17, go_sem, q0, q1, q2, q3, q4, q5, q6, q7]) rfl ?_
    rw [HM0.out, ← HZ.out.1.1]
    have hz := HNB.out
    have hzz := HFF.out.2
    have hsz := sizeT_put8 w4 (w.heap.size + 1) (.int .i64 0) (.bool m0) (.int .i64 nw) (.int .i64 bd) (.int .i64 bd) (.slice ra n rc) (.slice sa n sc) (.slice va nt vc)
    refine ⟨ra, rc, sa, sc, U, z, Y, va, vc, wa.heap.size, rfl, ?_, ?_, ⟨by omega, ?_⟩, below_put8 HB.out (Nat.le_succ _) _ _ _ _ _ _ _ _⟩
    · exact (fineR_put8 HFF.out.1.1 (by omega) _ _ _ _ _ _ _ _).up (Nat.le_refl _)
    · exact (HFF.out.1.2.1.kept (Nat.le_of_eq hsz.symm) HFF.out.1.2.2 (fun q hq _ => heapT_put8 (by omega) _ _ _ _ _ _ _ _)).low (by omega)
    · show wa.heap.size ≤ (put8 w4 (w.heap.size + 1) (.int .i64 0) (.bool m0) (.int .i64 nw) (.int .i64 bd) (.int .i64 bd) (.slice ra n rc) (.slice sa n sc) (.slice va nt vc)).heap.size
      rw [sizeT_put8]
      exact HFF.out.1.2.2
end Go.Proofs.YthmmikmmpndeoaaGreat

namespace Go.Proofs.YthmmikmmpndeoaaGreat
open Go.RowKit

set_option maxRecDepth 100000 in
set_option maxHeartbeats 8000000 in
theorem exactFallWorld_walk (nw nx bd : Int) (nr : Nat) (F : Nat → Int) (n : Nat) (S : Nat → Sto) (V : Nat → Nat → Value) (vr vs : Value) (nt : Nat) (T : Nat → Tx) (X : Nat → Value) (vt : Value) (w : World) (h : Grs w 0 nr F n S V vr vs) (hx : Txs w 0 nt T X vt) (hr : nr ≤ 9223372036854775807) (hn : n ≤ 9223372036854775807) (hs : ∀ i, i < n → BigS (S i)) (hnt : nt ≤ 9223372036854775807) (hm : ∀ i, i < nt → (T i).m ≤ 9223372036854775807)
    (ans : ∃ (c : Int) (mv : Bool) (nw' nx' bd' : Int) (nr' n' nt' : Nat), (nr' ≤ nr ∧ n' ≤ n ∧ nt' ≤ nt) ∧ ∀ (U : Nat → Nat → Value) (ur us : Value) (Y : Nat → Value) (ut : Value) (x : World), Grs x 0 nr F n S U ur us → Txs x 0 nt T Y ut → nr ≤ 1048576 → n ≤ 1048576 → nt ≤ 1048576 → (∀ i, i < nt → (T i).m ≤ 1048576) → Calls Tryz.prog 16 #[.agg #[.int .i64 nw, .int .i64 nx, .int .i64 bd, ur, us, ut]] x (ResWR x c mv nw' nx' bd' nr' F n' S nt' T) ∧ Calls Tryz.prog 17 #[.agg #[.int .i64 nw, .int .i64 nx, .int .i64 bd, ur, us, ut]] x (ResWG x c mv nw' nx' bd' nr' F n' S nt' T)) :
    Calls Tryz.prog 4 #[.agg #[.int .i64 nw, .int .i64 nx, .int .i64 bd, vr, vs, vt]] w fun e w' => e = .returned (.bool true) ∧ Below w.heap.size w w' := by
  obtain ⟨a0, c0, a1, c1, rfl, rfl⟩ := h.form
  obtain ⟨a2, c2, rfl⟩ := hx.form
  have HG : Hid (Grs w 0 nr F n S V (.slice a0 nr c0) (.slice a1 n c1) ∧ Txs w 0 nt T X (.slice a2 nt c2)) := ⟨h, hx⟩
  have HN : Hid ((∀ i, i < n → BigS (S i)) ∧ ∀ i, i < nt → (T i).m ≤ 9223372036854775807) := ⟨hs, hm⟩
  have H : Hid (Blk6 (w.alloc (.cells #[.int .i64 nw, .int .i64 nx, .int .i64 bd, .slice a0 nr c0, .slice a1 n c1, .slice a2 nt c2] 30)) w.heap.size (.int .i64 nw) (.int .i64 nx) (.int .i64 bd) (.slice a0 nr c0) (.slice a1 n c1) (.slice a2 nt c2) ∧ Below w.heap.size w (w.alloc (.cells #[.int .i64 nw, .int .i64 nx, .int .i64 bd, .slice a0 nr c0, .slice a1 n c1, .slice a2 nt c2] 30))) := ⟨Blk6.new w _ _ _ _ _ _ _, below_alloc _ _⟩
  clear h hx hs hm
  obtain ⟨c, mv, nw', nx', bd', nr', n', nt', hle, hans⟩ := ans
  have HF : Hid (∀ (U : Nat → Nat → Value) (ur us : Value) (Y : Nat → Value) (ut : Value) (x : World), Grs x 0 nr F n S U ur us → Txs x 0 nt T Y ut → nr ≤ 1048576 → n ≤ 1048576 → nt ≤ 1048576 → (∀ i, i < nt → (T i).m ≤ 1048576) → Calls Tryz.prog 16 #[.agg #[.int .i64 nw, .int .i64 nx, .int .i64 bd, ur, us, ut]] x (ResWR x c mv nw' nx' bd' nr' F n' S nt' T) ∧ Calls Tryz.prog 17 #[.agg #[.int .i64 nw, .int .i64 nx, .int .i64 bd, ur, us, ut]] x (ResWG x c mv nw' nx' bd' nr' F n' S nt' T)) := hans
  clear hans
  go_enter Tryz.func4, Tryz.ntmps4
  go_wp2_with fail
  refine (szWorld_any nw nx bd nr F n S V _ _ nt T X _ 0 _ (HG.out.1.alloc _) (HG.out.2.alloc _) hr hn HN.out.1 hnt HN.out.2).mono ?_
  rintro e w1 ⟨rr, rfl, hA, q1⟩
  have H1 : Hid (Blk6 w1 w.heap.size (.int .i64 nw) (.int .i64 nx) (.int .i64 bd) (.slice a0 nr c0) (.slice a1 n c1) (.slice a2 nt c2) ∧ Below w.heap.size w w1) := ⟨H.out.1.later q1, H.out.2.trans (q1.mono H.out.2.size)⟩
  clear q1 H
  rcases hA with rfl | ⟨h1, ⟨h2, h3, hsum, h4⟩, h5, hsux, h6⟩
  · go_wp2
    go_ret
    exact ⟨rfl, H1.out.2⟩
  have HB : Hid ((nr ≤ 1048576 ∧ n ≤ 1048576 ∧ ∀ i, i < n → SmallS (S i)) ∧ nt ≤ 1048576 ∧ ∀ i, i < nt → (T i).m ≤ 1048576) := ⟨⟨h2, h3, h4⟩, h5, h6⟩
  have HSU : Hid (sumN (sizeT S) n ≤ 1048576 ∧ sumN (sizeX T) nt ≤ 1048576) := ⟨hsum, hsux⟩
  have HSM : Hid (SmallG nr' n' S ∧ SmallX nt' T) := ⟨⟨by omega, by omega, fun i hi => h4 i (by omega), Nat.le_trans (sum_mono (sizeT S) hle.2.1) hsum⟩, ⟨by omega, fun i hi => h6 i (by omega)⟩, Nat.le_trans (sum_mono (sizeX T) hle.2.2) hsux⟩
  have dr : decide (rr < 0) = false := decide_eq_false (by omega)
  clear h1 h2 h3 h4 h5 h6 hr hn HN hnt hsum hsux hle
  obtain ⟨⟨p0, p1, p2, p3, p4, p5⟩, _⟩ := H1.out.1
  go_wp2_with fail
  refine (toWorld_any nw nx bd nr F n S V _ _ nt T X _ 0 _ (HG.out.1.later H1.out.2) (HG.out.2.later H1.out.2) HB.out.1 HB.out.2).mono ?_
  intro e w2 hN2
  obtain ⟨ra0, rc0, g, U0, z0, gt, Y0, zt, rfl, o2, q2⟩ := hN2.own
  have H2 : Hid (Blk6 w2 w.heap.size (.int .i64 nw) (.int .i64 nx) (.int .i64 bd) (.slice a0 nr c0) (.slice a1 n c1) (.slice a2 nt c2) ∧ Below w.heap.size w w2) := ⟨H1.out.1.later q2, H1.out.2.trans (q2.mono H1.out.2.size)⟩
  have G2 := HF.out _ _ _ _ _ _ o2.grs.1 o2.grs.2 HB.out.1.1 HB.out.1.2.1 HB.out.2.1 HB.out.2.2
  clear q2 hN2 o2 H1 p0 p1 p2 p3 p4 p5
  go_wp2_with fail
  refine G2.1.mono ?_
  clear G2
  rintro e w3 ⟨xr, vS, UW, YW, xv, rfl, hgw, htw, q3⟩
  obtain ⟨xa, xc, xb, xd, rfl, rfl⟩ := hgw.form
  obtain ⟨xv, xe, rfl⟩ := htw.form
  have HWW : Hid (Grs w3 w.heap.size nr' F n' S UW (.slice xa nr' xc) (.slice xb n' xd) ∧ Txs w3 w.heap.size nt' T YW (.slice xv nt' xe)) := ⟨hgw.mono H2.out.2.size, htw.mono H2.out.2.size⟩
  have H3 : Hid (Blk6 w3 w.heap.size (.int .i64 nw) (.int .i64 nx) (.int .i64 bd) (.slice a0 nr c0) (.slice a1 n c1) (.slice a2 nt c2) ∧ Below w.heap.size w w3) := ⟨H2.out.1.later q3, H2.out.2.trans (q3.mono H2.out.2.size)⟩
  have P3 : Hid ((Blk6 (w3.alloc (.cells #[.int .i64 c, .bool mv, .int .i64 nw', .int .i64 nx', .int .i64 bd', .slice xa nr' xc, .slice xb n' xd, .slice xv nt' xe] 41)) w.heap.size (.int .i64 nw) (.int .i64 nx) (.int .i64 bd) (.slice a0 nr c0) (.slice a1 n c1) (.slice a2 nt c2) ∧ Below w.heap.size w (w3.alloc (.cells #[.int .i64 c, .bool mv, .int .i64 nw', .int .i64 nx', .int .i64 bd', .slice xa nr' xc, .slice xb n' xd, .slice xv nt' xe] 41))) ∧ BlkR (w3.alloc (.cells #[.int .i64 c, .bool mv, .int .i64 nw', .int .i64 nx', .int .i64 bd', .slice xa nr' xc, .slice xb n' xd, .slice xv nt' xe] 41)) w3.heap.size (.int .i64 c) (.bool mv) (.int .i64 nw') (.int .i64 nx') (.int .i64 bd') (.slice xa nr' xc) (.slice xb n' xd) (.slice xv nt' xe) ∧ Below w3.heap.size w3 (w3.alloc (.cells #[.int .i64 c, .bool mv, .int .i64 nw', .int .i64 nx', .int .i64 bd', .slice xa nr' xc, .slice xb n' xd, .slice xv nt' xe] 41))) := ⟨⟨H3.out.1.alloc _, H3.out.2.alloc H3.out.2.size _⟩, BlkR.new w3 _ _ _ _ _ _ _ _ _, below_alloc _ _⟩
  have z3 : Hid (w.heap.size < w3.heap.size) := H3.out.1.lt
  clear q3 hgw htw H2 H3
  obtain ⟨⟨p0, p1, p2, p3, p4, p5⟩, _⟩ := P3.out.1.1
  go_wp2_with fail
  refine (toWorld_any nw nx bd nr F n S V _ _ nt T X _ 0 _ (HG.out.1.later P3.out.1.2) (HG.out.2.later P3.out.1.2) HB.out.1 HB.out.2).mono ?_
  intro e w4 hN4
  obtain ⟨rb, rd, g4, U4, z4, gt4, Y4, zt4, rfl, o4, q4⟩ := hN4.own
  have zs4 : Hid (w3.heap.size + 1 ≤ w4.heap.size ∧ zt4 nt ≤ w4.heap.size) := ⟨by have := q4.size; simp at this; omega, o4.2.2.2.2.2.2.2⟩
  have O4 : Hid (OwnW (w4.alloc (.cells #[.int .i64 nw, .int .i64 nx, .int .i64 bd, .slice rb nr rd, .slice (some ⟨g4, 0, none⟩) n n, .slice (some ⟨gt4, 0, none⟩) nt nt] 39)) (w3.heap.size + 1) nr F n S rb rd g4 U4 z4 nt T gt4 Y4 zt4) := by
    rw [World.size_alloc] at o4
    exact o4.later (below_alloc _ _)
  have P4 : Hid (((Blk6 (w4.alloc (.cells #[.int .i64 nw, .int .i64 nx, .int .i64 bd, .slice rb nr rd, .slice (some ⟨g4, 0, none⟩) n n, .slice (some ⟨gt4, 0, none⟩) nt nt] 39)) w.heap.size (.int .i64 nw) (.int .i64 nx) (.int .i64 bd) (.slice a0 nr c0) (.slice a1 n c1) (.slice a2 nt c2) ∧ Below w.heap.size w (w4.alloc (.cells #[.int .i64 nw, .int .i64 nx, .int .i64 bd, .slice rb nr rd, .slice (some ⟨g4, 0, none⟩) n n, .slice (some ⟨gt4, 0, none⟩) nt nt] 39))) ∧ BlkR (w4.alloc (.cells #[.int .i64 nw, .int .i64 nx, .int .i64 bd, .slice rb nr rd, .slice (some ⟨g4, 0, none⟩) n n, .slice (some ⟨gt4, 0, none⟩) nt nt] 39)) w3.heap.size (.int .i64 c) (.bool mv) (.int .i64 nw') (.int .i64 nx') (.int .i64 bd') (.slice xa nr' xc) (.slice xb n' xd) (.slice xv nt' xe) ∧ Below w3.heap.size w3 (w4.alloc (.cells #[.int .i64 nw, .int .i64 nx, .int .i64 bd, .slice rb nr rd, .slice (some ⟨g4, 0, none⟩) n n, .slice (some ⟨gt4, 0, none⟩) nt nt] 39))) ∧ Blk6 (w4.alloc (.cells #[.int .i64 nw, .int .i64 nx, .int .i64 bd, .slice rb nr rd, .slice (some ⟨g4, 0, none⟩) n n, .slice (some ⟨gt4, 0, none⟩) nt nt] 39)) w4.heap.size (.int .i64 nw) (.int .i64 nx) (.int .i64 bd) (.slice rb nr rd) (.slice (some ⟨g4, 0, none⟩) n n) (.slice (some ⟨gt4, 0, none⟩) nt nt)) :=
    ⟨⟨⟨(P3.out.1.1.later q4).alloc _, (P3.out.1.2.trans (q4.mono P3.out.1.2.size)).alloc (Nat.le_trans P3.out.1.2.size q4.size) _⟩, (P3.out.2.1.later q4).later (below_alloc _ _), (P3.out.2.2.trans (q4.mono P3.out.2.2.size)).alloc (Nat.le_trans P3.out.2.2.size q4.size) _⟩, Blk6.new _ _ _ _ _ _ _ _⟩
  have s5 : Hid (w4.heap.size < (w4.alloc (.cells #[.int .i64 nw, .int .i64 nx, .int .i64 bd, .slice rb nr rd, .slice (some ⟨g4, 0, none⟩) n n, .slice (some ⟨gt4, 0, none⟩) nt nt] 39)).heap.size) := by unfold Hid; simp
  clear q4 hN4 o4 P3 p0 p1 p2 p3 p4 p5
  go_wp2_with fail
  generalize w4.alloc (.cells #[.int .i64 nw, .int .i64 nx, .int .i64 bd, .slice rb nr rd, .slice (some ⟨g4, 0, none⟩) n n, .slice (some ⟨gt4, 0, none⟩) nt nt] 39) = w5 at O4 P4 s5 ⊢
  refine (HF.out _ _ _ _ _ _ O4.out.grs.1 O4.out.grs.2 HB.out.1.1 HB.out.1.2.1 HB.out.2.1 HB.out.2.2).2.mono ?_
  rintro e w6 ⟨ra, rc, sa, sc, U, z, Y, va, vc, lo, rfl, hfi, how, hlo, q6⟩
  have E6 : Hid (EnvU w nw nx bd (.slice a0 nr c0) (.slice a1 n c1) (.slice a2 nt c2) w3 c mv nw' nx' bd' (.slice xa nr' xc) (.slice xb n' xd) (.slice xv nt' xe) w4.heap.size (.slice rb nr rd) (.slice (some ⟨g4, 0, none⟩) n n) (.slice (some ⟨gt4, 0, none⟩) nt nt) w6.heap.size nr' F n' S nt' T ra rc sa sc va vc U z Y w5.heap.size lo w6.heap.size (w6.alloc (.cells #[.int .i64 c, .bool mv, .int .i64 nw', .int .i64 nx', .int .i64 bd', .slice ra nr' rc, .slice sa n' sc, .slice va nt' vc] 41))) :=
    ⟨(P4.out.1.1.2.trans (q6.mono P4.out.1.1.2.size)).alloc (Nat.le_trans P4.out.1.1.2.size q6.size) _, (P4.out.1.1.1.later q6).alloc _, (P4.out.1.2.1.later q6).later (below_alloc _ _), (P4.out.2.later q6).alloc _, BlkR.new _ _ _ _ _ _ _ _ _ _, ⟨by have := P4.out.1.2.2.size; have := q6.size; simp; omega, fun p _ h2 => ((P4.out.1.2.2.trans (q6.mono P4.out.1.2.2.size)).alloc (Nat.le_trans P4.out.1.2.2.size q6.size) _).block p h2⟩, hfi.later (below_alloc _ _), how.later hlo.2 (below_alloc _ _), ⟨hlo, by simp⟩⟩
  have O6 : Hid (OwnW (w6.alloc (.cells #[.int .i64 c, .bool mv, .int .i64 nw', .int .i64 nx', .int .i64 bd', .slice ra nr' rc, .slice sa n' sc, .slice va nt' vc] 41)) (w3.heap.size + 1) nr F n S rb rd g4 U4 z4 nt T gt4 Y4 zt4) := (O4.out.later q6).later (below_alloc _ _)
  have LG : Hid (w5.heap.size ≤ w6.heap.size) := q6.size
  obtain ⟨⟨t0, t1, t2, t3, t4, t5, t6, t7⟩, _⟩ := P4.out.1.2.1.later q6
  have hl := (P4.out.1.2.1.later q6).2
  clear q6 hfi how hlo O4 P4
  go_wp2_with fail
  refine (eqWorldResultT_same c mv nw' nx' bd' nr' F n' S U UW _ _ _ _ _ _ _ _ nt' T Y YW _ _ _ _ 0 0 _ ((E6.out.fine.grs sc).mono (Nat.zero_le _)) ((HWW.out.1.above E6.out.keep.1 E6.out.keep.2).mono (Nat.zero_le _)) ((E6.out.own.txs vc).mono (Nat.zero_le _)) ((HWW.out.2.above E6.out.keep.1 E6.out.keep.2).mono (Nat.zero_le _)) HSM.out.1 HSM.out.2).mono ?_
  rintro e w7 ⟨rfl, q7⟩
  have E7 : Hid (EnvU w nw nx bd (.slice a0 nr c0) (.slice a1 n c1) (.slice a2 nt c2) w3 c mv nw' nx' bd' (.slice xa nr' xc) (.slice xb n' xd) (.slice xv nt' xe) w4.heap.size (.slice rb nr rd) (.slice (some ⟨g4, 0, none⟩) n n) (.slice (some ⟨gt4, 0, none⟩) nt nt) w6.heap.size nr' F n' S nt' T ra rc sa sc va vc U z Y w5.heap.size lo w6.heap.size w7) := E6.out.later q7
  have O7 : Hid (OwnW w7 (w3.heap.size + 1) nr F n S rb rd g4 U4 z4 nt T gt4 Y4 zt4) := O6.out.later q7
  clear q7 E6 O6 t0 t1 t2 t3 t4 t5 t6 t7 hl
  go_wp2_with fail
  refine wp_region_held_drew (S := fun x : World => (EnvU w nw nx bd (.slice a0 nr c0) (.slice a1 n c1) (.slice a2 nt c2) w3 c mv nw' nx' bd' (.slice xa nr' xc) (.slice xb n' xd) (.slice xv nt' xe) w4.heap.size (.slice rb nr rd) (.slice (some ⟨g4, 0, none⟩) n n) (.slice (some ⟨gt4, 0, none⟩) nt nt) w6.heap.size nr' F n' S nt' T ra rc sa sc va vc U z Y w5.heap.size lo w6.heap.size x) ∧ OwnW x (w3.heap.size + 1) nr F n S rb rd g4 U4 z4 nt T gt4 Y4 zt4) (by kernel_rfl) ⟨E7.out.later (Below.drew (Below.refl _ _)), O7.out.later (Below.drew (Below.refl _ _))⟩ (fun hS => ?_)
  clear E7 O7
  refine tkH 0 ?_ hS (fun wx hx => ?_) ?_; rotate_left
  · obtain ⟨⟨hx0, hx1, hx2, hx3, hx4, hx5⟩, _⟩ := hx.1.arg; obtain ⟨⟨hy0, hy1, hy2, hy3, hy4, hy5⟩, _⟩ := hx.1.copy; go_simp; try with_reducible rfl
  refine tkH 1 ?_ hS (fun wx hx => ?_) ?_; rotate_left
  · obtain ⟨⟨hx0, hx1, hx2, hx3, hx4, hx5⟩, _⟩ := hx.1.arg; obtain ⟨⟨hy0, hy1, hy2, hy3, hy4, hy5⟩, _⟩ := hx.1.copy; go_simp; try with_reducible rfl
  refine rdH 2 (fun K hK => ?_)
  go_simp
  go_wp2_with fail
  refine (toWorld_any nw nx bd nr F n S V _ _ nt T X _ 0 _ (HG.out.1.later hS.1.below) (HG.out.2.later hS.1.below) HB.out.1 HB.out.2).mono ?_
  intro e w8 hN8
  obtain ⟨re, rf, g8, U8, z8, gt8, Y8, zt8, rfl, o8, q8⟩ := hN8.own
  have G8 : Hid (Grs w8 0 nr F n S U8 (.slice re nr rf) (.slice (some ⟨g8, 0, none⟩) n n) ∧ Txs w8 0 nt T Y8 (.slice (some ⟨gt8, 0, none⟩) nt nt)) := o8.grs
  have hS' := (show _ ∧ _ from ⟨hS.1.later q8, hS.2.later q8⟩)
  clear q8 hN8 o8
  go_wp2_with fail
  refine hK.out _ _ hS' (fun hS => ?_)
  clear hK K hS'
  refine rdH 3 (fun K hK => ?_)
  go_simp
  go_wp2_with fail
  refine (eqWorldT_same nw nx bd nr F n S U4 U8 _ _ _ _ _ _ _ _ nt T Y4 Y8 _ _ _ _ 0 0 _ hS.2.grs.1 G8.out.1 hS.2.grs.2 G8.out.2 HB.out.1 HB.out.2).mono ?_
  rintro e w9 ⟨rfl, q9⟩
  have hS' := (show _ ∧ _ from ⟨hS.1.later q9, hS.2.later q9⟩)
  clear q9 G8
  go_wp2_with fail
  refine hK.out _ _ hS' (fun hS => ?_)
  clear hK K hS'
  refine tkH 4 ?_ hS (fun wx hx => ?_) ?_; rotate_left
  · obtain ⟨⟨hx0, hx1, hx2, hx3, hx4, hx5⟩, _⟩ := hx.1.arg; obtain ⟨⟨hy0, hy1, hy2, hy3, hy4, hy5⟩, _⟩ := hx.1.copy; go_simp; try with_reducible rfl
  refine wpAnyH_done (by kernel_rfl) ?_ _
  have E9 : Hid (EnvU w nw nx bd (.slice a0 nr c0) (.slice a1 n c1) (.slice a2 nt c2) w3 c mv nw' nx' bd' (.slice xa nr' xc) (.slice xb n' xd) (.slice xv nt' xe) w4.heap.size (.slice rb nr rd) (.slice (some ⟨g4, 0, none⟩) n n) (.slice (some ⟨gt4, 0, none⟩) nt nt) w6.heap.size nr' F n' S nt' T ra rc sa sc va vc U z Y w5.heap.size lo w6.heap.size w9) := hS.1
  have O9 : Hid (OwnW w9 (w3.heap.size + 1) nr F n S rb rd g4 U4 z4 nt T gt4 Y4 zt4) := hS.2
  clear hS
  go_simp
  obtain ⟨⟨p0, p1, p2, p3, p4, p5⟩, _⟩ := E9.out.copy
  go_wp2_with fail
  refine (markWorld_any nw nx bd _ nr F n S rb rd g4 U4 z4 nt T gt4 Y4 zt4 _ O9.out HB.out HSU.out).mono ?_
  rintro e wA ⟨kA, hkA, rfl, WA⟩
  have dk : decide (kA < 0) = false := decide_eq_false (by omega)
  have EA : Hid (EnvU w nw nx bd (.slice a0 nr c0) (.slice a1 n c1) (.slice a2 nt c2) w3 c mv nw' nx' bd' (.slice xa nr' xc) (.slice xb n' xd) (.slice xv nt' xe) w4.heap.size (.slice rb nr rd) (.slice (some ⟨g4, 0, none⟩) n n) (.slice (some ⟨gt4, 0, none⟩) nt nt) w6.heap.size nr' F n' S nt' T ra rc sa sc va vc U z Y w5.heap.size lo w6.heap.size wA) := E9.out.within WA (Nat.lt_succ_self _) z3.out (by have := zs4.out.2; omega) (by have := zs4.out.2; have := s5.out; have := LG.out; omega) (by have := zs4.out.2; have := s5.out; omega)
  clear WA hkA E9 O9 p0 p1 p2 p3 p4 p5
  obtain ⟨⟨t0, t1, t2, t3, t4, t5, t6, t7⟩, _⟩ := EA.out.want
  obtain ⟨⟨g0, g1, g2, g3, g4', g5, g6, g7⟩, _⟩ := EA.out.got
  go_wp2_with fail
  refine (eqWorldResultT_same c mv nw' nx' bd' nr' F n' S U UW _ _ _ _ _ _ _ _ nt' T Y YW _ _ _ _ 0 0 _ ((EA.out.fine.grs sc).mono (Nat.zero_le _)) ((HWW.out.1.above EA.out.keep.1 EA.out.keep.2).mono (Nat.zero_le _)) ((EA.out.own.txs vc).mono (Nat.zero_le _)) ((HWW.out.2.above EA.out.keep.1 EA.out.keep.2).mono (Nat.zero_le _)) HSM.out.1 HSM.out.2).mono ?_
  rintro e wB ⟨rfl, qB⟩
  have EB : Hid (EnvU w nw nx bd (.slice a0 nr c0) (.slice a1 n c1) (.slice a2 nt c2) w3 c mv nw' nx' bd' (.slice xa nr' xc) (.slice xb n' xd) (.slice xv nt' xe) w4.heap.size (.slice rb nr rd) (.slice (some ⟨g4, 0, none⟩) n n) (.slice (some ⟨gt4, 0, none⟩) nt nt) w6.heap.size nr' F n' S nt' T ra rc sa sc va vc U z Y w5.heap.size lo w6.heap.size wB) := EA.out.later qB
  clear qB EA t0 t1 t2 t3 t4 t5 t6 t7 g0 g1 g2 g3 g4' g5 g6 g7
  obtain ⟨⟨g0, g1, g2, g3, g4', g5, g6, g7⟩, _⟩ := EB.out.got
  obtain ⟨ms, hms⟩ : ∃ ms : Int, (1 : Int) + nr' * 3 + (sumN (markT S) n' : Nat) + (sumN (markX T) nt' : Nat) = ms := ⟨_, rfl⟩
  have hmn : decide (ms < 0) = false := decide_eq_false (by omega)
  have HMS : Hid ((1 : Int) + nr' * 3 + (sumN (markT S) n' : Nat) + (sumN (markX T) nt' : Nat) = ms) := hms
  clear hms
  go_wp2_with fail
  refine (markWorldResultT_any c mv nw' nx' bd' nr' F n' S ra rc sa sc U z nt' T Y va vc w5.heap.size lo w6.heap.size _ EB.out.fine EB.out.own EB.out.ord.1 HSM.out.1 HSM.out.2).mono ?_
  rw [HMS.out]
  rintro e wC ⟨rfl, mC, WCC⟩
  have EC : Hid ((Below w.heap.size w wC ∧ Blk6 wC w.heap.size (.int .i64 nw) (.int .i64 nx) (.int .i64 bd) (.slice a0 nr c0) (.slice a1 n c1) (.slice a2 nt c2)) ∧ (BlkR wC w3.heap.size (.int .i64 c) (.bool mv) (.int .i64 nw') (.int .i64 nx') (.int .i64 bd') (.slice xa nr' xc) (.slice xb n' xd) (.slice xv nt' xe) ∧ Grs wC w.heap.size nr' F n' S UW (.slice xa nr' xc) (.slice xb n' xd) ∧ Txs wC w.heap.size nt' T YW (.slice xv nt' xe)) ∧ BlkR wC w6.heap.size (.int .i64 c) (.bool mv) (.int .i64 nw') (.int .i64 nx') (.int .i64 bd') (.slice ra nr' rc) (.slice sa n' sc) (.slice va nt' vc) ∧ MarkW wC w5.heap.size lo nr' n' S ra rc sa sc U nt' T Y va vc) := by
    have b1 := z3.out
    have b2 := zs4.out.1
    have b3 := s5.out
    have b4 := LG.out
    refine ⟨⟨WCC.below EB.out.below (by omega), EB.out.arg.kept (WCC.block _ EB.out.arg.lt (Or.inl (by omega)))⟩, ⟨EB.out.want.kept (WCC.block _ EB.out.want.2 (Or.inl (by omega))) WCC.size, HWW.out.1.above (Nat.le_trans EB.out.keep.1 WCC.size) (fun p h1 h2 => (WCC.block p (Nat.lt_of_lt_of_le h2 EB.out.keep.1) (Or.inl (by omega))).trans (EB.out.keep.2 p h1 h2)), HWW.out.2.above (Nat.le_trans EB.out.keep.1 WCC.size) (fun p h1 h2 => (WCC.block p (Nat.lt_of_lt_of_le h2 EB.out.keep.1) (Or.inl (by omega))).trans (EB.out.keep.2 p h1 h2))⟩, EB.out.got.kept (WCC.block _ EB.out.got.2 (Or.inr (Nat.le_refl _))) WCC.size, mC⟩
  clear WCC mC EB g0 g1 g2 g3 g4' g5 g6 g7
  obtain ⟨⟨g0, g1, g2, g3, g4', g5, g6, g7⟩, _⟩ := EC.out.2.2.1
  go_wp2_with fail
  refine (heldWorldResultT_any c mv nw' nx' bd' nr' n' S ra rc sa sc U nt' T Y va vc w5.heap.size lo _ EC.out.2.2.2 HSM.out.1 HSM.out.2).mono ?_
  rw [HMS.out]
  rintro e wD ⟨rfl, qD⟩
  have ED : Hid ((Below w.heap.size w wD ∧ Blk6 wD w.heap.size (.int .i64 nw) (.int .i64 nx) (.int .i64 bd) (.slice a0 nr c0) (.slice a1 n c1) (.slice a2 nt c2)) ∧ (BlkR wD w3.heap.size (.int .i64 c) (.bool mv) (.int .i64 nw') (.int .i64 nx') (.int .i64 bd') (.slice xa nr' xc) (.slice xb n' xd) (.slice xv nt' xe) ∧ Grs wD w.heap.size nr' F n' S UW (.slice xa nr' xc) (.slice xb n' xd) ∧ Txs wD w.heap.size nt' T YW (.slice xv nt' xe)) ∧ BlkR wD w6.heap.size (.int .i64 c) (.bool mv) (.int .i64 nw') (.int .i64 nx') (.int .i64 bd') (.slice ra nr' rc) (.slice sa n' sc) (.slice va nt' vc) ∧ MarkW wD w5.heap.size lo nr' n' S ra rc sa sc U nt' T Y va vc) := ⟨⟨EC.out.1.1.trans (qD.mono EC.out.1.1.size), EC.out.1.2.later qD⟩, ⟨EC.out.2.1.1.later qD, EC.out.2.1.2.1.later qD, EC.out.2.1.2.2.later qD⟩, EC.out.2.2.1.later qD, EC.out.2.2.2.later qD⟩
  clear qD EC g0 g1 g2 g3 g4' g5 g6 g7
  obtain ⟨⟨p0, p1, p2, p3, p4, p5⟩, _⟩ := ED.out.1.2
  go_wp2_with fail
  refine (toWorld_any nw nx bd nr F n S V _ _ nt T X _ 0 _ (HG.out.1.later ED.out.1.1) (HG.out.2.later ED.out.1.1) HB.out.1 HB.out.2).mono ?_
  intro e wE hNE
  obtain ⟨rg, rh, gE, UE, zE, gtE, YE, ztE, rfl, oE, qE⟩ := hNE.own
  have EE : Hid (Below w.heap.size w wE ∧ (BlkR wE w3.heap.size (.int .i64 c) (.bool mv) (.int .i64 nw') (.int .i64 nx') (.int .i64 bd') (.slice xa nr' xc) (.slice xb n' xd) (.slice xv nt' xe) ∧ Grs wE w.heap.size nr' F n' S UW (.slice xa nr' xc) (.slice xb n' xd) ∧ Txs wE w.heap.size nt' T YW (.slice xv nt' xe)) ∧ BlkR wE w6.heap.size (.int .i64 c) (.bool mv) (.int .i64 nw') (.int .i64 nx') (.int .i64 bd') (.slice ra nr' rc) (.slice sa n' sc) (.slice va nt' vc) ∧ MarkW wE w5.heap.size lo nr' n' S ra rc sa sc U nt' T Y va vc) := ⟨ED.out.1.1.trans (qE.mono ED.out.1.1.size), ⟨ED.out.2.1.1.later qE, ED.out.2.1.2.1.later qE, ED.out.2.1.2.2.later qE⟩, ED.out.2.2.1.later qE, ED.out.2.2.2.later qE⟩
  have GE := HF.out _ _ _ _ _ _ oE.grs.1 oE.grs.2 HB.out.1.1 HB.out.1.2.1 HB.out.2.1 HB.out.2.2
  clear qE hNE oE ED p0 p1 p2 p3 p4 p5
  go_wp2_with fail
  refine GE.2.mono ?_
  clear GE
  rintro e wF ⟨rj, rk, sj, sk, UF, zF, YF, vj, vk, lF, rfl, hfF, howF, hlF, qF⟩
  have EF : Hid (Below w.heap.size w (wF.alloc (.cells #[.int .i64 c, .bool mv, .int .i64 nw', .int .i64 nx', .int .i64 bd', .slice rj nr' rk, .slice sj n' sk, .slice vj nt' vk] 41)) ∧ (Grs (wF.alloc (.cells #[.int .i64 c, .bool mv, .int .i64 nw', .int .i64 nx', .int .i64 bd', .slice rj nr' rk, .slice sj n' sk, .slice vj nt' vk] 41)) w.heap.size nr' F n' S UW (.slice xa nr' xc) (.slice xb n' xd) ∧ Txs (wF.alloc (.cells #[.int .i64 c, .bool mv, .int .i64 nw', .int .i64 nx', .int .i64 bd', .slice rj nr' rk, .slice sj n' sk, .slice vj nt' vk] 41)) w.heap.size nt' T YW (.slice xv nt' xe)) ∧ (BlkR (wF.alloc (.cells #[.int .i64 c, .bool mv, .int .i64 nw', .int .i64 nx', .int .i64 bd', .slice rj nr' rk, .slice sj n' sk, .slice vj nt' vk] 41)) w6.heap.size (.int .i64 c) (.bool mv) (.int .i64 nw') (.int .i64 nx') (.int .i64 bd') (.slice ra nr' rc) (.slice sa n' sc) (.slice va nt' vc) ∧ MarkW (wF.alloc (.cells #[.int .i64 c, .bool mv, .int .i64 nw', .int .i64 nx', .int .i64 bd', .slice rj nr' rk, .slice sj n' sk, .slice vj nt' vk] 41)) w5.heap.size lo nr' n' S ra rc sa sc U nt' T Y va vc) ∧ Grs (wF.alloc (.cells #[.int .i64 c, .bool mv, .int .i64 nw', .int .i64 nx', .int .i64 bd', .slice rj nr' rk, .slice sj n' sk, .slice vj nt' vk] 41)) 0 nr' F n' S UF (.slice rj nr' rk) (.slice sj n' sk) ∧ Txs (wF.alloc (.cells #[.int .i64 c, .bool mv, .int .i64 nw', .int .i64 nx', .int .i64 bd', .slice rj nr' rk, .slice sj n' sk, .slice vj nt' vk] 41)) 0 nt' T YF (.slice vj nt' vk)) := ⟨(EE.out.1.trans (qF.mono EE.out.1.size)).alloc (Nat.le_trans EE.out.1.size qF.size) _, ⟨(EE.out.2.1.2.1.later qF).later (below_alloc _ _), (EE.out.2.1.2.2.later qF).later (below_alloc _ _)⟩, ⟨(EE.out.2.2.1.later qF).later (below_alloc _ _), (EE.out.2.2.2.later qF).later (below_alloc _ _)⟩, ((hfF.grs sk).mono (Nat.zero_le _)).later (below_alloc _ _), ((howF.txs vk).mono (Nat.zero_le _)).later (below_alloc _ _)⟩
  obtain ⟨⟨t0, t1, t2, t3, t4, t5, t6, t7⟩, _⟩ := EE.out.2.1.1.later qF
  have hl := (EE.out.2.1.1.later qF).2
  clear qF hfF howF hlF EE
  go_wp2_with fail
  refine (eqWorldResultT_same c mv nw' nx' bd' nr' F n' S UF UW _ _ _ _ _ _ _ _ nt' T YF YW _ _ _ _ 0 0 _ EF.out.2.2.2.1 (EF.out.2.1.1.mono (Nat.zero_le _)) EF.out.2.2.2.2 (EF.out.2.1.2.mono (Nat.zero_le _)) HSM.out.1 HSM.out.2).mono ?_
  rintro e wG ⟨rfl, qG⟩
  have EG : Hid (Below w.heap.size w wG ∧ BlkR wG w6.heap.size (.int .i64 c) (.bool mv) (.int .i64 nw') (.int .i64 nx') (.int .i64 bd') (.slice ra nr' rc) (.slice sa n' sc) (.slice va nt' vc) ∧ MarkW wG w5.heap.size lo nr' n' S ra rc sa sc U nt' T Y va vc) := ⟨EF.out.1.trans (qG.mono EF.out.1.size), EF.out.2.2.1.1.later qG, EF.out.2.2.1.2.later qG⟩
  clear qG EF t0 t1 t2 t3 t4 t5 t6 t7 hl
  obtain ⟨⟨g0, g1, g2, g3, g4', g5, g6, g7⟩, _⟩ := EG.out.2.1
  go_wp2_with fail
  refine (heldWorldResultT_any c mv nw' nx' bd' nr' n' S ra rc sa sc U nt' T Y va vc w5.heap.size lo _ EG.out.2.2 HSM.out.1 HSM.out.2).mono ?_
  rw [HMS.out]
  rintro e wH ⟨rfl, qH⟩
  have EH : Hid (Below w.heap.size w wH) := EG.out.1.trans (qH.mono EG.out.1.size)
  clear qH EG g0 g1 g2 g3 g4' g5 g6 g7
  go_wp2
  go_ret
  exact ⟨rfl, EH.out⟩
theorem fall_walk (nw nx bd : Int) (nr : Nat) (F : Nat → Int) (n : Nat) (S : Nat → Sto) (V : Nat → Nat → Value) (vr vs : Value) (nt : Nat) (T : Nat → Tx) (X : Nat → Value) (vt : Value) (w : World) (h : Grs w 0 nr F n S V vr vs) (hx : Txs w 0 nt T X vt) (hr : nr ≤ 9223372036854775807) (hn : n ≤ 9223372036854775807) (hs : ∀ i, i < n → BigS (S i)) (hnt : nt ≤ 9223372036854775807) (hm : ∀ i, i < nt → (T i).m ≤ 9223372036854775807) :
    Calls Tryz.prog 4 #[.agg #[.int .i64 nw, .int .i64 nx, .int .i64 bd, vr, vs, vt]] w fun e w' => e = .returned (.bool true) ∧ Below w.heap.size w w' := by
  obtain ⟨c, mv, nw', nx', bd', nr', n', nt', hle, hA⟩ := FallAns.get nw nx bd nr F n S nt T
  exact exactFallWorld_walk nw nx bd nr F n S V vr vs nt T X vt w h hx hr hn hs hnt hm ⟨c, mv, nw', nx', bd', nr', n', nt', hle, fun U ur us Y ut x q1 q2 b1 b2 b3 b4 =>
    ⟨specFall_is nw nx bd nr F n S U ur us nt T Y ut 0 c mv nw' nx' bd' nr' n' nt' x q1 q2 (by omega) (by omega) (by omega) (fun i hi => by have := b4 i hi; omega) hA, implFall_is nw nx bd nr F n S U ur us nt T Y ut 0 c mv nw' nx' bd' nr' n' nt' x q1 q2 (by omega) (by omega) (by omega) (fun i hi => by have := b4 i hi; omega) hA⟩⟩
end Go.Proofs.YthmmikmmpndeoaaGreat

