/-
  Own text. NewGroups: what the model's and the program's answer, the same code and the same groups.
-/
import Derived.Test.YtkaeolbnafhjaaaGreatGrpQ
import Derived.Test.YtkaeolbnafhjaaaGreatRngI
namespace Go.Proofs.YtkaeolbnafhjaaaGreat
open Go.RowKit Go.Maps

theorem fineR_nil (w : World) (lo : Nat) (F : Nat → Int) (T : Nat → Sto) (_ : lo ≤ w.heap.size) : FineR w lo w.heap.size 0 F 0 T none 0 none (fun _ _ => .bool true) (fun _ => lo) :=
  ⟨⟨⟨_, _, rfl, fun h => absurd h (Nat.lt_irrefl 0)⟩, Free.of0 _ _⟩, ⟨fun h => absurd h (Nat.lt_irrefl 0), fun i hi => absurd hi (Nat.not_lt_zero i)⟩, ⟨fun i hi => absurd hi (Nat.not_lt_zero i), fun i hi => absurd hi (Nat.not_lt_zero i), Nat.le_refl _⟩, fun h => absurd h (Nat.lt_irrefl 0)⟩
theorem resGr_nil {w w' : World} {c : Int} {e : Ending} {F : Nat → Int} {T : Nat → Sto} (he : e = .returned (.agg #[.int .i64 c, .slice none 0 0, .slice none 0 0])) (hb : Below w.heap.size w w') : ResGr w c 0 F 0 T e w' := ⟨none, 0, none, 0, _, _, he, fineR_nil w' w.heap.size F T hb.size, hb⟩
set_option maxHeartbeats 1000000 in
theorem l7Bad_is (c : Int) (F : Nat → Int) (T : Nat → Sto) (w : World) : Calls Tryz.prog 36 #[.int .i64 c] w (ResGr w c 0 F 0 T) := by
  go_enter Tryz.func36, Tryz.ntmps36
  go_wp2
  exact bodyPost_ret (v := .agg #[.int .i64 c, .slice none 0 0, .slice none 0 0]) (by simp [results, Tryz.results36, go_sem]) rfl (resGr_nil rfl (by first | exact below_alloc _ _ | exact ((((below_alloc _ _).setCell (Nat.le_refl _) _).setCell (Nat.le_refl _) _).setCell (Nat.le_refl _) _)))
/-- One range and one store, each in blocks of its own. -/
theorem fineR_one {x : World} {lo zz zt sb : Nat} {F : Nat → Int} {S : Sto} {ra : Option Addr} {rc : Nat} {u0 u1 u2 : Value} (hr : Row x lo 3 1 F (.slice ra 1 rc) ∧ Free x (1 * 3) (.slice ra 1 rc)) (hq : ∀ q, (Value.slice ra 1 rc).ownBlock = some q → q < zz) (hs : St x zz S u0 u1 u2 ∧ FreeS x S u0 u1 u2 ∧ ApartD S u0 u1 u2) (ho : OwnIn S u0 u1 u2 (fun q => zz ≤ q ∧ q < zt)) (hz : lo ≤ zz ∧ zz ≤ zt ∧ zt ≤ sb) (hb : Blk3 x sb u0 u1 u2) :
    FineR x lo x.heap.size 1 F 1 (fun _ => S) ra rc (some ⟨sb, 0, none⟩) (putU (fun _ _ => .bool true) 0 u0 u1 u2) (fun i => if i = 0 + 1 then zt else zz) := by
  have hlt := hb.lt
  have fi : Fine x (fun i => if i = 0 + 1 then zt else zz) (0 + 1) (fun _ => S) (putU (fun _ _ => .bool true) 0 u0 u1 u2) := Fine.put (z := fun _ => zz) (fun i hi => absurd hi (Nat.not_lt_zero i)) rfl hs ho hz.2.1
  have sp : ∀ q, (q < zz ∨ zt ≤ q) → Spare 1 (fun _ => S) (putU (fun _ _ => .bool true) 0 u0 u1 u2) q := fun q h i hi => by
    obtain rfl : i = 0 := by omega
    simp only [putU, if_true]
    exact ho.mono (fun p hp => by omega)
  refine ⟨hr, ⟨fun _ => ⟨sb, rfl, by omega, ⟨hlt, fun p hp => ?_, fun i hi => ?_⟩, sp sb (Or.inr hz.2.2)⟩, fi⟩, ⟨fun i hi => ?_, fun i hi => ?_, Nat.le_refl _⟩, fun _ q e => ⟨sp q (Or.inl (hq q e)), fun _ e' => ?_, by have := hq q e; omega⟩⟩
  · match p, hp with
    | 0, _ => exact ⟨⟨_, hb.1.1⟩, hb.2.1⟩
    | 1, _ => exact ⟨⟨_, hb.1.2.1⟩, hb.2.2.1⟩
    | 2, _ => exact ⟨⟨_, hb.1.2.2⟩, hb.2.2.2⟩
  · obtain rfl : i = 0 := by omega
    simp only [putU, if_true]
    exact hb.1
  · obtain rfl : i = 0 := by omega
    show lo ≤ (if 0 = 0 + 1 then zt else zz)
    rw [if_neg (by omega)]; exact hz.1
  · obtain rfl : i = 0 := by omega
    show (if 0 + 1 = 0 + 1 then zt else zz) ≤ _
    rw [if_pos rfl]; omega
  · simp only [Option.some.injEq, Addr.mk.injEq, and_true] at e'
    have := hq q e
    omega
/-- The call's blocks: the store, and the answer that is under way. -/
def CallN (w : World) (B : Nat) (S : Sto) (v0 v1 v2 : Value) (x : World) : Prop := Blk3 x w.heap.size v0 v1 v2 ∧ Blk3 x (w.heap.size + 1) (.int .i64 0) (.slice none 0 0) (.slice none 0 0) ∧ St x B S v0 v1 v2 ∧ Below w.heap.size w x
theorem CallN.later {w x x' : World} {B : Nat} {S : Sto} {v0 v1 v2 : Value} (h : CallN w B S v0 v1 v2 x) (hb : Below x.heap.size x x') : CallN w B S v0 v1 v2 x' := ⟨h.1.later hb, h.2.1.later hb, h.2.2.1.later hb, h.2.2.2.trans (hb.mono h.2.2.2.size)⟩
theorem CallN.new {w : World} {B : Nat} {S : Sto} {v0 v1 v2 : Value} (h : St w B S v0 v1 v2) (t t' : TypeId) : CallN w B S v0 v1 v2 ((w.alloc (.cells #[v0, v1, v2] t)).alloc (.cells #[.int .i64 0, .slice none 0 0, .slice none 0 0] t')) := by
  refine ⟨(Blk3.new _ _ _ _ _).alloc _, ?_, (h.alloc _).alloc _, (below_alloc _ _).alloc (by simp) _⟩
  have := Blk3.new (w.alloc (.cells #[v0, v1, v2] t)) (.int .i64 0) (.slice none 0 0) (.slice none 0 0) t'
  rwa [World.size_alloc] at this
def NewAns (S : Sto) (ep : Int) (c : Int) (nr : Nat) (F : Nat → Int) (n : Nat) (T : Nat → Sto) : Prop :=
  ((storeF S ≠ 0 ∧ c = storeF S ∨ storeF S = 0 ∧ ¬ (1 ≤ ep ∧ ep ≤ 9999) ∧ c = 3) ∧ nr = 0 ∧ n = 0) ∨ (storeF S = 0 ∧ (1 ≤ ep ∧ ep ≤ 9999) ∧ c = 0 ∧ nr = 1 ∧ F = wholeF ep ∧ n = 1 ∧ T = fun _ => S)
/-- What the last region reads: the store, the list of ranges and the one range. -/
def NewE (w : World) (v0 v1 v2 : Value) (rb : Nat) (gr oR rc : Nat) (ep : Int) (x : World) : Prop := Blk3 x w.heap.size v0 v1 v2 ∧ x.cell? ⟨rb, 1, none⟩ = some (.slice (some ⟨gr, oR, none⟩) 1 rc) ∧ x.cell? ⟨gr, oR, none⟩ = some (.int .i64 0) ∧ x.cell? ⟨gr, oR + 1, none⟩ = some (.int .i64 200) ∧ x.cell? ⟨gr, oR + 2, none⟩ = some (.int .i64 ep)
theorem NewE.kept {w x x' : World} {v0 v1 v2 : Value} {rb gr oR rc : Nat} {ep : Int} (h : NewE w v0 v1 v2 rb gr oR rc ep x) (hb : ∀ q, q = w.heap.size ∨ q = rb ∨ q = gr → x'.heap[q]? = x.heap[q]?) : NewE w v0 v1 v2 rb gr oR rc ep x' := by
  have k : ∀ b p, b = w.heap.size ∨ b = rb ∨ b = gr → x'.cell? ⟨b, p, none⟩ = x.cell? ⟨b, p, none⟩ := fun b p h' => World.cell?_of_block (w := x) (a := ⟨b, p, none⟩) (hb b h')
  obtain ⟨h0, h1, h2, h3, h4⟩ := h
  exact ⟨h0.kept (hb _ (Or.inl rfl)), (k _ _ (Or.inr (Or.inl rfl))).trans h1, (k _ _ (Or.inr (Or.inr rfl))).trans h2, (k _ _ (Or.inr (Or.inr rfl))).trans h3, (k _ _ (Or.inr (Or.inr rfl))).trans h4⟩
set_option maxRecDepth 100000 in
set_option maxHeartbeats 8000000 in
theorem specNewGroups_is (S : Sto) (v0 v1 v2 : Value) (ep c : Int) (nr : Nat) (F : Nat → Int) (n : Nat) (T : Nat → Sto) (B : Nat) (w : World) (h : St w B S v0 v1 v2) (hA : NewAns S ep c nr F n T) :
    Calls Tryz.prog 9 #[.agg #[v0, v1, v2], .int .i64 ep] w (ResGr w c nr F n T) := by
  obtain ⟨a0, c0, a1, c1, a2, c2, rfl, rfl, rfl⟩ := h.form
  have HE : Hid (CallN w B S (.slice a0 S.nc c0) (.slice a1 S.nl c1) (.slice a2 S.nw c2) ((w.alloc (.cells #[.slice a0 S.nc c0, .slice a1 S.nl c1, .slice a2 S.nw c2] 39)).alloc (.cells #[.int .i64 0, .slice none 0 0, .slice none 0 0] 33))) := CallN.new h _ _
  clear h
  obtain ⟨f, hf⟩ : ∃ f, storeF S = f := ⟨_, rfl⟩
  have HF : Hid (storeF S = f) := hf
  obtain ⟨⟨p0, p1, p2⟩, _⟩ := HE.out.1
  unfold ResGr
  rcases hA with ⟨hc, rfl, rfl⟩ | ⟨hz, he, rfl, rfl, rfl, rfl, rfl⟩
  · rcases hc with ⟨hz, hc⟩ | ⟨hz, he, rfl⟩
    · rw [hf] at hz hc
      subst hc
      have d : (c == 0) = false := beq_eq_false_iff_ne.2 hz
      have d' : (c != 0) = true := bne_iff_ne.2 hz
      clear hz HF
      go_enter Tryz.func9, Tryz.ntmps9
      go_wp2_with fail
      refine (l2Fault_any S _ _ _ _ _ ⟨⟨p0, p1, p2⟩, HE.out.2.2.1.mono (Nat.zero_le _)⟩).mono ?_
      rw [hf]
      rintro e w1 ⟨rfl, q1⟩
      have HE : Hid (CallN w B S (.slice a0 S.nc c0) (.slice a1 S.nl c1) (.slice a2 S.nw c2) w1) := HE.out.later q1
      clear q1 p0 p1 p2 hf
      obtain ⟨⟨p0, p1, p2⟩, _⟩ := HE.out.1
      obtain ⟨⟨r0, r1, r2⟩, f0, f1, f2⟩ := HE.out.2.1
      go_wp2_with fail
      refine (l7Bad_is c F T _).mono ?_
      rintro e w4 ⟨xa, xc, ya, yc, U, z, rfl, hR, q4⟩
      have HE4 : Hid (CallN w B S (.slice a0 S.nc c0) (.slice a1 S.nl c1) (.slice a2 S.nw c2) w4) := HE.out.later q4
      have z4 : Hid (w.heap.size + 2 ≤ _) := HE.out.2.1.lt
      have HR : Hid (FineR w4 _ w4.heap.size 0 F 0 T xa xc ya U z) := hR
      clear q4 hR r0 r1 r2 f0 f1 f2
      obtain ⟨⟨r0, r1, r2⟩, f0, f1, f2⟩ := HE4.out.2.1
      go_wp2
      refine bodyPost_ret (v := .agg #[.int .i64 c, .slice xa 0 xc, .slice ya 0 yc]) (by simp [results, Tryz.results9, go_sem, r0, r1, r2]) rfl ⟨xa, xc, ya, yc, U, z, rfl, ?_, ((HE4.out.2.2.2.setCell (Nat.le_succ _) _).setCell (Nat.le_succ _) _).setCell (Nat.le_succ _) _⟩
      exact (((HR.out.within (within_set _ (w.heap.size + 1) 0 _) z4.out).within (within_set _ (w.heap.size + 1) 1 _) z4.out).within (within_set _ (w.heap.size + 1) 2 _) z4.out).up (by have := z4.out; omega)
    · rw [hf] at hz
      subst hz
      have HP : Hid (¬ (1 ≤ ep ∧ ep ≤ 9999)) := he
      clear he HF
      go_enter Tryz.func9, Tryz.ntmps9
      go_wp2_with fail
      refine (l2Fault_any S _ _ _ _ _ ⟨⟨p0, p1, p2⟩, HE.out.2.2.1.mono (Nat.zero_le _)⟩).mono ?_
      rw [hf]
      rintro e w1 ⟨rfl, q1⟩
      have HE : Hid (CallN w B S (.slice a0 S.nc c0) (.slice a1 S.nl c1) (.slice a2 S.nw c2) w1) := HE.out.later q1
      clear q1 p0 p1 p2 hf
      obtain ⟨⟨p0, p1, p2⟩, _⟩ := HE.out.1
      obtain ⟨⟨r0, r1, r2⟩, f0, f1, f2⟩ := HE.out.2.1
      go_wp2_with fail
      refine (specWhole_bad ep HP.out _).mono ?_
      rintro e w2 ⟨ao, cp, rfl, _, _, q2⟩
      have HE : Hid (CallN w B S (.slice a0 S.nc c0) (.slice a1 S.nl c1) (.slice a2 S.nw c2) (w2.alloc (.cells #[.int .i64 3, .slice ao 0 cp] 70))) := (HE.out.later q2).later (below_alloc _ _)
      clear q2 p0 p1 p2 r0 r1 r2 f0 f1 f2
      obtain ⟨⟨r0, r1, r2⟩, f0, f1, f2⟩ := HE.out.2.1
      go_wp2_with fail
      generalize w2.alloc (.cells #[.int .i64 3, .slice ao 0 cp] 70) = w3 at HE ⊢
      refine (l7Bad_is 3 F T _).mono ?_
      rintro e w4 ⟨xa, xc, ya, yc, U, z, rfl, hR, q4⟩
      have HE4 : Hid (CallN w B S (.slice a0 S.nc c0) (.slice a1 S.nl c1) (.slice a2 S.nw c2) w4) := HE.out.later q4
      have z4 : Hid (w.heap.size + 2 ≤ _) := HE.out.2.1.lt
      have HR : Hid (FineR w4 _ w4.heap.size 0 F 0 T xa xc ya U z) := hR
      clear q4 hR r0 r1 r2 f0 f1 f2
      obtain ⟨⟨r0, r1, r2⟩, f0, f1, f2⟩ := HE4.out.2.1
      go_wp2
      refine bodyPost_ret (v := .agg #[.int .i64 3, .slice xa 0 xc, .slice ya 0 yc]) (by simp [results, Tryz.results9, go_sem, r0, r1, r2]) rfl ⟨xa, xc, ya, yc, U, z, rfl, ?_, ((HE4.out.2.2.2.setCell (Nat.le_succ _) _).setCell (Nat.le_succ _) _).setCell (Nat.le_succ _) _⟩
      exact (((HR.out.within (within_set _ (w.heap.size + 1) 0 _) z4.out).within (within_set _ (w.heap.size + 1) 1 _) z4.out).within (within_set _ (w.heap.size + 1) 2 _) z4.out).up (by have := z4.out; omega)
  · rw [hf] at hz
    subst hz
    have HP : Hid (1 ≤ ep ∧ ep ≤ 9999) := he
    have HZ : Hid (S.nc ≤ 200 ∧ S.nl ≤ 200 ∧ S.nw ≤ 200) := (storeF_zero HF.out).1
    clear he HF
    go_enter Tryz.func9, Tryz.ntmps9
    go_wp2_with fail
    refine (l2Fault_any S _ _ _ _ _ ⟨⟨p0, p1, p2⟩, HE.out.2.2.1.mono (Nat.zero_le _)⟩).mono ?_
    rw [hf]
    rintro e w1 ⟨rfl, q1⟩
    have HE : Hid (CallN w B S (.slice a0 S.nc c0) (.slice a1 S.nl c1) (.slice a2 S.nw c2) w1) := HE.out.later q1
    clear q1 p0 p1 p2 hf
    obtain ⟨⟨p0, p1, p2⟩, _⟩ := HE.out.1
    obtain ⟨⟨r0, r1, r2⟩, f0, f1, f2⟩ := HE.out.2.1
    go_wp2_with fail
    have z1 : Hid (w.heap.size + 2 ≤ w1.heap.size) := HE.out.2.1.lt
    refine (specWhole_ok ep HP.out _).mono ?_
    rintro e w2 ⟨ao, cp, rfl, rw2, fr2, q2⟩
    obtain ⟨gr, oR, rfl, hlo2, hgr, x0, x1, x2⟩ := rw2.at3 (k := 0) (by omega)
    have y0 : w2.cell? ⟨gr, oR, none⟩ = some (.int .i64 0) := by simpa [wholeF] using x0
    have y1 : w2.cell? ⟨gr, oR + 1, none⟩ = some (.int .i64 200) := by simpa [wholeF] using x1
    have y2 : w2.cell? ⟨gr, oR + 2, none⟩ = some (.int .i64 ep) := by simpa [wholeF] using x2
    have HE : Hid (CallN w B S (.slice a0 S.nc c0) (.slice a1 S.nl c1) (.slice a2 S.nw c2) (w2.alloc (.cells #[.int .i64 0, .slice (some ⟨gr, oR, none⟩) 1 cp] 70))) := (HE.out.later q2).later (below_alloc _ _)
    have RW : Hid (Row (w2.alloc (.cells #[.int .i64 0, .slice (some ⟨gr, oR, none⟩) 1 cp] 70)) w1.heap.size 3 1 (wholeF ep) (.slice (some ⟨gr, oR, none⟩) 1 cp) ∧ Free (w2.alloc (.cells #[.int .i64 0, .slice (some ⟨gr, oR, none⟩) 1 cp] 70)) (1 * 3) (.slice (some ⟨gr, oR, none⟩) 1 cp)) := ⟨rw2.alloc _, fr2.ofRow rw2 (below_alloc _ _)⟩
    have NE : Hid (NewE w (.slice a0 S.nc c0) (.slice a1 S.nl c1) (.slice a2 S.nw c2) w2.heap.size gr oR cp ep (w2.alloc (.cells #[.int .i64 0, .slice (some ⟨gr, oR, none⟩) 1 cp] 70))) := ⟨HE.out.1, (Blk2.new w2 _ _ _).1.2, ((below_alloc w2 _).cell (p := ⟨gr, oR, none⟩) hgr).trans y0, ((below_alloc w2 _).cell (p := ⟨gr, oR + 1, none⟩) hgr).trans y1, ((below_alloc w2 _).cell (p := ⟨gr, oR + 2, none⟩) hgr).trans y2⟩
    have k0 := (Blk2.new w2 (.int .i64 0) (.slice (some ⟨gr, oR, none⟩) 1 cp) 70).1.1
    have zz : Hid (w.heap.size + 2 ≤ w1.heap.size ∧ w1.heap.size ≤ gr ∧ gr < w2.heap.size ∧ w2.heap.size < (w2.alloc (.cells #[.int .i64 0, .slice (some ⟨gr, oR, none⟩) 1 cp] 70)).heap.size) := ⟨z1.out, hlo2, hgr, by simp⟩
    clear rw2 fr2 q2 x0 x1 x2 y0 y1 y2 p0 p1 p2 r0 r1 r2 f0 f1 f2 hlo2 hgr
    go_wp2_with fail
    generalize w2.alloc (.cells #[.int .i64 0, .slice (some ⟨gr, oR, none⟩) 1 cp] 70) = w3 at HE RW NE zz ⊢
    clear k0
    refine wp_region_held_drew (S := NewE w (.slice a0 S.nc c0) (.slice a1 S.nl c1) (.slice a2 S.nw c2) w2.heap.size gr oR cp ep) (by kernel_rfl) (NE.out.kept (fun _ _ => rfl)) (fun hS => ?_)
    refine wpAnyH_take (i := 0) (v := ?_) rfl (by kernel_rfl) (by kernel_rfl) (by kernel_rfl) (fun _ _ _ h => h) (Or.inl ⟨by kernel_rfl, ?_⟩) hS ?_
    rotate_left
    · intro wx hx
      obtain ⟨⟨⟨hx0, hx1, hx2⟩, _⟩, hx3, hx4, hx5, hx6⟩ := hx
      go_simp
      try with_reducible rfl
    refine wpAnyH_take (i := 1) (v := ?_) rfl (by kernel_rfl) (by kernel_rfl) (by kernel_rfl) (fun _ _ _ h => h) (Or.inl ⟨by kernel_rfl, ?_⟩) hS ?_
    rotate_left
    · intro wx hx
      obtain ⟨⟨⟨hx0, hx1, hx2⟩, _⟩, hx3, hx4, hx5, hx6⟩ := hx
      go_simp
      try with_reducible rfl
    refine wpAnyH_take (i := 2) (v := ?_) rfl (by kernel_rfl) (by kernel_rfl) (by kernel_rfl) (fun _ _ _ h => h) (Or.inl ⟨by kernel_rfl, ?_⟩) hS ?_
    rotate_left
    · intro wx hx
      obtain ⟨⟨⟨hx0, hx1, hx2⟩, _⟩, hx3, hx4, hx5, hx6⟩ := hx
      go_simp
      try with_reducible rfl
    refine wpAnyH_ready (rs := [3]) (by kernel_rfl) (by simp) ?_
    refine AllReadyH.cons rfl (fun K hK => ?_) AllReadyH.nil
    go_simp
    go_wp2_with fail
    refine (l2Copy_is S _ _ _ B _ (HE.out.2.2.1.later (below_dr (Below.refl _ _) 1)) ⟨by have := HZ.out; omega, by have := HZ.out; omega, by have := HZ.out; omega⟩).mono ?_
    rintro e w4 ⟨d0, e0, d1, e1, d2, e2, rfl, ⟨s4, f4, a4⟩, q4⟩
    have q4' : Below w3.heap.size w3 w4 := ⟨q4.os, q4.tape, q4.output, q4.size, q4.block⟩
    have z34 : Hid (w3.heap.size ≤ w4.heap.size) := q4'.size
    have HE5 : Hid (CallN w B S (.slice a0 S.nc c0) (.slice a1 S.nl c1) (.slice a2 S.nw c2) (w4.alloc (.cells #[.slice d0 S.nc e0, .slice d1 S.nl e1, .slice d2 S.nw e2] 39))) := (HE.out.later q4').later (below_alloc _ _)
    have SC : Hid ((St (w4.alloc (.cells #[.slice d0 S.nc e0, .slice d1 S.nl e1, .slice d2 S.nw e2] 39)) w3.heap.size S (.slice d0 S.nc e0) (.slice d1 S.nl e1) (.slice d2 S.nw e2) ∧ FreeS (w4.alloc (.cells #[.slice d0 S.nc e0, .slice d1 S.nl e1, .slice d2 S.nw e2] 39)) S (.slice d0 S.nc e0) (.slice d1 S.nl e1) (.slice d2 S.nw e2) ∧ ApartD S (.slice d0 S.nc e0) (.slice d1 S.nl e1) (.slice d2 S.nw e2)) ∧ OwnIn S (.slice d0 S.nc e0) (.slice d1 S.nl e1) (.slice d2 S.nw e2) (fun q => w3.heap.size ≤ q ∧ q < w4.heap.size)) := ⟨⟨s4.alloc _, f4.later s4 (below_alloc _ _), a4⟩, s4.ownIn⟩
    have SB : Hid (Blk3 (w4.alloc (.cells #[.slice d0 S.nc e0, .slice d1 S.nl e1, .slice d2 S.nw e2] 39)) w4.heap.size (.slice d0 S.nc e0) (.slice d1 S.nl e1) (.slice d2 S.nw e2)) := Blk3.new _ _ _ _ _
    have RW5 : Hid (Row (w4.alloc (.cells #[.slice d0 S.nc e0, .slice d1 S.nl e1, .slice d2 S.nw e2] 39)) w1.heap.size 3 1 (wholeF ep) (.slice (some ⟨gr, oR, none⟩) 1 cp) ∧ Free (w4.alloc (.cells #[.slice d0 S.nc e0, .slice d1 S.nl e1, .slice d2 S.nw e2] 39)) (1 * 3) (.slice (some ⟨gr, oR, none⟩) 1 cp)) := ⟨(RW.out.1.later q4').alloc _, (RW.out.2.ofRow RW.out.1 q4').ofRow (RW.out.1.later q4') (below_alloc _ _)⟩
    have hS' := hS.kept (x' := w4) (fun q hq => q4'.block q (by have := zz.out; rcases hq with e | e | e <;> omega))
    have hS5 := hS'.kept (x' := w4.alloc (.cells #[.slice d0 S.nc e0, .slice d1 S.nl e1, .slice d2 S.nw e2] 39)) (fun q hq => (below_alloc w4 _).block q (by have := zz.out; have := z34.out; rcases hq with e | e | e <;> omega))
    clear q4 q4' s4 f4 a4 HE RW
    go_wp2_with fail
    refine hK.out _ _ hS' (fun hS => ?_)
    clear hK K hS'
    refine wpAnyH_ready (rs := [4]) (by kernel_rfl) (by simp) ?_
    refine AllReadyH.cons rfl (fun K hK => ?_) AllReadyH.nil
    go_simp
    refine hK.out _ _ hS5 (fun hS => ?_)
    clear hK K hS5
    refine wpAnyH_take (i := 5) (v := ?_) rfl (by kernel_rfl) (by kernel_rfl) (by kernel_rfl) (fun _ _ _ h => h) (Or.inl ⟨by kernel_rfl, ?_⟩) hS ?_
    rotate_left
    · intro wx hx
      obtain ⟨⟨⟨hx0, hx1, hx2⟩, _⟩, hx3, hx4, hx5, hx6⟩ := hx
      go_simp
      try with_reducible rfl
    refine wpAnyH_take (i := 6) (v := ?_) rfl (by kernel_rfl) (by kernel_rfl) (by kernel_rfl) (fun _ _ _ h => h) (Or.inl ⟨by kernel_rfl, ?_⟩) hS ?_
    rotate_left
    · intro wx hx
      obtain ⟨⟨⟨hx0, hx1, hx2⟩, _⟩, hx3, hx4, hx5, hx6⟩ := hx
      go_simp
      try with_reducible rfl
    generalize w4.alloc (.cells #[.slice d0 S.nc e0, .slice d1 S.nl e1, .slice d2 S.nw e2] 39) = w5 at HE5 SC SB RW5 hS ⊢
    obtain ⟨⟨r0, r1, r2⟩, f0, f1, f2⟩ := HE5.out.2.1
    refine wpAnyH_ready (rs := [7]) (by kernel_rfl) (by simp) ?_
    refine AllReadyH.cons rfl (fun K hK => ?_) AllReadyH.nil
    go_simp
    have kp : ∀ (X : World) (p : Nat) (u : Value) (q : Nat), q = w.heap.size ∨ q = w2.heap.size ∨ q = gr → (X.setCell ⟨w.heap.size + 1, p, none⟩ u).heap[q]? = X.heap[q]? := fun X p u q hq => Below.heap_setCell X ⟨w.heap.size + 1, p, none⟩ u q (by show q ≠ w.heap.size + 1; have := zz.out; rcases hq with e | e | e <;> omega)
    refine hK.out _ _ (hS.kept (fun q hq => (kp _ _ _ q hq).trans ((kp _ _ _ q hq).trans (kp _ _ _ q hq)))) (fun hS => ?_)
    clear hK K
    refine wpAnyH_done (by kernel_rfl) ?_ _
    clear hS kp
    go_simp
    have FR : FineR w5 w1.heap.size w5.heap.size 1 (wholeF ep) 1 (fun _ => S) (some ⟨gr, oR, none⟩) cp (some ⟨w4.heap.size, 0, none⟩) (putU (fun _ _ => .bool true) 0 (.slice d0 S.nc e0) (.slice d1 S.nl e1) (.slice d2 S.nw e2)) (fun i => if i = 0 + 1 then w4.heap.size else w3.heap.size) := fineR_one RW5.out (fun q e => by have := zz.out; simp [Value.ownBlock] at e; omega) SC.out.1 SC.out.2 ⟨by have := zz.out; omega, z34.out, Nat.le_refl _⟩ SB.out
    go_wp2
    refine bodyPost_ret (v := .agg #[.int .i64 0, .slice (some ⟨gr, oR, none⟩) 1 cp, .slice (some ⟨w4.heap.size, 0, none⟩) 1 1]) (by simp [results, Tryz.results9, go_sem, r0, r1, r2]) rfl ⟨_, _, _, _, putU (fun _ _ => .bool true) 0 (.slice d0 S.nc e0) (.slice d1 S.nl e1) (.slice d2 S.nw e2), fun i => if i = 0 + 1 then w4.heap.size else w3.heap.size, rfl, ?_, ((HE5.out.2.2.2.setCell (Nat.le_succ _) _).setCell (Nat.le_succ _) _).setCell (Nat.le_succ _) _⟩
    exact (((FR.within (within_set _ (w.heap.size + 1) 0 _) z1.out).within (within_set _ (w.heap.size + 1) 1 _) z1.out).within (within_set _ (w.heap.size + 1) 2 _) z1.out).up (by have := z1.out; omega)
set_option maxRecDepth 100000 in
set_option maxHeartbeats 8000000 in
theorem implNewGroups_is (S : Sto) (v0 v1 v2 : Value) (ep c : Int) (nr : Nat) (F : Nat → Int) (n : Nat) (T : Nat → Sto) (B : Nat) (w : World) (h : St w B S v0 v1 v2) (hA : NewAns S ep c nr F n T) :
    Calls Tryz.prog 11 #[.agg #[v0, v1, v2], .int .i64 ep] w (ResGr w c nr F n T) := by
  obtain ⟨a0, c0, a1, c1, a2, c2, rfl, rfl, rfl⟩ := h.form
  have HE : Hid (CallN w B S (.slice a0 S.nc c0) (.slice a1 S.nl c1) (.slice a2 S.nw c2) ((w.alloc (.cells #[.slice a0 S.nc c0, .slice a1 S.nl c1, .slice a2 S.nw c2] 39)).alloc (.cells #[.int .i64 0, .slice none 0 0, .slice none 0 0] 33))) := CallN.new h _ _
  clear h
  obtain ⟨f, hf⟩ : ∃ f, storeF S = f := ⟨_, rfl⟩
  have HF : Hid (storeF S = f) := hf
  obtain ⟨⟨p0, p1, p2⟩, _⟩ := HE.out.1
  rcases hA with ⟨hc, rfl, rfl⟩ | ⟨hz, he, rfl, rfl, rfl, rfl, rfl⟩
  · rcases hc with ⟨hz, hc⟩ | ⟨hz, he, rfl⟩
    · rw [hf] at hz hc
      subst hc
      have d : (c == 0) = false := beq_eq_false_iff_ne.2 hz
      have d' : (c != 0) = true := bne_iff_ne.2 hz
      clear hz HF
      go_enter Tryz.func11, Tryz.ntmps11
      go_wp2_with fail
      refine (implFault_any S _ _ _ B _ HE.out.2.2.1).mono ?_
      rw [hf]
      rintro e w1 ⟨rfl, q1⟩
      have HE : Hid (CallN w B S (.slice a0 S.nc c0) (.slice a1 S.nl c1) (.slice a2 S.nw c2) w1) := HE.out.later q1
      clear q1 p0 p1 p2 hf
      obtain ⟨⟨p0, p1, p2⟩, _⟩ := HE.out.1
      obtain ⟨⟨r0, r1, r2⟩, f0, f1, f2⟩ := HE.out.2.1
      go_wp2
      exact bodyPost_ret (v := .agg #[.int .i64 c, .slice none 0 0, .slice none 0 0]) (by simp [results, Tryz.results11, go_sem, r0, r1, r2]) rfl (resGr_nil rfl (((HE.out.2.2.2.setCell (Nat.le_succ _) _).setCell (Nat.le_succ _) _).setCell (Nat.le_succ _) _))
    · rw [hf] at hz
      subst hz
      have HP : Hid (¬ (1 ≤ ep ∧ ep ≤ 9999)) := he
      clear he HF
      go_enter Tryz.func11, Tryz.ntmps11
      go_wp2_with fail
      refine (implFault_any S _ _ _ B _ HE.out.2.2.1).mono ?_
      rw [hf]
      rintro e w1 ⟨rfl, q1⟩
      have HE : Hid (CallN w B S (.slice a0 S.nc c0) (.slice a1 S.nl c1) (.slice a2 S.nw c2) w1) := HE.out.later q1
      clear q1 p0 p1 p2 hf
      obtain ⟨⟨p0, p1, p2⟩, _⟩ := HE.out.1
      obtain ⟨⟨r0, r1, r2⟩, f0, f1, f2⟩ := HE.out.2.1
      go_wp2_with fail
      refine (implWhole_bad ep HP.out _).mono ?_
      rintro e w2 ⟨ao, cp, rfl, _, _, q2⟩
      have HE : Hid (CallN w B S (.slice a0 S.nc c0) (.slice a1 S.nl c1) (.slice a2 S.nw c2) (w2.alloc (.cells #[.int .i64 3, .slice ao 0 cp] 70))) := (HE.out.later q2).later (below_alloc _ _)
      clear q2 p0 p1 p2 r0 r1 r2 f0 f1 f2
      obtain ⟨⟨r0, r1, r2⟩, f0, f1, f2⟩ := HE.out.2.1
      go_wp2
      exact bodyPost_ret (v := .agg #[.int .i64 3, .slice none 0 0, .slice none 0 0]) (by simp [results, Tryz.results11, go_sem, r0, r1, r2]) rfl (resGr_nil rfl (((HE.out.2.2.2.setCell (Nat.le_succ _) _).setCell (Nat.le_succ _) _).setCell (Nat.le_succ _) _))
  · rw [hf] at hz
    subst hz
    have HP : Hid (1 ≤ ep ∧ ep ≤ 9999) := he
    have HZ : Hid (storeF S = 0) := HF.out
    clear he HF
    go_enter Tryz.func11, Tryz.ntmps11
    go_wp2_with fail
    refine (implFault_any S _ _ _ B _ HE.out.2.2.1).mono ?_
    rw [hf]
    rintro e w1 ⟨rfl, q1⟩
    have HE : Hid (CallN w B S (.slice a0 S.nc c0) (.slice a1 S.nl c1) (.slice a2 S.nw c2) w1) := HE.out.later q1
    clear q1 p0 p1 p2 hf
    obtain ⟨⟨p0, p1, p2⟩, _⟩ := HE.out.1
    obtain ⟨⟨r0, r1, r2⟩, f0, f1, f2⟩ := HE.out.2.1
    have z1 : Hid (w.heap.size + 2 ≤ w1.heap.size) := HE.out.2.1.lt
    go_wp2_with fail
    refine (implWhole_ok ep HP.out _).mono ?_
    rintro e w2 ⟨ao, cp, rfl, rw2, fr2, q2⟩
    obtain ⟨gr, oR, rfl, hlo2, hgr, x0, x1, x2⟩ := rw2.at3 (k := 0) (by omega)
    have y0 : w2.cell? ⟨gr, oR, none⟩ = some (.int .i64 0) := by simpa [wholeF] using x0
    have y1 : w2.cell? ⟨gr, oR + 1, none⟩ = some (.int .i64 200) := by simpa [wholeF] using x1
    have y2 : w2.cell? ⟨gr, oR + 2, none⟩ = some (.int .i64 ep) := by simpa [wholeF] using x2
    have HE : Hid (CallN w B S (.slice a0 S.nc c0) (.slice a1 S.nl c1) (.slice a2 S.nw c2) (w2.alloc (.cells #[.int .i64 0, .slice (some ⟨gr, oR, none⟩) 1 cp] 70))) := (HE.out.later q2).later (below_alloc _ _)
    have RW : Hid (Row (w2.alloc (.cells #[.int .i64 0, .slice (some ⟨gr, oR, none⟩) 1 cp] 70)) w1.heap.size 3 1 (wholeF ep) (.slice (some ⟨gr, oR, none⟩) 1 cp) ∧ Free (w2.alloc (.cells #[.int .i64 0, .slice (some ⟨gr, oR, none⟩) 1 cp] 70)) (1 * 3) (.slice (some ⟨gr, oR, none⟩) 1 cp)) := ⟨rw2.alloc _, fr2.ofRow rw2 (below_alloc _ _)⟩
    have NE : Hid (NewE w (.slice a0 S.nc c0) (.slice a1 S.nl c1) (.slice a2 S.nw c2) w2.heap.size gr oR cp ep (w2.alloc (.cells #[.int .i64 0, .slice (some ⟨gr, oR, none⟩) 1 cp] 70))) := ⟨HE.out.1, (Blk2.new w2 _ _ _).1.2, ((below_alloc w2 _).cell (p := ⟨gr, oR, none⟩) hgr).trans y0, ((below_alloc w2 _).cell (p := ⟨gr, oR + 1, none⟩) hgr).trans y1, ((below_alloc w2 _).cell (p := ⟨gr, oR + 2, none⟩) hgr).trans y2⟩
    have k0 := (Blk2.new w2 (.int .i64 0) (.slice (some ⟨gr, oR, none⟩) 1 cp) 70).1.1
    have zz : Hid (w.heap.size + 2 ≤ w1.heap.size ∧ w1.heap.size ≤ gr ∧ gr < w2.heap.size ∧ w2.heap.size < (w2.alloc (.cells #[.int .i64 0, .slice (some ⟨gr, oR, none⟩) 1 cp] 70)).heap.size) := ⟨z1.out, hlo2, hgr, by simp⟩
    clear rw2 fr2 q2 x0 x1 x2 y0 y1 y2 p0 p1 p2 r0 r1 r2 f0 f1 f2 hlo2 hgr
    go_wp2_with fail
    generalize w2.alloc (.cells #[.int .i64 0, .slice (some ⟨gr, oR, none⟩) 1 cp] 70) = w3 at HE RW NE zz ⊢
    clear k0
    refine wp_region_held_drew (S := NewE w (.slice a0 S.nc c0) (.slice a1 S.nl c1) (.slice a2 S.nw c2) w2.heap.size gr oR cp ep) (by kernel_rfl) (NE.out.kept (fun _ _ => rfl)) (fun hS => ?_)
    refine wpAnyH_take (i := 0) (v := ?_) rfl (by kernel_rfl) (by kernel_rfl) (by kernel_rfl) (fun _ _ _ h => h) (Or.inl ⟨by kernel_rfl, ?_⟩) hS ?_
    rotate_left
    · intro wx hx
      obtain ⟨⟨⟨hx0, hx1, hx2⟩, _⟩, hx3, hx4, hx5, hx6⟩ := hx
      go_simp
      try with_reducible rfl
    refine wpAnyH_take (i := 1) (v := ?_) rfl (by kernel_rfl) (by kernel_rfl) (by kernel_rfl) (fun _ _ _ h => h) (Or.inl ⟨by kernel_rfl, ?_⟩) hS ?_
    rotate_left
    · intro wx hx
      obtain ⟨⟨⟨hx0, hx1, hx2⟩, _⟩, hx3, hx4, hx5, hx6⟩ := hx
      go_simp
      try with_reducible rfl
    refine wpAnyH_take (i := 2) (v := ?_) rfl (by kernel_rfl) (by kernel_rfl) (by kernel_rfl) (fun _ _ _ h => h) (Or.inl ⟨by kernel_rfl, ?_⟩) hS ?_
    rotate_left
    · intro wx hx
      obtain ⟨⟨⟨hx0, hx1, hx2⟩, _⟩, hx3, hx4, hx5, hx6⟩ := hx
      go_simp
      try with_reducible rfl
    refine wpAnyH_take (i := 3) (v := ?_) rfl (by kernel_rfl) (by kernel_rfl) (by kernel_rfl) (fun _ _ _ h => h) (Or.inl ⟨by kernel_rfl, ?_⟩) hS ?_
    rotate_left
    · intro wx hx
      obtain ⟨⟨⟨hx0, hx1, hx2⟩, _⟩, hx3, hx4, hx5, hx6⟩ := hx
      go_simp
      try with_reducible rfl
    refine wpAnyH_take (i := 4) (v := ?_) rfl (by kernel_rfl) (by kernel_rfl) (by kernel_rfl) (fun _ _ _ h => h) (Or.inl ⟨by kernel_rfl, ?_⟩) hS ?_
    rotate_left
    · intro wx hx
      obtain ⟨⟨⟨hx0, hx1, hx2⟩, _⟩, hx3, hx4, hx5, hx6⟩ := hx
      go_simp
      try with_reducible rfl
    refine wpAnyH_ready (rs := [5]) (by kernel_rfl) (by simp) ?_
    refine AllReadyH.cons rfl (fun K hK => ?_) AllReadyH.nil
    go_simp
    go_wp2_with fail
    refine (pointTo_is S _ _ _ 0 200 ep B _ (HE.out.2.2.1.later (below_dr (Below.refl _ _) 1)) HZ.out).mono ?_
    rintro e w4 ⟨b, gm, u1, u2, rfl, hRS, q4⟩
    have q4' : Below w3.heap.size w3 w4 := ⟨q4.os, q4.tape, q4.output, q4.size, q4.block⟩
    have Z := storeF_zero HZ.out
    have z34 : Hid (w3.heap.size ≤ w4.heap.size) := q4'.size
    have HE5 : Hid (CallN w B S (.slice a0 S.nc c0) (.slice a1 S.nl c1) (.slice a2 S.nw c2) (w4.alloc (.cells #[.pointer (some ⟨b, 0, none⟩)] 78))) := (HE.out.later q4').later (below_alloc _ _)
    have TO : Hid (Told (w4.alloc (.cells #[.pointer (some ⟨b, 0, none⟩)] 78)) w3.heap.size 1 (wholeF ep) (fun _ => S) (fun _ => b)) := fun i hi => by
      obtain rfl : i = 0 := by omega
      exact ⟨S.nc, cellM S S.nc, gm, u1, u2, ⟨by have := Z.1.1; omega, Z.1.2.1, Z.1.2.2⟩, mapSelf Z.2.1, hRS.later (below_alloc _ _)⟩
    have PR : Hid (PtrRow (w4.alloc (.cells #[.pointer (some ⟨b, 0, none⟩)] 78)) 1 (some ⟨w4.heap.size, 0, none⟩) (fun _ => b)) := fun _ => ⟨w4.heap.size, 0, rfl, by simp, fun i hi => by
      obtain rfl : i = 0 := by omega
      exact World.cell?_alloc_mark w4 #[.pointer (some ⟨b, 0, none⟩)] _ _ 0⟩
    have hS' := hS.kept (x' := w4) (fun q hq => q4'.block q (by have := zz.out; rcases hq with e | e | e <;> omega))
    have hS5 := hS'.kept (x' := w4.alloc (.cells #[.pointer (some ⟨b, 0, none⟩)] 78)) (fun q hq => (below_alloc w4 _).block q (by have := zz.out; have := z34.out; rcases hq with e | e | e <;> omega))
    clear q4 q4' hRS Z HE RW
    go_wp2_with fail
    refine hK.out _ _ hS' (fun hS => ?_)
    clear hK K hS'
    refine wpAnyH_ready (rs := [6]) (by kernel_rfl) (by simp) ?_
    refine AllReadyH.cons rfl (fun K hK => ?_) AllReadyH.nil
    go_simp
    refine hK.out _ _ hS5 (fun hS => ?_)
    clear hK K hS5
    have z45 : Hid (w4.heap.size < (w4.alloc (.cells #[.pointer (some ⟨b, 0, none⟩)] 78)).heap.size) := by unfold Hid; simp
    refine wpAnyH_ready (rs := [7]) (by kernel_rfl) (by simp) ?_
    refine AllReadyH.cons rfl (fun K hK => ?_) AllReadyH.nil
    go_simp
    go_wp2_with fail
    refine (groupsTold_is 1 _ _ (wholeF ep) (fun _ => S) (fun _ => b) w3.heap.size _ PR.out TO.out (by omega)).mono ?_
    rintro e w6 ⟨xa, xc, ya, yc, U, z, rfl, hR, q6⟩
    have HE6 : Hid (CallN w B S (.slice a0 S.nc c0) (.slice a1 S.nl c1) (.slice a2 S.nw c2) w6) := HE5.out.later q6
    have HR : Hid (FineR w6 (w.heap.size + 2) w6.heap.size 1 (wholeF ep) 1 (fun _ => S) xa xc ya U z) := hR.mono (by have := zz.out; have := z34.out; have := z45.out; omega)
    have hS' := hS.kept (x' := w6) (fun q hq => q6.block q (by have := zz.out; have := z34.out; have := z45.out; rcases hq with e | e | e <;> omega))
    clear q6 hR HE5 TO PR
    go_wp2_with fail
    refine hK.out _ _ hS' (fun hS => ?_)
    clear hK K hS'
    obtain ⟨⟨r0, r1, r2⟩, f0, f1, f2⟩ := HE6.out.2.1
    refine wpAnyH_ready (rs := [8]) (by kernel_rfl) (by simp) ?_
    refine AllReadyH.cons rfl (fun K hK => ?_) AllReadyH.nil
    go_simp
    have kp : ∀ (X : World) (p : Nat) (u : Value) (q : Nat), q = w.heap.size ∨ q = w2.heap.size ∨ q = gr → (X.setCell ⟨w.heap.size + 1, p, none⟩ u).heap[q]? = X.heap[q]? := fun X p u q hq => Below.heap_setCell X ⟨w.heap.size + 1, p, none⟩ u q (by show q ≠ w.heap.size + 1; have := zz.out; rcases hq with e | e | e <;> omega)
    refine hK.out _ _ (hS.kept (fun q hq => (kp _ _ _ q hq).trans ((kp _ _ _ q hq).trans (kp _ _ _ q hq)))) (fun hS => ?_)
    clear hK K
    refine wpAnyH_done (by kernel_rfl) ?_ _
    clear hS kp
    go_simp
    go_wp2
    refine bodyPost_ret (v := .agg #[.int .i64 0, .slice xa 1 xc, .slice ya 1 yc]) (by simp [results, Tryz.results11, go_sem, r0, r1, r2]) rfl ⟨xa, xc, ya, yc, U, z, rfl, ?_, ((HE6.out.2.2.2.setCell (Nat.le_succ _) _).setCell (Nat.le_succ _) _).setCell (Nat.le_succ _) _⟩
    exact (((HR.out.within (within_set _ (w.heap.size + 1) 0 _) (Nat.le_refl _)).within (within_set _ (w.heap.size + 1) 1 _) (Nat.le_refl _)).within (within_set _ (w.heap.size + 1) 2 _) (Nat.le_refl _)).up (by omega)
theorem NewAns.get (S : Sto) (ep : Int) : ∃ c nr F n T, SmallG nr n T ∧ NewAns S ep c nr F n T := by
  have small : SmallG 0 0 (fun _ => S) := ⟨by omega, by omega, fun i hi => absurd hi (Nat.not_lt_zero i), by simp [sumN]⟩
  by_cases hz : storeF S = 0
  · by_cases he : 1 ≤ ep ∧ ep ≤ 9999
    · have Z := (storeF_zero hz).1
      refine ⟨0, 1, wholeF ep, 1, fun _ => S, ⟨by omega, by omega, fun i _ => ?_, ?_⟩, Or.inr ⟨hz, he, rfl, rfl, rfl, rfl, rfl⟩⟩
      · show SmallS S
        unfold SmallS; omega
      · simp only [sumN, sizeT]; omega
    · exact ⟨3, 0, wholeF ep, 0, fun _ => S, small, Or.inl ⟨Or.inr ⟨hz, he, rfl⟩, rfl, rfl⟩⟩
  · exact ⟨_, 0, wholeF ep, 0, fun _ => S, small, Or.inl ⟨Or.inl ⟨hz, rfl⟩, rfl, rfl⟩⟩
end Go.Proofs.YtkaeolbnafhjaaaGreat
