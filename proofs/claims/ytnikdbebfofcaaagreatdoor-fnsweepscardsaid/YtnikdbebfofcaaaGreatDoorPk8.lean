/-
  Own text, merged of DrawR, DrawE, DrawX, JoiA, ColsS, ColsT.
-/
import Derived.Test.YtnikdbebfofcaaaGreatDoorPk7
namespace Go.Proofs.YtnikdbebfofcaaaGreatDoor
open Go.RowKit

theorem hid_mk {p : Prop} (h : p) : Hid p := h
theorem commitDraw_any (S : Sto) (v0 v1 v2 : Value) (a s c : Int) (B : Nat) (w : World) (h : St w B S v0 v1 v2) :
    Calls Tryz.prog 73 #[.agg #[v0, v1, v2], .int .i64 a, .int .i64 s, .int .i64 c] w fun e w' => ∃ r R, Sz R ∧ ResStoK w r R e w' := by
  obtain ⟨r, R, _, hA⟩ := CommitAns.get S a s c
  exact (specCommitKey_own S v0 v1 v2 a s c r R B w h hA).mono fun e w' q => ⟨r, R, hA.sz, q⟩
theorem rollDraw_any (S : Sto) (v0 v1 v2 : Value) (a s : Int) (B : Nat) (w : World) (h : St w B S v0 v1 v2) :
    Calls Tryz.prog 74 #[.agg #[v0, v1, v2], .int .i64 a, .int .i64 s] w fun e w' => ∃ r R, Sz R ∧ ResStoK w r R e w' := by
  obtain ⟨r, R, _, hA⟩ := RollAns.get S a s
  exact (specRollbackKey_own S v0 v1 v2 a s r R B w h hA).mono fun e w' q => ⟨r, R, hA.sz, q⟩
set_option maxRecDepth 100000 in
set_option maxHeartbeats 16000000 in
theorem l3Right_any (w : World) (b : Nat) (o : Option Addr) (len cap : Nat) (a : Int) (h : Src w b o len cap a) (ha : a ≤ 100000) (hl : len ≤ 1048576) :
    Calls Tryz.prog 38 #[.pointer (some ⟨b, 0, none⟩)] w fun e w' => ∃ (S : Sto) (a0 : Option Addr) (c0 : Nat) (a1 : Option Addr) (c1 : Nat) (a2 : Option Addr) (c2 : Nat) (z : Int), e = .returned (.agg #[.slice a0 S.nc c0, .slice a1 S.nl c1, .slice a2 S.nw c2]) ∧ (Sz S ∧ z ≤ a + 700) ∧ OwnS w' w.heap.size S (.slice a0 S.nc c0) (.slice a1 S.nl c1) (.slice a2 S.nw c2) ∧ Src w' b o len cap z ∧ But b w w' := by
  have hbl := h.lt
  have hpos := h.pos
  have H0 : Hid (Src w b o len cap a) := h
  have D0 : Hid (DrS w b o len cap emptyS (.slice none 0 0) (.slice none 0 0) (.slice none 0 0) a ((w.alloc (.cells #[.slice none 0 0, .slice none 0 0, .slice none 0 0] 28)).alloc (.cells #[.slice none 0 0, .slice none 0 0, .slice none 0 0] 28))) := {
    src := (h.alloc _).alloc _
    but := ((But.refl _ _).alloc _).alloc _
    res := (Blk3.new w _ _ _ _).alloc _
    box := by
      have := Blk3.new (w.alloc (.cells #[.slice none 0 0, .slice none 0 0, .slice none 0 0] 28)) (.slice none 0 0) (.slice none 0 0) (.slice none 0 0) 28
      rwa [World.size_alloc] at this
    own := OwnS.empty _ _
    lo := hbl
    base := ⟨a, h⟩ }
  clear h
  go_enter Tryz.func38, Tryz.ntmps38
  go_wp2_with fail
  refine (l1Next_any _ b o len cap a 30 D0.out.src (by omega) hl).mono ?_
  rintro e w1 ⟨r, rfl, p0, p1, hS1, hT1⟩
  have p2 : r < 30 := p1 (by omega)
  obtain ⟨k0, rfl⟩ : ∃ k : Nat, r = k := ⟨r.toNat, by omega⟩
  have D1 : Hid (DrS w b o len cap emptyS (.slice none 0 0) (.slice none 0 0) (.slice none 0 0) (a + 1) w1) := D0.out.step hT1 hS1
  clear hS1 hT1 D0 p0 p1
  go_wp2
  go_loopw [4] (fun i wr => ∃ (z : Nat) (S : Sto) (a0 : Option Addr) (c0 : Nat) (a1 : Option Addr) (c1 : Nat) (a2 : Option Addr) (c2 : Nat) (c : Int), i = .int .i64 z ∧ z ≤ 29 ∧ (0 ≤ c ∧ c + 20 * z ≤ a + 601) ∧ Hid (Sz S) ∧ Hid (DrS w b o len cap S (.slice a0 S.nc c0) (.slice a1 S.nl c1) (.slice a2 S.nw c2) c wr)) (fun i _ => (intOf i).toNat)
  case atStart => exact ⟨k0, emptyS, none, 0, none, 0, none, 0, a + 1, rfl, by omega, ⟨by omega, by omega⟩, sz_empty, D1⟩
  case round =>
    clear D1
    obtain ⟨z, S, a0, c0, a1, c1, a2, c2, c, rfl, hz29, hcz, HZ, HD⟩ := hrel
    by_cases hz : 0 < z
    case neg =>
      obtain rfl : z = 0 := by omega
      obtain ⟨⟨r0, r1, r2⟩, f0, f1, f2⟩ := HD.out.res
      obtain ⟨⟨t0, t1, t2⟩, _⟩ := HD.out.box
      go_wp2
      have hlo : (w.heap.size : Nat) < w.heap.size + 2 := by omega
      refine bodyPost_ret (v := .agg #[.slice a0 S.nc c0, .slice a1 S.nl c1, .slice a2 S.nw c2]) (by simp [results, Tryz.results38, go_sem, r0, r1, r2]) rfl ⟨S, a0, c0, a1, c1, a2, c2, c, rfl, ⟨HZ.out, by omega⟩, (((HD.out.own.far hlo _).far hlo _).far hlo _).mono (by omega), ?_, ?_⟩
      · exact ((HD.out.src.setS H0.out HD.out.but (Nat.le_refl _) _ _).setS H0.out (HD.out.but.setS (Nat.le_refl _) _ _) (Nat.le_refl _) _ _).setS H0.out ((HD.out.but.setS (Nat.le_refl _) _ _).setS (Nat.le_refl _) _ _) (Nat.le_refl _) _ _
      · exact ((HD.out.but.setS (Nat.le_refl _) _ _).setS (Nat.le_refl _) _ _).setS (Nat.le_refl _) _ _
    have dz : decide (0 < z) = true := decide_eq_true hz
    have hwz : IntKind.i64.wrap ((z : Int) - 1) = ((z - 1 : Nat) : Int) := by simp [IntKind.wrap, IntKind.bits, IntKind.signed]; omega
    go_wp2_with fail
    refine (l1Next_any _ b o len cap c 12 HD.out.src (by omega) hl).mono ?_
    rintro e w2 ⟨rs, rfl, s0, s1, hS2, hT2⟩
    have s2 : rs < 12 := s1 (by omega)
    have HD : Hid (DrS w b o len cap S (.slice a0 S.nc c0) (.slice a1 S.nl c1) (.slice a2 S.nw c2) (c + 1) w2) := HD.out.step hT2 hS2
    clear hS2 hT2 s1
    go_wp2_with fail
    refine (l1Key_any _ b o len cap (c + 1) HD.out.src (by omega) hl).mono ?_
    rintro e w3 ⟨ky, rfl, _, hS3, hT3⟩
    have HD : Hid (DrS w b o len cap S (.slice a0 S.nc c0) (.slice a1 S.nl c1) (.slice a2 S.nw c2) (c + 1 + 5) w3) := HD.out.step hT3 hS3
    clear hS3 hT3
    go_upto_region 7 with fail
    go_cut [30] (fun s wx => ∃ (q : Bool) (d : Int), s = .bool q ∧ (q = true → 0 < S.nl) ∧ (0 ≤ d ∧ d ≤ c + 7) ∧ Hid (DrS w b o len cap S (.slice a0 S.nc c0) (.slice a1 S.nl c1) (.slice a2 S.nw c2) d wx))
    case first =>
      obtain ⟨⟨t0, t1, t2⟩, _⟩ := HD.out.box
      by_cases hnl : 0 < S.nl
      case neg =>
        have dn : decide (0 < S.nl) = false := decide_eq_false hnl
        go_wp2_with fail
        go_meet
        case rel => exact ⟨false, _, rfl, fun q => absurd q (by decide), ⟨by omega, by omega⟩, HD⟩
      have dn : decide (0 < S.nl) = true := decide_eq_true hnl
      go_wp2_with fail
      refine (l1Chance_any _ b o len cap (c + 1 + 5) 2 HD.out.src (by omega) hl).mono ?_
      rintro e w4 ⟨r, rfl, hS4, hT4⟩
      have HD : Hid (DrS w b o len cap S (.slice a0 S.nc c0) (.slice a1 S.nl c1) (.slice a2 S.nw c2) (c + 1 + 5 + 1) w4) := HD.out.step hT4 hS4
      clear hS4 hT4 t0 t1 t2
      go_wp2_with fail
      go_meet
      case rel => exact ⟨r, _, rfl, fun _ => hnl, ⟨by omega, by omega⟩, HD⟩
    case rest =>
    clear HD
    obtain ⟨q, d, rfl, hq, hd, HD⟩ := hcut
    go_upto_if 30 with fail
    go_cut [5, 6] (fun s k wx => ∃ (st ky d : Int), s = .int .i64 st ∧ k = .int .i64 ky ∧ (0 ≤ d ∧ d ≤ c + 8) ∧ Hid (DrS w b o len cap S (.slice a0 S.nc c0) (.slice a1 S.nl c1) (.slice a2 S.nw c2) d wx))
    case first =>
      cases q with
      | false =>
        go_wp2_with fail
        go_meet
        case rel => exact ⟨_, _, _, rfl, rfl, ⟨by omega, by omega⟩, HD⟩
      | true =>
        have hnl := hq rfl
        clear hq
        go_wp2_with fail
        refine wp_region_held_drew (S := BoxS (w.heap.size + 1) (.slice a0 S.nc c0) (.slice a1 S.nl c1) (.slice a2 S.nw c2)) (by kernel_rfl) (HD.out.box.kept rfl) (fun hS => ?_)
        have HD : Hid (DrS w b o len cap S (.slice a0 S.nc c0) (.slice a1 S.nl c1) (.slice a2 S.nw c2) d wc.drew) := HD.out.later (below_dr (Below.refl _ _) 1)
        generalize wc.drew = w5 at HD hS ⊢
        refine tkH 0 ?_ hS (fun wx hx => ?_) ?_; rotate_left
        · obtain ⟨⟨hx0, hx1, hx2⟩, _⟩ := hx; go_simp; try with_reducible rfl
        refine tkH 1 ?_ hS (fun wx hx => ?_) ?_; rotate_left
        · obtain ⟨⟨hx0, hx1, hx2⟩, _⟩ := hx; go_simp; try with_reducible rfl
        refine tkH 2 ?_ hS (fun wx hx => ?_) ?_; rotate_left
        · obtain ⟨⟨hx0, hx1, hx2⟩, _⟩ := hx; go_simp; try with_reducible rfl
        refine tkH 3 ?_ hS (fun wx hx => ?_) ?_; rotate_left
        · obtain ⟨⟨hx0, hx1, hx2⟩, _⟩ := hx; go_simp; try with_reducible rfl
        refine tkH 4 ?_ hS (fun wx hx => ?_) ?_; rotate_left
        · obtain ⟨⟨hx0, hx1, hx2⟩, _⟩ := hx; go_simp; try with_reducible rfl
        refine tkH 5 ?_ hS (fun wx hx => ?_) ?_; rotate_left
        · obtain ⟨⟨hx0, hx1, hx2⟩, _⟩ := hx; go_simp; try with_reducible rfl
        refine rdH 6 (fun K hK => ?_)
        go_simp
        go_wp2_with fail
        refine (l1Next_any _ b o len cap d S.nl HD.out.src (by omega) hl).mono ?_
        rintro e w6 ⟨ri, rfl, i0, i1, hS6, hT6⟩
        have i2 : ri < S.nl := i1 (by omega)
        obtain ⟨i, rfl⟩ : ∃ i : Nat, ri = i := ⟨ri.toNat, by omega⟩
        have hin : i < S.nl := by omega
        have HD : Hid (DrS w b o len cap S (.slice a0 S.nc c0) (.slice a1 S.nl c1) (.slice a2 S.nw c2) (d + 1) w6) := HD.out.step hT6 hS6
        have hS' : BoxS (w.heap.size + 1) (.slice a0 S.nc c0) (.slice a1 S.nl c1) (.slice a2 S.nw c2) w6 := HD.out.box
        clear hS6 hT6 i1
        go_wp2_with fail
        refine hK.out _ _ hS' (fun hS => ?_)
        clear hK K hS'
        obtain ⟨g, oo, rfl, _, hg, x0, x1, x2, x3, x4⟩ := HD.out.own.st.2.1.at5 hin
        obtain ⟨n0, N0⟩ : ∃ x, S.l (i * 5) = x := ⟨_, rfl⟩
        rw [N0] at x0
        refine tkH 7 ?_ hS (fun wx hx => ?_) ?_; rotate_left
        · obtain ⟨⟨hx0, hx1, hx2⟩, _⟩ := hx; go_simp; try with_reducible rfl
        refine tkH 8 ?_ hS (fun wx hx => ?_) ?_; rotate_left
        · obtain ⟨⟨hx0, hx1, hx2⟩, _⟩ := hx; go_simp; try with_reducible rfl
        refine rdH 9 (fun K hK => ?_)
        go_simp
        refine hK.out _ _ hS (fun hS => ?_)
        clear hK K
        refine tkH 10 ?_ hS (fun wx hx => ?_) ?_; rotate_left
        · obtain ⟨⟨hx0, hx1, hx2⟩, _⟩ := hx; go_simp; try with_reducible rfl
        refine wpAnyH_done (by kernel_rfl) ?_ _
        clear hS x0 x1 x2 x3 x4
        go_simp
        go_wp2_with fail
        refine wp_region_held_drew (S := BoxS (w.heap.size + 1) (.slice a0 S.nc c0) (.slice (some ⟨g, oo, none⟩) S.nl c1) (.slice a2 S.nw c2)) (by kernel_rfl) (HD.out.box.kept rfl) (fun hS => ?_)
        have HD : Hid (DrS w b o len cap S (.slice a0 S.nc c0) (.slice (some ⟨g, oo, none⟩) S.nl c1) (.slice a2 S.nw c2) (d + 1) w6.drew) := HD.out.later (below_dr (Below.refl _ _) 1)
        generalize w6.drew = w7 at HD hS ⊢
        refine tkH 0 ?_ hS (fun wx hx => ?_) ?_; rotate_left
        · obtain ⟨⟨hx0, hx1, hx2⟩, _⟩ := hx; go_simp; try with_reducible rfl
        refine tkH 1 ?_ hS (fun wx hx => ?_) ?_; rotate_left
        · obtain ⟨⟨hx0, hx1, hx2⟩, _⟩ := hx; go_simp; try with_reducible rfl
        refine tkH 2 ?_ hS (fun wx hx => ?_) ?_; rotate_left
        · obtain ⟨⟨hx0, hx1, hx2⟩, _⟩ := hx; go_simp; try with_reducible rfl
        refine rdH 3 (fun K hK => ?_)
        go_simp
        go_wp2_with fail
        refine (l2Lock_draw S (w.heap.size + 1) 0 _ _ _ n0 _ ⟨HD.out.box.1, HD.out.own.st.mono (Nat.zero_le _)⟩ HZ.out.2.1).mono ?_
        rintro e w8 ⟨rj, rfl, hF, hw8⟩
        obtain rfl := hw8.symm
        obtain ⟨j, hj, rfl⟩ : ∃ j : Nat, j < S.nl ∧ rj = j := by
          rcases hF with ⟨_, hno⟩ | ⟨j, hj, e, _⟩
          · exact absurd N0 (hno i hin)
          · exact ⟨j, hj, e⟩
        clear hF N0
        go_wp2_with fail
        refine hK.out _ _ hS (fun hS => ?_)
        clear hK K
        obtain ⟨g', oo', e', _, _, x0, x1, x2, x3, x4⟩ := HD.out.own.st.2.1.at5 hj
        simp only [Option.some.injEq, Addr.mk.injEq] at e'
        obtain ⟨rfl, rfl, _⟩ := e'
        obtain ⟨n1, N1⟩ : ∃ x, S.l (j * 5 + 1) = x := ⟨_, rfl⟩
        rw [N1] at x1
        refine tkH 4 ?_ hS (fun wx hx => ?_) ?_; rotate_left
        · obtain ⟨⟨hx0, hx1, hx2⟩, _⟩ := hx; go_simp; try with_reducible rfl
        refine tkH 5 ?_ hS (fun wx hx => ?_) ?_; rotate_left
        · obtain ⟨⟨hx0, hx1, hx2⟩, _⟩ := hx; go_simp; try with_reducible rfl
        refine rdH 6 (fun K hK => ?_)
        go_simp
        refine hK.out _ _ hS (fun hS => ?_)
        clear hK K
        refine tkH 7 ?_ hS (fun wx hx => ?_) ?_; rotate_left
        · obtain ⟨⟨hx0, hx1, hx2⟩, _⟩ := hx; go_simp; try with_reducible rfl
        refine wpAnyH_done (by kernel_rfl) ?_ _
        clear hS x0 x1 x2 x3 x4
        go_simp
        go_wp2_with fail
        go_meet
        case rel => exact ⟨_, _, _, rfl, rfl, ⟨by omega, by omega⟩, HD⟩
    case rest =>
    obtain ⟨st, ky, d, rfl, rfl, hd, HD⟩ := hcut
    clear hq
    have hI : Hid (Ints (wc.alloc (.cells #[.int .i64 1, .int .i64 1, .int .i64 1, .int .i64 2, .int .i64 3] 2)) wc.heap.size (.slice (some ⟨wc.heap.size, 0, none⟩) 5 5) [1, 1, 1, 2, 3]) := World.ownsRow_lit wc #[.int .i64 1, .int .i64 1, .int .i64 1, .int .i64 2, .int .i64 3] 5 (Nat.le_refl _) (by decide) rfl
    go_wp2_with fail
    refine (l1Pick_any _ b o len cap d _ wc.heap.size [1, 1, 1, 2, 3] (HD.out.src.alloc _) (by omega) hl hI.out HD.out.src.lt (by simp) (by simp)).mono ?_
    rintro e w4 ⟨kd, rfl, _, hS4, hT4⟩
    have HD : Hid (DrS w b o len cap S (.slice a0 S.nc c0) (.slice a1 S.nl c1) (.slice a2 S.nw c2) (d + 1) w4) := (HD.out.later (below_alloc _ _)).step hT4 hS4
    clear hS4 hT4 hI
    go_upto_if 52 with fail
    go_cut [8] (fun s wx => ∃ (va e : Int), s = .int .i64 va ∧ (0 ≤ e ∧ e ≤ d + 2) ∧ Hid (DrS w b o len cap S (.slice a0 S.nc c0) (.slice a1 S.nl c1) (.slice a2 S.nw c2) (e) wx))
    case first =>
      by_cases hk : kd = 1
      · have dk : (kd == 1) = true := by rw [hk]; rfl
        clear hk
        go_wp2_with fail
        refine (l1Next_any _ b o len cap (d + 1) 99 HD.out.src (by omega) hl).mono ?_
        rintro e w5 ⟨va, rfl, _, _, hS5, hT5⟩
        have HD : Hid (DrS w b o len cap S (.slice a0 S.nc c0) (.slice a1 S.nl c1) (.slice a2 S.nw c2) (d + 1 + 1) w5) := HD.out.step hT5 hS5
        clear hS5 hT5
        go_wp2_with fail
        go_meet
        case rel => exact ⟨_, _, rfl, ⟨by omega, by omega⟩, HD⟩
      · have dk : (kd == 1) = false := beq_eq_false_iff_ne.2 hk
        clear hk
        go_wp2_with fail
        go_meet
        case rel => exact ⟨_, _, rfl, ⟨by omega, by omega⟩, HD⟩
    case rest =>
    clear HD
    obtain ⟨va, d', rfl, hd', HD⟩ := hcut
    have HB : Hid (b < w.heap.size) := hbl
    go_upto_region 14 with fail
    go_cut [9] (fun s wx => ∃ (rb : Nat) (rc : Int) (R : Sto) (g0 : Option Addr) (q0 : Nat) (g1 : Option Addr) (q1 : Nat) (g2 : Option Addr) (q2 : Nat) (e : Int), s = .pointer (some ⟨rb, 0, none⟩) ∧ (0 ≤ e ∧ e ≤ d' + 2) ∧ Hid (Sz R) ∧ Hid (DrS w b o len cap S (.slice a0 S.nc c0) (.slice a1 S.nl c1) (.slice a2 S.nw c2) (e) wx) ∧ Hid (RQ w (.slice a0 S.nc c0) (.slice a1 S.nl c1) (.slice a2 S.nw c2) rb rc R (.slice g0 R.nc q0) (.slice g1 R.nl q1) (.slice g2 R.nw q2) wx))
    case first =>
      refine wp_region_held_drew (S := BoxS (w.heap.size + 1) (.slice a0 S.nc c0) (.slice a1 S.nl c1) (.slice a2 S.nw c2)) (by kernel_rfl) (HD.out.box.kept rfl) (fun hS => ?_)
      have HD : Hid (DrS w b o len cap S (.slice a0 S.nc c0) (.slice a1 S.nl c1) (.slice a2 S.nw c2) (d') wc.drew) := HD.out.later (below_dr (Below.refl _ _) 1)
      generalize wc.drew = y0 at HD hS ⊢
      refine tkH 0 ?_ hS (fun wx hx => ?_) ?_; rotate_left
      · obtain ⟨⟨hx0, hx1, hx2⟩, _⟩ := hx; go_simp; try with_reducible rfl
      refine tkH 1 ?_ hS (fun wx hx => ?_) ?_; rotate_left
      · obtain ⟨⟨hx0, hx1, hx2⟩, _⟩ := hx; go_simp; try with_reducible rfl
      refine tkH 2 ?_ hS (fun wx hx => ?_) ?_; rotate_left
      · obtain ⟨⟨hx0, hx1, hx2⟩, _⟩ := hx; go_simp; try with_reducible rfl
      refine tkH 3 ?_ hS (fun wx hx => ?_) ?_; rotate_left
      · obtain ⟨⟨hx0, hx1, hx2⟩, _⟩ := hx; go_simp; try with_reducible rfl
      refine tkH 4 ?_ hS (fun wx hx => ?_) ?_; rotate_left
      · obtain ⟨⟨hx0, hx1, hx2⟩, _⟩ := hx; go_simp; try with_reducible rfl
      refine tkH 5 ?_ hS (fun wx hx => ?_) ?_; rotate_left
      · obtain ⟨⟨hx0, hx1, hx2⟩, _⟩ := hx; go_simp; try with_reducible rfl
      refine tkH 6 ?_ hS (fun wx hx => ?_) ?_; rotate_left
      · obtain ⟨⟨hx0, hx1, hx2⟩, _⟩ := hx; go_simp; try with_reducible rfl
      refine tkH 9 ?_ hS (fun wx hx => ?_) ?_; rotate_left
      · obtain ⟨⟨hx0, hx1, hx2⟩, _⟩ := hx; go_simp; try with_reducible rfl
      refine wpAnyH_ready (rs := [7, 12]) (by kernel_rfl) (by simp) ?_
      refine AllReadyH.cons rfl (fun K hK => ?_) (AllReadyH.cons rfl (fun K hK => ?_) AllReadyH.nil)
      focus
        go_simp
        have HI : Hid (Ints (y0.alloc (.cells #[.int .i64 ky, .int .i64 0, .int .i64 10] 2)) y0.heap.size (.slice (some ⟨y0.heap.size, 0, none⟩) 3 3) [ky, 0, 10]) := World.ownsRow_lit y0 #[.int .i64 ky, .int .i64 0, .int .i64 10] 3 (Nat.le_refl _) (by decide) rfl
        have HG : Hid (b < y0.heap.size) := HD.out.src.lt
        have HD : Hid (DrS w b o len cap S (.slice a0 S.nc c0) (.slice a1 S.nl c1) (.slice a2 S.nw c2) (d') (y0.alloc (.cells #[.int .i64 ky, .int .i64 0, .int .i64 10] 2))) := HD.out.later (below_alloc _ _)
        refine hK.out _ _ (show BoxS _ _ _ _ _ from hS.alloc _) (fun hS => ?_)
        clear hK K
        generalize y0.alloc (.cells #[.int .i64 ky, .int .i64 0, .int .i64 10] 2) = y1 at HD HI hS ⊢
        refine wpAnyH_ready (rs := [8, 12]) (by kernel_rfl) (by simp) ?_
        refine AllReadyH.cons rfl (fun K hK => ?_) (AllReadyH.cons rfl (fun K hK => ?_) AllReadyH.nil)
        focus
          go_simp
          go_wp2_with fail
          refine (l1Pick_any _ b o len cap (d') _ y0.heap.size [ky, 0, 10] HD.out.src (by omega) hl HI.out HG.out (by simp) (by simp)).mono ?_
          rintro e y2 ⟨pr, rfl, _, hS1, hT1⟩
          have HD : Hid (DrS w b o len cap S (.slice a0 S.nc c0) (.slice a1 S.nl c1) (.slice a2 S.nw c2) (d' + 1) y2) := HD.out.step hT1 hS1
          have hS' : BoxS (w.heap.size + 1) (.slice a0 S.nc c0) (.slice a1 S.nl c1) (.slice a2 S.nw c2) y2 := HD.out.box
          clear hS1 hT1 HI
          go_wp2_with fail
          refine hK.out _ _ hS' (fun hS => ?_)
          clear hK K hS'
          refine wpAnyH_ready (rs := [10, 12]) (by kernel_rfl) (by simp) ?_
          refine AllReadyH.cons rfl (fun K hK => ?_) (AllReadyH.cons rfl (fun K hK => ?_) AllReadyH.nil)
          focus
            go_simp
            go_wp2_with fail
            refine (l1Next_any _ b o len cap (d' + 1) 99 HD.out.src (by omega) hl).mono ?_
            rintro e y3 ⟨un, rfl, _, _, hS1, hT1⟩
            have HD : Hid (DrS w b o len cap S (.slice a0 S.nc c0) (.slice a1 S.nl c1) (.slice a2 S.nw c2) (d' + 1 + 1) y3) := HD.out.step hT1 hS1
            have hS' : BoxS (w.heap.size + 1) (.slice a0 S.nc c0) (.slice a1 S.nl c1) (.slice a2 S.nw c2) y3 := HD.out.box
            clear hS1 hT1
            go_wp2_with fail
            refine hK.out _ _ hS' (fun hS => ?_)
            clear hK K hS'
            refine wpAnyH_ready (rs := [11, 12]) (by kernel_rfl) (by simp) ?_
            refine AllReadyH.cons rfl (fun K hK => ?_) (AllReadyH.cons rfl (fun K hK => ?_) AllReadyH.nil)
            focus
              go_simp
              obtain ⟨rc, R, _, hA⟩ := PreAns.get S ky st kd va pr un
              have HA : Hid (PreAns S ky st kd va pr un rc R) := hA
              clear hA
              go_wp2_with fail
              refine (specPrewrite_own S _ _ _ ky st kd va pr un rc R 0 _ (HD.out.own.st.mono (Nat.zero_le _)) HA.out).mono ?_
              rintro e y4 ⟨g0, q0, g1, q1, g2, q2, rfl, o5, q5⟩
              have HP : Hid (Sz R ∧ w.heap.size + 2 ≤ y3.heap.size ∧ OwnS y4 y3.heap.size R (.slice g0 R.nc q0) (.slice g1 R.nl q1) (.slice g2 R.nw q2)) := ⟨HA.out.sz, HD.out.sz, o5⟩
              have HD : Hid (DrS w b o len cap S (.slice a0 S.nc c0) (.slice a1 S.nl c1) (.slice a2 S.nw c2) (d' + 1 + 1) y4) := HD.out.later q5
              have hS' : BoxS (w.heap.size + 1) (.slice a0 S.nc c0) (.slice a1 S.nl c1) (.slice a2 S.nw c2) y4 := HD.out.box
              clear o5 q5 HA
              go_wp2_with fail
              refine hK.out _ _ hS' (fun hS => ?_)
              clear hK K hS'
              refine rdH 12 (fun K hK => ?_)
              go_simp
              have RB : Hid (RbT w (.slice a0 S.nc c0) (.slice a1 S.nl c1) (.slice a2 S.nw c2) y4.heap.size (.int .i64 0) (.slice none 0 0) (.slice none 0 0) (.slice none 0 0) (y4.alloc (.cells #[.int .i64 0, .slice none 0 0, .slice none 0 0, .slice none 0 0] 32))) := RbT.new HD.out _
              have HN : Hid (∀ v ∈ [(.slice g0 R.nc q0 : Value), .slice g1 R.nl q1, .slice g2 R.nw q2], v.ownBlock ≠ some y4.heap.size) := HP.out.2.2.fresh
              have HP : Hid (Sz R ∧ w.heap.size + 2 ≤ y3.heap.size ∧ OwnS (y4.alloc (.cells #[.int .i64 0, .slice none 0 0, .slice none 0 0, .slice none 0 0] 32)) y3.heap.size R (.slice g0 R.nc q0) (.slice g1 R.nl q1) (.slice g2 R.nw q2)) := ⟨HP.out.1, HP.out.2.1, HP.out.2.2.later (below_alloc _ _)⟩
              have HD : Hid (DrS w b o len cap S (.slice a0 S.nc c0) (.slice a1 S.nl c1) (.slice a2 S.nw c2) (d' + 1 + 1) (y4.alloc (.cells #[.int .i64 0, .slice none 0 0, .slice none 0 0, .slice none 0 0] 32))) := HD.out.later (below_alloc _ _)
              refine hK.out _ _ (show BoxS _ _ _ _ _ from hS.alloc _) (fun hS => ?_)
              clear hK K
              generalize y4.alloc (.cells #[.int .i64 0, .slice none 0 0, .slice none 0 0, .slice none 0 0] 32) = y5 at HD RB HP hS ⊢
              obtain ⟨rb, hrb⟩ : ∃ rb, y4.heap.size = rb := ⟨_, rfl⟩
              rw [hrb] at RB HN ⊢
              clear hrb
            rotate_left
            focus
              go_simp
              have RB : Hid (RbT w (.slice a0 S.nc c0) (.slice a1 S.nl c1) (.slice a2 S.nw c2) y3.heap.size (.int .i64 0) (.slice none 0 0) (.slice none 0 0) (.slice none 0 0) (y3.alloc (.cells #[.int .i64 0, .slice none 0 0, .slice none 0 0, .slice none 0 0] 32))) := RbT.new HD.out _
              have HD : Hid (DrS w b o len cap S (.slice a0 S.nc c0) (.slice a1 S.nl c1) (.slice a2 S.nw c2) (d' + 1 + 1) (y3.alloc (.cells #[.int .i64 0, .slice none 0 0, .slice none 0 0, .slice none 0 0] 32))) := HD.out.later (below_alloc _ _)
              refine hK.out _ _ (show BoxS _ _ _ _ _ from hS.alloc _) (fun hS => ?_)
              clear hK K
              generalize y3.alloc (.cells #[.int .i64 0, .slice none 0 0, .slice none 0 0, .slice none 0 0] 32) = y4 at HD RB hS ⊢
              obtain ⟨rb, hrb⟩ : ∃ rb, y3.heap.size = rb := ⟨_, rfl⟩
              rw [hrb] at RB ⊢
              clear hrb
              refine rdH 11 (fun K hK => ?_)
              go_simp
              obtain ⟨rc, R, _, hA⟩ := PreAns.get S ky st kd va pr un
              have HA : Hid (PreAns S ky st kd va pr un rc R) := hA
              clear hA
              go_wp2_with fail
              refine (specPrewrite_own S _ _ _ ky st kd va pr un rc R 0 _ (HD.out.own.st.mono (Nat.zero_le _)) HA.out).mono ?_
              rintro e y5 ⟨g0, q0, g1, q1, g2, q2, rfl, o5, q5⟩
              have HP : Hid (Sz R ∧ w.heap.size + 2 ≤ y4.heap.size ∧ OwnS y5 y4.heap.size R (.slice g0 R.nc q0) (.slice g1 R.nl q1) (.slice g2 R.nw q2)) := ⟨HA.out.sz, HD.out.sz, o5⟩
              have HN : Hid (∀ v ∈ [(.slice g0 R.nc q0 : Value), .slice g1 R.nl q1, .slice g2 R.nw q2], v.ownBlock ≠ some rb) := o5.off RB.out.2.1.lt
              have HD : Hid (DrS w b o len cap S (.slice a0 S.nc c0) (.slice a1 S.nl c1) (.slice a2 S.nw c2) (d' + 1 + 1) y5) := HD.out.later q5
              have RB : Hid (RbT w (.slice a0 S.nc c0) (.slice a1 S.nl c1) (.slice a2 S.nw c2) rb (.int .i64 0) (.slice none 0 0) (.slice none 0 0) (.slice none 0 0) y5) := RB.out.later q5
              have hS' : BoxS (w.heap.size + 1) (.slice a0 S.nc c0) (.slice a1 S.nl c1) (.slice a2 S.nw c2) y5 := HD.out.box
              clear o5 q5 HA
              go_wp2_with fail
              refine hK.out _ _ hS' (fun hS => ?_)
              clear hK K hS'
            rotate_left
          rotate_left 2
          focus
            go_simp
            have RB : Hid (RbT w (.slice a0 S.nc c0) (.slice a1 S.nl c1) (.slice a2 S.nw c2) y2.heap.size (.int .i64 0) (.slice none 0 0) (.slice none 0 0) (.slice none 0 0) (y2.alloc (.cells #[.int .i64 0, .slice none 0 0, .slice none 0 0, .slice none 0 0] 32))) := RbT.new HD.out _
            have HD : Hid (DrS w b o len cap S (.slice a0 S.nc c0) (.slice a1 S.nl c1) (.slice a2 S.nw c2) (d' + 1) (y2.alloc (.cells #[.int .i64 0, .slice none 0 0, .slice none 0 0, .slice none 0 0] 32))) := HD.out.later (below_alloc _ _)
            refine hK.out _ _ (show BoxS _ _ _ _ _ from hS.alloc _) (fun hS => ?_)
            clear hK K
            generalize y2.alloc (.cells #[.int .i64 0, .slice none 0 0, .slice none 0 0, .slice none 0 0] 32) = y3 at HD RB hS ⊢
            obtain ⟨rb, hrb⟩ : ∃ rb, y2.heap.size = rb := ⟨_, rfl⟩
            rw [hrb] at RB ⊢
            clear hrb
            refine rdH 10 (fun K hK => ?_)
            go_simp
            go_wp2_with fail
            refine (l1Next_any _ b o len cap (d' + 1) 99 HD.out.src (by omega) hl).mono ?_
            rintro e y4 ⟨un, rfl, _, _, hS1, hT1⟩
            have HD : Hid (DrS w b o len cap S (.slice a0 S.nc c0) (.slice a1 S.nl c1) (.slice a2 S.nw c2) (d' + 1 + 1) y4) := HD.out.step hT1 hS1
            have RB : Hid (RbT w (.slice a0 S.nc c0) (.slice a1 S.nl c1) (.slice a2 S.nw c2) rb (.int .i64 0) (.slice none 0 0) (.slice none 0 0) (.slice none 0 0) y4) := RB.out.step hT1 HB.out
            have hS' : BoxS (w.heap.size + 1) (.slice a0 S.nc c0) (.slice a1 S.nl c1) (.slice a2 S.nw c2) y4 := HD.out.box
            clear hS1 hT1
            go_wp2_with fail
            refine hK.out _ _ hS' (fun hS => ?_)
            clear hK K hS'
            refine rdH 11 (fun K hK => ?_)
            go_simp
            obtain ⟨rc, R, _, hA⟩ := PreAns.get S ky st kd va pr un
            have HA : Hid (PreAns S ky st kd va pr un rc R) := hA
            clear hA
            go_wp2_with fail
            refine (specPrewrite_own S _ _ _ ky st kd va pr un rc R 0 _ (HD.out.own.st.mono (Nat.zero_le _)) HA.out).mono ?_
            rintro e y5 ⟨g0, q0, g1, q1, g2, q2, rfl, o5, q5⟩
            have HP : Hid (Sz R ∧ w.heap.size + 2 ≤ y4.heap.size ∧ OwnS y5 y4.heap.size R (.slice g0 R.nc q0) (.slice g1 R.nl q1) (.slice g2 R.nw q2)) := ⟨HA.out.sz, HD.out.sz, o5⟩
            have HN : Hid (∀ v ∈ [(.slice g0 R.nc q0 : Value), .slice g1 R.nl q1, .slice g2 R.nw q2], v.ownBlock ≠ some rb) := o5.off RB.out.2.1.lt
            have HD : Hid (DrS w b o len cap S (.slice a0 S.nc c0) (.slice a1 S.nl c1) (.slice a2 S.nw c2) (d' + 1 + 1) y5) := HD.out.later q5
            have RB : Hid (RbT w (.slice a0 S.nc c0) (.slice a1 S.nl c1) (.slice a2 S.nw c2) rb (.int .i64 0) (.slice none 0 0) (.slice none 0 0) (.slice none 0 0) y5) := RB.out.later q5
            have hS' : BoxS (w.heap.size + 1) (.slice a0 S.nc c0) (.slice a1 S.nl c1) (.slice a2 S.nw c2) y5 := HD.out.box
            clear o5 q5 HA
            go_wp2_with fail
            refine hK.out _ _ hS' (fun hS => ?_)
            clear hK K hS'
          rotate_left
        rotate_left 3
        focus
          go_simp
          have RB : Hid (RbT w (.slice a0 S.nc c0) (.slice a1 S.nl c1) (.slice a2 S.nw c2) y1.heap.size (.int .i64 0) (.slice none 0 0) (.slice none 0 0) (.slice none 0 0) (y1.alloc (.cells #[.int .i64 0, .slice none 0 0, .slice none 0 0, .slice none 0 0] 32))) := RbT.new HD.out _
          have HI : Hid (Ints (y1.alloc (.cells #[.int .i64 0, .slice none 0 0, .slice none 0 0, .slice none 0 0] 32)) y0.heap.size (.slice (some ⟨y0.heap.size, 0, none⟩) 3 3) [ky, 0, 10]) := ((But.refl b _).alloc _).ints HI.out HG.out
          have HD : Hid (DrS w b o len cap S (.slice a0 S.nc c0) (.slice a1 S.nl c1) (.slice a2 S.nw c2) (d') (y1.alloc (.cells #[.int .i64 0, .slice none 0 0, .slice none 0 0, .slice none 0 0] 32))) := HD.out.later (below_alloc _ _)
          refine hK.out _ _ (show BoxS _ _ _ _ _ from hS.alloc _) (fun hS => ?_)
          clear hK K
          generalize y1.alloc (.cells #[.int .i64 0, .slice none 0 0, .slice none 0 0, .slice none 0 0] 32) = y2 at HD RB HI hS ⊢
          obtain ⟨rb, hrb⟩ : ∃ rb, y1.heap.size = rb := ⟨_, rfl⟩
          rw [hrb] at RB ⊢
          clear hrb
          refine rdH 8 (fun K hK => ?_)
          go_simp
          go_wp2_with fail
          refine (l1Pick_any _ b o len cap (d') _ y0.heap.size [ky, 0, 10] HD.out.src (by omega) hl HI.out HG.out (by simp) (by simp)).mono ?_
          rintro e y3 ⟨pr, rfl, _, hS1, hT1⟩
          have HD : Hid (DrS w b o len cap S (.slice a0 S.nc c0) (.slice a1 S.nl c1) (.slice a2 S.nw c2) (d' + 1) y3) := HD.out.step hT1 hS1
          have RB : Hid (RbT w (.slice a0 S.nc c0) (.slice a1 S.nl c1) (.slice a2 S.nw c2) rb (.int .i64 0) (.slice none 0 0) (.slice none 0 0) (.slice none 0 0) y3) := RB.out.step hT1 HB.out
          have hS' : BoxS (w.heap.size + 1) (.slice a0 S.nc c0) (.slice a1 S.nl c1) (.slice a2 S.nw c2) y3 := HD.out.box
          clear hS1 hT1 HI
          go_wp2_with fail
          refine hK.out _ _ hS' (fun hS => ?_)
          clear hK K hS'
          refine rdH 10 (fun K hK => ?_)
          go_simp
          go_wp2_with fail
          refine (l1Next_any _ b o len cap (d' + 1) 99 HD.out.src (by omega) hl).mono ?_
          rintro e y4 ⟨un, rfl, _, _, hS1, hT1⟩
          have HD : Hid (DrS w b o len cap S (.slice a0 S.nc c0) (.slice a1 S.nl c1) (.slice a2 S.nw c2) (d' + 1 + 1) y4) := HD.out.step hT1 hS1
          have RB : Hid (RbT w (.slice a0 S.nc c0) (.slice a1 S.nl c1) (.slice a2 S.nw c2) rb (.int .i64 0) (.slice none 0 0) (.slice none 0 0) (.slice none 0 0) y4) := RB.out.step hT1 HB.out
          have hS' : BoxS (w.heap.size + 1) (.slice a0 S.nc c0) (.slice a1 S.nl c1) (.slice a2 S.nw c2) y4 := HD.out.box
          clear hS1 hT1
          go_wp2_with fail
          refine hK.out _ _ hS' (fun hS => ?_)
          clear hK K hS'
          refine rdH 11 (fun K hK => ?_)
          go_simp
          obtain ⟨rc, R, _, hA⟩ := PreAns.get S ky st kd va pr un
          have HA : Hid (PreAns S ky st kd va pr un rc R) := hA
          clear hA
          go_wp2_with fail
          refine (specPrewrite_own S _ _ _ ky st kd va pr un rc R 0 _ (HD.out.own.st.mono (Nat.zero_le _)) HA.out).mono ?_
          rintro e y5 ⟨g0, q0, g1, q1, g2, q2, rfl, o5, q5⟩
          have HP : Hid (Sz R ∧ w.heap.size + 2 ≤ y4.heap.size ∧ OwnS y5 y4.heap.size R (.slice g0 R.nc q0) (.slice g1 R.nl q1) (.slice g2 R.nw q2)) := ⟨HA.out.sz, HD.out.sz, o5⟩
          have HN : Hid (∀ v ∈ [(.slice g0 R.nc q0 : Value), .slice g1 R.nl q1, .slice g2 R.nw q2], v.ownBlock ≠ some rb) := o5.off RB.out.2.1.lt
          have HD : Hid (DrS w b o len cap S (.slice a0 S.nc c0) (.slice a1 S.nl c1) (.slice a2 S.nw c2) (d' + 1 + 1) y5) := HD.out.later q5
          have RB : Hid (RbT w (.slice a0 S.nc c0) (.slice a1 S.nl c1) (.slice a2 S.nw c2) rb (.int .i64 0) (.slice none 0 0) (.slice none 0 0) (.slice none 0 0) y5) := RB.out.later q5
          have hS' : BoxS (w.heap.size + 1) (.slice a0 S.nc c0) (.slice a1 S.nl c1) (.slice a2 S.nw c2) y5 := HD.out.box
          clear o5 q5 HA
          go_wp2_with fail
          refine hK.out _ _ hS' (fun hS => ?_)
          clear hK K hS'
        rotate_left
      rotate_left 4
      focus
        go_simp
        have RB : Hid (RbT w (.slice a0 S.nc c0) (.slice a1 S.nl c1) (.slice a2 S.nw c2) y0.heap.size (.int .i64 0) (.slice none 0 0) (.slice none 0 0) (.slice none 0 0) (y0.alloc (.cells #[.int .i64 0, .slice none 0 0, .slice none 0 0, .slice none 0 0] 32))) := RbT.new HD.out _
        have HD : Hid (DrS w b o len cap S (.slice a0 S.nc c0) (.slice a1 S.nl c1) (.slice a2 S.nw c2) (d') (y0.alloc (.cells #[.int .i64 0, .slice none 0 0, .slice none 0 0, .slice none 0 0] 32))) := HD.out.later (below_alloc _ _)
        refine hK.out _ _ (show BoxS _ _ _ _ _ from hS.alloc _) (fun hS => ?_)
        clear hK K
        generalize y0.alloc (.cells #[.int .i64 0, .slice none 0 0, .slice none 0 0, .slice none 0 0] 32) = y1 at HD RB hS ⊢
        obtain ⟨rb, hrb⟩ : ∃ rb, y0.heap.size = rb := ⟨_, rfl⟩
        rw [hrb] at RB ⊢
        clear hrb
        refine rdH 7 (fun K hK => ?_)
        go_simp
        have HI : Hid (Ints (y1.alloc (.cells #[.int .i64 ky, .int .i64 0, .int .i64 10] 2)) y1.heap.size (.slice (some ⟨y1.heap.size, 0, none⟩) 3 3) [ky, 0, 10]) := World.ownsRow_lit y1 #[.int .i64 ky, .int .i64 0, .int .i64 10] 3 (Nat.le_refl _) (by decide) rfl
        have HG : Hid (b < y1.heap.size) := HD.out.src.lt
        have HD : Hid (DrS w b o len cap S (.slice a0 S.nc c0) (.slice a1 S.nl c1) (.slice a2 S.nw c2) (d') (y1.alloc (.cells #[.int .i64 ky, .int .i64 0, .int .i64 10] 2))) := HD.out.later (below_alloc _ _)
        have RB : Hid (RbT w (.slice a0 S.nc c0) (.slice a1 S.nl c1) (.slice a2 S.nw c2) rb (.int .i64 0) (.slice none 0 0) (.slice none 0 0) (.slice none 0 0) (y1.alloc (.cells #[.int .i64 ky, .int .i64 0, .int .i64 10] 2))) := RB.out.later (below_alloc _ _)
        refine hK.out _ _ (show BoxS _ _ _ _ _ from hS.alloc _) (fun hS => ?_)
        clear hK K
        generalize y1.alloc (.cells #[.int .i64 ky, .int .i64 0, .int .i64 10] 2) = y2 at HD HI RB hS ⊢
        refine rdH 8 (fun K hK => ?_)
        go_simp
        go_wp2_with fail
        refine (l1Pick_any _ b o len cap (d') _ y1.heap.size [ky, 0, 10] HD.out.src (by omega) hl HI.out HG.out (by simp) (by simp)).mono ?_
        rintro e y3 ⟨pr, rfl, _, hS1, hT1⟩
        have HD : Hid (DrS w b o len cap S (.slice a0 S.nc c0) (.slice a1 S.nl c1) (.slice a2 S.nw c2) (d' + 1) y3) := HD.out.step hT1 hS1
        have RB : Hid (RbT w (.slice a0 S.nc c0) (.slice a1 S.nl c1) (.slice a2 S.nw c2) rb (.int .i64 0) (.slice none 0 0) (.slice none 0 0) (.slice none 0 0) y3) := RB.out.step hT1 HB.out
        have hS' : BoxS (w.heap.size + 1) (.slice a0 S.nc c0) (.slice a1 S.nl c1) (.slice a2 S.nw c2) y3 := HD.out.box
        clear hS1 hT1 HI
        go_wp2_with fail
        refine hK.out _ _ hS' (fun hS => ?_)
        clear hK K hS'
        refine rdH 10 (fun K hK => ?_)
        go_simp
        go_wp2_with fail
        refine (l1Next_any _ b o len cap (d' + 1) 99 HD.out.src (by omega) hl).mono ?_
        rintro e y4 ⟨un, rfl, _, _, hS1, hT1⟩
        have HD : Hid (DrS w b o len cap S (.slice a0 S.nc c0) (.slice a1 S.nl c1) (.slice a2 S.nw c2) (d' + 1 + 1) y4) := HD.out.step hT1 hS1
        have RB : Hid (RbT w (.slice a0 S.nc c0) (.slice a1 S.nl c1) (.slice a2 S.nw c2) rb (.int .i64 0) (.slice none 0 0) (.slice none 0 0) (.slice none 0 0) y4) := RB.out.step hT1 HB.out
        have hS' : BoxS (w.heap.size + 1) (.slice a0 S.nc c0) (.slice a1 S.nl c1) (.slice a2 S.nw c2) y4 := HD.out.box
        clear hS1 hT1
        go_wp2_with fail
        refine hK.out _ _ hS' (fun hS => ?_)
        clear hK K hS'
        refine rdH 11 (fun K hK => ?_)
        go_simp
        obtain ⟨rc, R, _, hA⟩ := PreAns.get S ky st kd va pr un
        have HA : Hid (PreAns S ky st kd va pr un rc R) := hA
        clear hA
        go_wp2_with fail
        refine (specPrewrite_own S _ _ _ ky st kd va pr un rc R 0 _ (HD.out.own.st.mono (Nat.zero_le _)) HA.out).mono ?_
        rintro e y5 ⟨g0, q0, g1, q1, g2, q2, rfl, o5, q5⟩
        have HP : Hid (Sz R ∧ w.heap.size + 2 ≤ y4.heap.size ∧ OwnS y5 y4.heap.size R (.slice g0 R.nc q0) (.slice g1 R.nl q1) (.slice g2 R.nw q2)) := ⟨HA.out.sz, HD.out.sz, o5⟩
        have HN : Hid (∀ v ∈ [(.slice g0 R.nc q0 : Value), .slice g1 R.nl q1, .slice g2 R.nw q2], v.ownBlock ≠ some rb) := o5.off RB.out.2.1.lt
        have HD : Hid (DrS w b o len cap S (.slice a0 S.nc c0) (.slice a1 S.nl c1) (.slice a2 S.nw c2) (d' + 1 + 1) y5) := HD.out.later q5
        have RB : Hid (RbT w (.slice a0 S.nc c0) (.slice a1 S.nl c1) (.slice a2 S.nw c2) rb (.int .i64 0) (.slice none 0 0) (.slice none 0 0) (.slice none 0 0) y5) := RB.out.later q5
        have hS' : BoxS (w.heap.size + 1) (.slice a0 S.nc c0) (.slice a1 S.nl c1) (.slice a2 S.nw c2) y5 := HD.out.box
        clear o5 q5 HA
        go_wp2_with fail
        refine hK.out _ _ hS' (fun hS => ?_)
        clear hK K hS'
      rotate_left
      all_goals
        refine rdH 13 (fun K hK => ?_)
        obtain ⟨⟨e0, e1, e2, e3⟩, f0, f1, f2, f3⟩ := RB.out.2.1
        go_simp
        have HF : Hid (DrS w b o len cap S (.slice a0 S.nc c0) (.slice a1 S.nl c1) (.slice a2 S.nw c2) (d' + 1 + 1) ((((y5.setCell ⟨rb, 0, none⟩ (.int .i64 rc)).setCell ⟨rb, 1, none⟩ (.slice g0 R.nc q0)).setCell ⟨rb, 2, none⟩ (.slice g1 R.nl q1)).setCell ⟨rb, 3, none⟩ (.slice g2 R.nw q2)) ∧ RQ w (.slice a0 S.nc c0) (.slice a1 S.nl c1) (.slice a2 S.nw c2) rb rc R (.slice g0 R.nc q0) (.slice g1 R.nl q1) (.slice g2 R.nw q2) ((((y5.setCell ⟨rb, 0, none⟩ (.int .i64 rc)).setCell ⟨rb, 1, none⟩ (.slice g0 R.nc q0)).setCell ⟨rb, 2, none⟩ (.slice g1 R.nl q1)).setCell ⟨rb, 3, none⟩ (.slice g2 R.nw q2))) := HD.out.put RB.out HP.out.2.2 HP.out.2.1 HN.out rc
        refine hK.out _ _ (show BoxS _ _ _ _ _ from HF.out.1.box) (fun hS => ?_)
        clear hK K
        refine wpAnyH_done (by kernel_rfl) ?_ _
        clear hS e0 e1 e2 e3 f0 f1 f2 f3
        go_simp
        generalize (((y5.setCell ⟨rb, 0, none⟩ (.int .i64 rc)).setCell ⟨rb, 1, none⟩ (.slice g0 R.nc q0)).setCell ⟨rb, 2, none⟩ (.slice g1 R.nl q1)).setCell ⟨rb, 3, none⟩ (.slice g2 R.nw q2) = y6 at HF ⊢
        go_wp2_with fail
        go_meet
        case rel => exact ⟨rb, rc, R, g0, q0, g1, q1, g2, q2, _, rfl, ⟨by omega, by omega⟩, HP.out.1, HF.out.1, HF.out.2⟩
    case rest =>
    clear HD
    obtain ⟨rb, rc, R, g0, q0, g1, q1, g2, q2, d2, rfl, hd2, HR, HD, HQ⟩ := hcut
    go_wp2_with fail
    refine (l1Next_any _ b o len cap d2 5 HD.out.src (by omega) hl).mono ?_
    rintro e w6 ⟨sw, rfl, x0, x1, hS6, hT6⟩
    have x2 : sw < 5 := x1 (by omega)
    have HD : Hid (DrS w b o len cap S (.slice a0 S.nc c0) (.slice a1 S.nl c1) (.slice a2 S.nw c2) (d2 + 1) w6) := HD.out.step hT6 hS6
    have HQ : Hid (RQ w (.slice a0 S.nc c0) (.slice a1 S.nl c1) (.slice a2 S.nw c2) rb rc R (.slice g0 R.nc q0) (.slice g1 R.nl q1) (.slice g2 R.nw q2) w6) := HQ.out.step hT6 HB.out
    clear hS6 hT6 x1
    have hsw : sw = 0 ∨ sw = 1 ∨ sw = 2 ∨ sw = 3 ∨ sw = 4 := by omega
    clear x0 x2
    rcases hsw with rfl | rfl | rfl | rfl | rfl
    · go_wp2_with fail
      refine wp_region_held_drew (S := BoxS (w.heap.size + 1) (.slice a0 S.nc c0) (.slice a1 S.nl c1) (.slice a2 S.nw c2)) (by kernel_rfl) (HD.out.box.kept rfl) (fun hS => ?_)
      have HD : Hid (DrS w b o len cap S (.slice a0 S.nc c0) (.slice a1 S.nl c1) (.slice a2 S.nw c2) (d2 + 1) w6.drew) := HD.out.later (below_dr (Below.refl _ _) 1)
      have HQ : Hid (RQ w (.slice a0 S.nc c0) (.slice a1 S.nl c1) (.slice a2 S.nw c2) rb rc R (.slice g0 R.nc q0) (.slice g1 R.nl q1) (.slice g2 R.nw q2) w6.drew) := HQ.out.later (below_dr (Below.refl _ _) 1)
      generalize w6.drew = w7 at HD HQ hS ⊢
      refine tkH 0 ?_ hS (fun wx hx => ?_) ?_; rotate_left
      · obtain ⟨⟨hx0, hx1, hx2⟩, _⟩ := hx; go_simp; try with_reducible rfl
      refine tkH 1 ?_ hS (fun wx hx => ?_) ?_; rotate_left
      · obtain ⟨⟨hx0, hx1, hx2⟩, _⟩ := hx; go_simp; try with_reducible rfl
      refine tkH 2 ?_ hS (fun wx hx => ?_) ?_; rotate_left
      · obtain ⟨⟨hx0, hx1, hx2⟩, _⟩ := hx; go_simp; try with_reducible rfl
      refine tkH 3 ?_ hS (fun wx hx => ?_) ?_; rotate_left
      · obtain ⟨⟨hx0, hx1, hx2⟩, _⟩ := hx; go_simp; try with_reducible rfl
      refine tkH 4 ?_ hS (fun wx hx => ?_) ?_; rotate_left
      · obtain ⟨⟨hx0, hx1, hx2⟩, _⟩ := hx; go_simp; try with_reducible rfl
      refine tkH 5 ?_ hS (fun wx hx => ?_) ?_; rotate_left
      · obtain ⟨⟨hx0, hx1, hx2⟩, _⟩ := hx; go_simp; try with_reducible rfl
      refine rdH 6 (fun K hK => ?_)
      go_simp
      go_wp2_with fail
      refine (l1Next_any _ b o len cap (d2 + 1) 9 HD.out.src (by omega) hl).mono ?_
      rintro e w8 ⟨cx, rfl, _, _, hS8, hT8⟩
      have HD : Hid (DrS w b o len cap S (.slice a0 S.nc c0) (.slice a1 S.nl c1) (.slice a2 S.nw c2) (d2 + 1 + 1) w8) := HD.out.step hT8 hS8
      have HQ : Hid (RQ w (.slice a0 S.nc c0) (.slice a1 S.nl c1) (.slice a2 S.nw c2) rb rc R (.slice g0 R.nc q0) (.slice g1 R.nl q1) (.slice g2 R.nw q2) w8) := HQ.out.step hT8 HB.out
      have hS' : BoxS (w.heap.size + 1) (.slice a0 S.nc c0) (.slice a1 S.nl c1) (.slice a2 S.nw c2) w8 := HD.out.box
      clear hS8 hT8
      go_wp2_with fail
      refine hK.out _ _ hS' (fun hS => ?_)
      clear hK K hS'
      refine tkH 7 ?_ hS (fun wx hx => ?_) ?_; rotate_left
      · obtain ⟨⟨hx0, hx1, hx2⟩, _⟩ := hx; go_simp; try with_reducible rfl
      refine rdH 8 (fun K hK => ?_)
      go_simp
      go_wp2_with fail
      refine (commitDraw_any S _ _ _ _ _ _ 0 _ (HD.out.own.st.mono (Nat.zero_le _))).mono ?_
      rintro e w9 ⟨rc2, R2, hR2, h0, p0, h1, p1, h2, p2, rfl, o9, q9⟩
      have HP : Hid ((Sz R2 ∧ w.heap.size + 2 ≤ w8.heap.size ∧ OwnS w9 w8.heap.size R2 (.slice h0 R2.nc p0) (.slice h1 R2.nl p1) (.slice h2 R2.nw p2)) ∧ ∀ v ∈ [(.slice h0 R2.nc p0 : Value), .slice h1 R2.nl p1, .slice h2 R2.nw p2], v.ownBlock ≠ some rb) := ⟨⟨hR2, HD.out.sz, o9⟩, o9.off HQ.out.blk.2.1.lt⟩
      have HD : Hid (DrS w b o len cap S (.slice a0 S.nc c0) (.slice a1 S.nl c1) (.slice a2 S.nw c2) (d2 + 1 + 1) w9) := HD.out.later q9
      have HQ : Hid (RQ w (.slice a0 S.nc c0) (.slice a1 S.nl c1) (.slice a2 S.nw c2) rb rc R (.slice g0 R.nc q0) (.slice g1 R.nl q1) (.slice g2 R.nw q2) w9) := HQ.out.later q9
      have hS' : BoxS (w.heap.size + 1) (.slice a0 S.nc c0) (.slice a1 S.nl c1) (.slice a2 S.nw c2) w9 := HD.out.box
      clear o9 q9 hR2
      go_wp2_with fail
      refine hK.out _ _ hS' (fun hS => ?_)
      clear hK K hS'
      obtain ⟨⟨e0, e1, e2, e3⟩, f0, f1, f2, f3⟩ := HQ.out.blk.2.1
      refine rdH 9 (fun K hK => ?_)
      go_simp
      have HF : Hid (DrS w b o len cap S (.slice a0 S.nc c0) (.slice a1 S.nl c1) (.slice a2 S.nw c2) (d2 + 1 + 1) ((((w9.setCell ⟨rb, 0, none⟩ (.int .i64 rc2)).setCell ⟨rb, 1, none⟩ (.slice h0 R2.nc p0)).setCell ⟨rb, 2, none⟩ (.slice h1 R2.nl p1)).setCell ⟨rb, 3, none⟩ (.slice h2 R2.nw p2)) ∧ RQ w (.slice a0 S.nc c0) (.slice a1 S.nl c1) (.slice a2 S.nw c2) rb rc2 R2 (.slice h0 R2.nc p0) (.slice h1 R2.nl p1) (.slice h2 R2.nw p2) ((((w9.setCell ⟨rb, 0, none⟩ (.int .i64 rc2)).setCell ⟨rb, 1, none⟩ (.slice h0 R2.nc p0)).setCell ⟨rb, 2, none⟩ (.slice h1 R2.nl p1)).setCell ⟨rb, 3, none⟩ (.slice h2 R2.nw p2))) := HD.out.put HQ.out.blk HP.out.1.2.2 HP.out.1.2.1 HP.out.2 rc2
      refine hK.out _ _ (show BoxS _ _ _ _ _ from HF.out.1.box) (fun hS => ?_)
      clear hK K
      refine wpAnyH_done (by kernel_rfl) ?_ _
      clear hS e0 e1 e2 e3 f0 f1 f2 f3 HD HQ HR
      go_simp
      generalize ((((w9.setCell ⟨rb, 0, none⟩ (.int .i64 rc2)).setCell ⟨rb, 1, none⟩ (.slice h0 R2.nc p0)).setCell ⟨rb, 2, none⟩ (.slice h1 R2.nl p1)).setCell ⟨rb, 3, none⟩ (.slice h2 R2.nw p2)) = y6 at HF ⊢
      have HD := hid_mk HF.out.1
      have HQ := hid_mk HF.out.2
      have HR : Hid (Sz R2) := HP.out.1.1
      clear HF HP
      go_upto_region 21 with fail
      obtain ⟨⟨e0, e1, e2, e3⟩, _⟩ := HQ.out.blk.2.1
      obtain ⟨⟨t0, t1, t2⟩, ft0, ft1, ft2⟩ := HD.out.box
      by_cases hrc : rc2 = 0
      · have dr : (rc2 == 0) = true := by rw [hrc]; rfl
        have HX := HD.out.take HQ.out
        clear hrc
        go_wp2
        go_roundw
        case rel => exact ⟨z - 1, R2, h0, p0, h1, p1, h2, p2, _, by go_num, by omega, ⟨by omega, by omega⟩, HR, HX⟩
        case measure => simp [intOf]; omega
      · have dr : (rc2 == 0) = false := beq_eq_false_iff_ne.2 hrc
        clear hrc
        go_wp2
        go_roundw
        case rel => exact ⟨z - 1, S, a0, c0, a1, c1, a2, c2, _, by go_num, by omega, ⟨by omega, by omega⟩, HZ, HD⟩
        case measure => simp [intOf]; omega
    · go_wp2_with fail
      refine wp_region_held_drew (S := BoxS (w.heap.size + 1) (.slice a0 S.nc c0) (.slice a1 S.nl c1) (.slice a2 S.nw c2)) (by kernel_rfl) (HD.out.box.kept rfl) (fun hS => ?_)
      have HD : Hid (DrS w b o len cap S (.slice a0 S.nc c0) (.slice a1 S.nl c1) (.slice a2 S.nw c2) (d2 + 1) w6.drew) := HD.out.later (below_dr (Below.refl _ _) 1)
      have HQ : Hid (RQ w (.slice a0 S.nc c0) (.slice a1 S.nl c1) (.slice a2 S.nw c2) rb rc R (.slice g0 R.nc q0) (.slice g1 R.nl q1) (.slice g2 R.nw q2) w6.drew) := HQ.out.later (below_dr (Below.refl _ _) 1)
      generalize w6.drew = w7 at HD HQ hS ⊢
      refine tkH 0 ?_ hS (fun wx hx => ?_) ?_; rotate_left
      · obtain ⟨⟨hx0, hx1, hx2⟩, _⟩ := hx; go_simp; try with_reducible rfl
      refine tkH 1 ?_ hS (fun wx hx => ?_) ?_; rotate_left
      · obtain ⟨⟨hx0, hx1, hx2⟩, _⟩ := hx; go_simp; try with_reducible rfl
      refine tkH 2 ?_ hS (fun wx hx => ?_) ?_; rotate_left
      · obtain ⟨⟨hx0, hx1, hx2⟩, _⟩ := hx; go_simp; try with_reducible rfl
      refine tkH 3 ?_ hS (fun wx hx => ?_) ?_; rotate_left
      · obtain ⟨⟨hx0, hx1, hx2⟩, _⟩ := hx; go_simp; try with_reducible rfl
      refine tkH 4 ?_ hS (fun wx hx => ?_) ?_; rotate_left
      · obtain ⟨⟨hx0, hx1, hx2⟩, _⟩ := hx; go_simp; try with_reducible rfl
      refine tkH 5 ?_ hS (fun wx hx => ?_) ?_; rotate_left
      · obtain ⟨⟨hx0, hx1, hx2⟩, _⟩ := hx; go_simp; try with_reducible rfl
      refine rdH 6 (fun K hK => ?_)
      go_simp
      go_wp2_with fail
      refine (l1Next_any _ b o len cap (d2 + 1) 9 HD.out.src (by omega) hl).mono ?_
      rintro e w8 ⟨cx, rfl, _, _, hS8, hT8⟩
      have HD : Hid (DrS w b o len cap S (.slice a0 S.nc c0) (.slice a1 S.nl c1) (.slice a2 S.nw c2) (d2 + 1 + 1) w8) := HD.out.step hT8 hS8
      have HQ : Hid (RQ w (.slice a0 S.nc c0) (.slice a1 S.nl c1) (.slice a2 S.nw c2) rb rc R (.slice g0 R.nc q0) (.slice g1 R.nl q1) (.slice g2 R.nw q2) w8) := HQ.out.step hT8 HB.out
      have hS' : BoxS (w.heap.size + 1) (.slice a0 S.nc c0) (.slice a1 S.nl c1) (.slice a2 S.nw c2) w8 := HD.out.box
      clear hS8 hT8
      go_wp2_with fail
      refine hK.out _ _ hS' (fun hS => ?_)
      clear hK K hS'
      refine tkH 7 ?_ hS (fun wx hx => ?_) ?_; rotate_left
      · obtain ⟨⟨hx0, hx1, hx2⟩, _⟩ := hx; go_simp; try with_reducible rfl
      refine rdH 8 (fun K hK => ?_)
      go_simp
      go_wp2_with fail
      refine (commitDraw_any S _ _ _ _ _ _ 0 _ (HD.out.own.st.mono (Nat.zero_le _))).mono ?_
      rintro e w9 ⟨rc2, R2, hR2, h0, p0, h1, p1, h2, p2, rfl, o9, q9⟩
      have HP : Hid ((Sz R2 ∧ w.heap.size + 2 ≤ w8.heap.size ∧ OwnS w9 w8.heap.size R2 (.slice h0 R2.nc p0) (.slice h1 R2.nl p1) (.slice h2 R2.nw p2)) ∧ ∀ v ∈ [(.slice h0 R2.nc p0 : Value), .slice h1 R2.nl p1, .slice h2 R2.nw p2], v.ownBlock ≠ some rb) := ⟨⟨hR2, HD.out.sz, o9⟩, o9.off HQ.out.blk.2.1.lt⟩
      have HD : Hid (DrS w b o len cap S (.slice a0 S.nc c0) (.slice a1 S.nl c1) (.slice a2 S.nw c2) (d2 + 1 + 1) w9) := HD.out.later q9
      have HQ : Hid (RQ w (.slice a0 S.nc c0) (.slice a1 S.nl c1) (.slice a2 S.nw c2) rb rc R (.slice g0 R.nc q0) (.slice g1 R.nl q1) (.slice g2 R.nw q2) w9) := HQ.out.later q9
      have hS' : BoxS (w.heap.size + 1) (.slice a0 S.nc c0) (.slice a1 S.nl c1) (.slice a2 S.nw c2) w9 := HD.out.box
      clear o9 q9 hR2
      go_wp2_with fail
      refine hK.out _ _ hS' (fun hS => ?_)
      clear hK K hS'
      obtain ⟨⟨e0, e1, e2, e3⟩, f0, f1, f2, f3⟩ := HQ.out.blk.2.1
      refine rdH 9 (fun K hK => ?_)
      go_simp
      have HF : Hid (DrS w b o len cap S (.slice a0 S.nc c0) (.slice a1 S.nl c1) (.slice a2 S.nw c2) (d2 + 1 + 1) ((((w9.setCell ⟨rb, 0, none⟩ (.int .i64 rc2)).setCell ⟨rb, 1, none⟩ (.slice h0 R2.nc p0)).setCell ⟨rb, 2, none⟩ (.slice h1 R2.nl p1)).setCell ⟨rb, 3, none⟩ (.slice h2 R2.nw p2)) ∧ RQ w (.slice a0 S.nc c0) (.slice a1 S.nl c1) (.slice a2 S.nw c2) rb rc2 R2 (.slice h0 R2.nc p0) (.slice h1 R2.nl p1) (.slice h2 R2.nw p2) ((((w9.setCell ⟨rb, 0, none⟩ (.int .i64 rc2)).setCell ⟨rb, 1, none⟩ (.slice h0 R2.nc p0)).setCell ⟨rb, 2, none⟩ (.slice h1 R2.nl p1)).setCell ⟨rb, 3, none⟩ (.slice h2 R2.nw p2))) := HD.out.put HQ.out.blk HP.out.1.2.2 HP.out.1.2.1 HP.out.2 rc2
      refine hK.out _ _ (show BoxS _ _ _ _ _ from HF.out.1.box) (fun hS => ?_)
      clear hK K
      refine wpAnyH_done (by kernel_rfl) ?_ _
      clear hS e0 e1 e2 e3 f0 f1 f2 f3 HD HQ HR
      go_simp
      generalize ((((w9.setCell ⟨rb, 0, none⟩ (.int .i64 rc2)).setCell ⟨rb, 1, none⟩ (.slice h0 R2.nc p0)).setCell ⟨rb, 2, none⟩ (.slice h1 R2.nl p1)).setCell ⟨rb, 3, none⟩ (.slice h2 R2.nw p2)) = y6 at HF ⊢
      have HD := hid_mk HF.out.1
      have HQ := hid_mk HF.out.2
      have HR : Hid (Sz R2) := HP.out.1.1
      clear HF HP
      go_upto_region 21 with fail
      obtain ⟨⟨e0, e1, e2, e3⟩, _⟩ := HQ.out.blk.2.1
      obtain ⟨⟨t0, t1, t2⟩, ft0, ft1, ft2⟩ := HD.out.box
      by_cases hrc : rc2 = 0
      · have dr : (rc2 == 0) = true := by rw [hrc]; rfl
        have HX := HD.out.take HQ.out
        clear hrc
        go_wp2
        go_roundw
        case rel => exact ⟨z - 1, R2, h0, p0, h1, p1, h2, p2, _, by go_num, by omega, ⟨by omega, by omega⟩, HR, HX⟩
        case measure => simp [intOf]; omega
      · have dr : (rc2 == 0) = false := beq_eq_false_iff_ne.2 hrc
        clear hrc
        go_wp2
        go_roundw
        case rel => exact ⟨z - 1, S, a0, c0, a1, c1, a2, c2, _, by go_num, by omega, ⟨by omega, by omega⟩, HZ, HD⟩
        case measure => simp [intOf]; omega
    · obtain ⟨⟨t0, t1, t2⟩, _⟩ := HD.out.box
      go_wp2_with fail
      refine (rollDraw_any S _ _ _ _ _ 0 _ (HD.out.own.st.mono (Nat.zero_le _))).mono ?_
      rintro e w9 ⟨rc2, R2, hR2, h0, p0, h1, p1, h2, p2, rfl, o9, q9⟩
      have HP : Hid ((Sz R2 ∧ w.heap.size + 2 ≤ w6.heap.size ∧ OwnS w9 w6.heap.size R2 (.slice h0 R2.nc p0) (.slice h1 R2.nl p1) (.slice h2 R2.nw p2)) ∧ ∀ v ∈ [(.slice h0 R2.nc p0 : Value), .slice h1 R2.nl p1, .slice h2 R2.nw p2], v.ownBlock ≠ some rb) := ⟨⟨hR2, HD.out.sz, o9⟩, o9.off HQ.out.blk.2.1.lt⟩
      have HD : Hid (DrS w b o len cap S (.slice a0 S.nc c0) (.slice a1 S.nl c1) (.slice a2 S.nw c2) (d2 + 1) w9) := HD.out.later q9
      have HQ : Hid (RQ w (.slice a0 S.nc c0) (.slice a1 S.nl c1) (.slice a2 S.nw c2) rb rc R (.slice g0 R.nc q0) (.slice g1 R.nl q1) (.slice g2 R.nw q2) w9) := HQ.out.later q9
      clear o9 q9 hR2 t0 t1 t2
      obtain ⟨⟨e0, e1, e2, e3⟩, f0, f1, f2, f3⟩ := HQ.out.blk.2.1
      go_upto_region 21 with fail
      have HF : Hid (DrS w b o len cap S (.slice a0 S.nc c0) (.slice a1 S.nl c1) (.slice a2 S.nw c2) (d2 + 1) ((((w9.setCell ⟨rb, 0, none⟩ (.int .i64 rc2)).setCell ⟨rb, 1, none⟩ (.slice h0 R2.nc p0)).setCell ⟨rb, 2, none⟩ (.slice h1 R2.nl p1)).setCell ⟨rb, 3, none⟩ (.slice h2 R2.nw p2)) ∧ RQ w (.slice a0 S.nc c0) (.slice a1 S.nl c1) (.slice a2 S.nw c2) rb rc2 R2 (.slice h0 R2.nc p0) (.slice h1 R2.nl p1) (.slice h2 R2.nw p2) ((((w9.setCell ⟨rb, 0, none⟩ (.int .i64 rc2)).setCell ⟨rb, 1, none⟩ (.slice h0 R2.nc p0)).setCell ⟨rb, 2, none⟩ (.slice h1 R2.nl p1)).setCell ⟨rb, 3, none⟩ (.slice h2 R2.nw p2))) := HD.out.put HQ.out.blk HP.out.1.2.2 HP.out.1.2.1 HP.out.2 rc2
      clear e0 e1 e2 e3 f0 f1 f2 f3 HD HQ HR
      generalize ((((w9.setCell ⟨rb, 0, none⟩ (.int .i64 rc2)).setCell ⟨rb, 1, none⟩ (.slice h0 R2.nc p0)).setCell ⟨rb, 2, none⟩ (.slice h1 R2.nl p1)).setCell ⟨rb, 3, none⟩ (.slice h2 R2.nw p2)) = y6 at HF ⊢
      have HD := hid_mk HF.out.1
      have HQ := hid_mk HF.out.2
      have HR : Hid (Sz R2) := HP.out.1.1
      clear HF HP
      obtain ⟨⟨e0, e1, e2, e3⟩, _⟩ := HQ.out.blk.2.1
      obtain ⟨⟨t0, t1, t2⟩, ft0, ft1, ft2⟩ := HD.out.box
      by_cases hrc : rc2 = 0
      · have dr : (rc2 == 0) = true := by rw [hrc]; rfl
        have HX := HD.out.take HQ.out
        clear hrc
        go_wp2
        go_roundw
        case rel => exact ⟨z - 1, R2, h0, p0, h1, p1, h2, p2, _, by go_num, by omega, ⟨by omega, by omega⟩, HR, HX⟩
        case measure => simp [intOf]; omega
      · have dr : (rc2 == 0) = false := beq_eq_false_iff_ne.2 hrc
        clear hrc
        go_wp2
        go_roundw
        case rel => exact ⟨z - 1, S, a0, c0, a1, c1, a2, c2, _, by go_num, by omega, ⟨by omega, by omega⟩, HZ, HD⟩
        case measure => simp [intOf]; omega
    · go_upto_region 21 with fail
      obtain ⟨⟨e0, e1, e2, e3⟩, _⟩ := HQ.out.blk.2.1
      obtain ⟨⟨t0, t1, t2⟩, ft0, ft1, ft2⟩ := HD.out.box
      by_cases hrc : rc = 0
      · have dr : (rc == 0) = true := by rw [hrc]; rfl
        have HX := HD.out.take HQ.out
        clear hrc
        go_wp2
        go_roundw
        case rel => exact ⟨z - 1, R, g0, q0, g1, q1, g2, q2, _, by go_num, by omega, ⟨by omega, by omega⟩, HR, HX⟩
        case measure => simp [intOf]; omega
      · have dr : (rc == 0) = false := beq_eq_false_iff_ne.2 hrc
        clear hrc
        go_wp2
        go_roundw
        case rel => exact ⟨z - 1, S, a0, c0, a1, c1, a2, c2, _, by go_num, by omega, ⟨by omega, by omega⟩, HZ, HD⟩
        case measure => simp [intOf]; omega
    · go_upto_region 21 with fail
      obtain ⟨⟨e0, e1, e2, e3⟩, _⟩ := HQ.out.blk.2.1
      obtain ⟨⟨t0, t1, t2⟩, ft0, ft1, ft2⟩ := HD.out.box
      by_cases hrc : rc = 0
      · have dr : (rc == 0) = true := by rw [hrc]; rfl
        have HX := HD.out.take HQ.out
        clear hrc
        go_wp2
        go_roundw
        case rel => exact ⟨z - 1, R, g0, q0, g1, q1, g2, q2, _, by go_num, by omega, ⟨by omega, by omega⟩, HR, HX⟩
        case measure => simp [intOf]; omega
      · have dr : (rc == 0) = false := beq_eq_false_iff_ne.2 hrc
        clear hrc
        go_wp2
        go_roundw
        case rel => exact ⟨z - 1, S, a0, c0, a1, c1, a2, c2, _, by go_num, by omega, ⟨by omega, by omega⟩, HZ, HD⟩
        case measure => simp [intOf]; omega
end Go.Proofs.YtnikdbebfofcaaaGreatDoor

namespace Go.Proofs.YtnikdbebfofcaaaGreatDoor
open Go.RowKit

def Sz2 (R : Sto) : Prop := R.nc ≤ 202 ∧ R.nl ≤ 202 ∧ R.nw ≤ 202
/-- A drawn store in its box (block bx), its rows its own. -/
structure DrB (w : World) (b : Nat) (o : Option Addr) (len cap bx : Nat) (S : Sto) (v0 v1 v2 : Value) (a : Int) (x : World) : Prop where
  src : Src x b o len cap a
  but : But b w x
  res : Blk3 x w.heap.size (.slice none 0 0) (.slice none 0 0) (.slice none 0 0)
  box : Blk3 x bx v0 v1 v2
  own : OwnS x (w.heap.size + 1) S v0 v1 v2
  ne : ∀ v ∈ [v0, v1, v2], v.ownBlock ≠ some bx
  lo : b < w.heap.size
  bl : w.heap.size < bx
  base : ∃ z, Src w b o len cap z
theorem DrB.step {w : World} {b : Nat} {o : Option Addr} {len cap bx : Nat} {S : Sto} {v0 v1 v2 : Value} {a a' : Int} {x x' : World} (h : DrB w b o len cap bx S v0 v1 v2 a x) (hT : But b x x') (hS : Src x' b o len cap a') : DrB w b o len cap bx S v0 v1 v2 a' x' where
  src := hS
  but := h.but.trans hT
  res := h.res.butS hT (by have := h.lo; omega)
  box := h.box.butS hT (by have := h.lo; have := h.bl; omega)
  own := h.own.keptS (fun k hk hl => hT.block k hl (fun e => by have := Option.some.inj e; have := h.lo; omega))
  ne := h.ne
  lo := h.lo
  bl := h.bl
  base := h.base
theorem DrB.later {w : World} {b : Nat} {o : Option Addr} {len cap bx : Nat} {S : Sto} {v0 v1 v2 : Value} {a : Int} {x x' : World} (h : DrB w b o len cap bx S v0 v1 v2 a x) (hb : Below x.heap.size x x') : DrB w b o len cap bx S v0 v1 v2 a x' :=
  h.step ((But.refl _ _).below hb) (h.src.later hb)
/-- A drawn store in its box, whatever its rows are. -/
structure DrF (w : World) (b : Nat) (o : Option Addr) (len cap bx : Nat) (S : Sto) (v0 v1 v2 : Value) (a : Int) (x : World) : Prop where
  src : Src x b o len cap a
  but : But b w x
  res : Blk3 x w.heap.size (.slice none 0 0) (.slice none 0 0) (.slice none 0 0)
  box : Blk3 x bx v0 v1 v2
  st : St x (w.heap.size + 1) S v0 v1 v2
  sz : Sz2 S
  base : ∃ z, Src w b o len cap z
theorem DrB.f {w : World} {b : Nat} {o : Option Addr} {len cap bx : Nat} {S : Sto} {v0 v1 v2 : Value} {a : Int} {x : World} (h : DrB w b o len cap bx S v0 v1 v2 a x) (hz : Sz S) : DrF w b o len cap bx S v0 v1 v2 a x := ⟨h.src, h.but, h.res, h.box, h.own.st, ⟨by have := hz.1; omega, by have := hz.2.1; omega, by have := hz.2.2; omega⟩, h.base⟩
theorem St.setO {x : World} {B : Nat} {S : Sto} {v0 v1 v2 : Value} (h : St x B S v0 v1 v2) {c : Nat} (hc : ∀ v ∈ [v0, v1, v2], v.ownBlock ≠ some c) (j : Nat) (u : Value) : St (x.setCell ⟨c, j, none⟩ u) B S v0 v1 v2 := by
  have kp : ∀ {m n : Nat} {F : Nat → Int} {v : Value}, Row x B m n F v → v.ownBlock ≠ some c → Row (x.setCell ⟨c, j, none⟩ u) B m n F v := fun {m n F v} hr hv => by
    obtain ⟨ao, cp, rfl, hr⟩ := hr
    refine ⟨ao, cp, rfl, fun hn => ?_⟩
    obtain ⟨g, o, rfl, h1, h2, h3⟩ := hr hn
    refine ⟨g, o, rfl, h1, by simpa [World.setCell] using h2, fun p hp => ?_⟩
    rw [World.cell?_setCell_other _ _ _ _ (by intro e; simp at e; exact hv (by simp [Value.ownBlock, e.1]))]
    exact h3 p hp
  exact ⟨kp h.1 (hc v0 (by simp)), kp h.2.1 (hc v1 (by simp)), kp h.2.2 (hc v2 (by simp))⟩
/-- A drawn store whose rows are laid anew, its box not yet. -/
structure DrW (w : World) (b : Nat) (o : Option Addr) (len cap bx : Nat) (T : Sto) (u0 u1 u2 v0 v1 v2 : Value) (a : Int) (x : World) : Prop where
  src : Src x b o len cap a
  but : But b w x
  res : Blk3 x w.heap.size (.slice none 0 0) (.slice none 0 0) (.slice none 0 0)
  box : Blk3 x bx v0 v1 v2
  st : St x (w.heap.size + 1) T u0 u1 u2
  ne : ∀ u ∈ [u0, u1, u2], u.ownBlock ≠ some bx
  sz : Sz2 T
  bl : w.heap.size < bx
  base : ∃ z, Src w b o len cap z
theorem DrW.store0 {w : World} {b : Nat} {o : Option Addr} {len cap bx : Nat} {T : Sto} {u0 u1 u2 v : Value} {a : Int} {x : World} (h : DrW w b o len cap bx T u0 u1 u2 v u1 u2 a x) : DrF w b o len cap bx T u0 u1 u2 a (x.setCell ⟨bx, 0, none⟩ u0) := by
  obtain ⟨z, h0⟩ := h.base
  have hb := h.bl
  exact {
    src := h.src.setS h0 h.but (by omega) _ _
    but := h.but.setS (by omega) _ _
    res := h.res.kept (Below.heap_setCell _ _ _ _ (by show w.heap.size ≠ bx; omega))
    box := h.box.set0 u0
    st := h.st.setO h.ne _ _
    sz := h.sz
    base := h.base }
theorem DrW.store1 {w : World} {b : Nat} {o : Option Addr} {len cap bx : Nat} {T : Sto} {u0 u1 u2 v : Value} {a : Int} {x : World} (h : DrW w b o len cap bx T u0 u1 u2 u0 v u2 a x) : DrF w b o len cap bx T u0 u1 u2 a (x.setCell ⟨bx, 1, none⟩ u1) := by
  obtain ⟨z, h0⟩ := h.base
  have hb := h.bl
  exact {
    src := h.src.setS h0 h.but (by omega) _ _
    but := h.but.setS (by omega) _ _
    res := h.res.kept (Below.heap_setCell _ _ _ _ (by show w.heap.size ≠ bx; omega))
    box := h.box.set1 u1
    st := h.st.setO h.ne _ _
    sz := h.sz
    base := h.base }
theorem DrW.store2 {w : World} {b : Nat} {o : Option Addr} {len cap bx : Nat} {T : Sto} {u0 u1 u2 v : Value} {a : Int} {x : World} (h : DrW w b o len cap bx T u0 u1 u2 u0 u1 v a x) : DrF w b o len cap bx T u0 u1 u2 a (x.setCell ⟨bx, 2, none⟩ u2) := by
  obtain ⟨z, h0⟩ := h.base
  have hb := h.bl
  exact {
    src := h.src.setS h0 h.but (by omega) _ _
    but := h.but.setS (by omega) _ _
    res := h.res.kept (Below.heap_setCell _ _ _ _ (by show w.heap.size ≠ bx; omega))
    box := h.box.set2 u2
    st := h.st.setO h.ne _ _
    sz := h.sz
    base := h.base }
theorem DrB.app0 {w : World} {b : Nat} {o : Option Addr} {len cap bx : Nat} {S : Sto} {v0 v1 v2 : Value} {a : Int} {y2 y3 : World} (h : DrB w b o len cap bx S v0 v1 v2 a y2) (hz : Sz S) {ao : Option Addr} {cp : Nat} {L : List Int} (O5 : OwnM y3 (w.heap.size + 1) 75 3 (.slice ao (S.nc + 1) cp) (S.nc + 1) L) (hL : L.length = (S.nc + 1) * 3) (G5 : y2.grownBy y3 v0.ownBlock) (hw : (Value.slice ao (S.nc + 1) cp).ownBlock = v0.ownBlock ∨ (Value.slice ao (S.nc + 1) cp).ownBlock = some y2.heap.size) :
    DrW w b o len cap bx ⟨S.nc + 1, fun p => L.getD p 0, S.nl, S.l, S.nw, S.k⟩ (.slice ao (S.nc + 1) cp) v1 v2 v0 v1 v2 a y3 := by
  obtain ⟨z, h0⟩ := h.base
  have lo := h.lo
  have bl := h.bl
  have hsz := h.but.size
  have hbx := h.box.lt
  have kb : ∀ k, k < y2.heap.size → v0.ownBlock ≠ some k → y3.heap[k]? = y2.heap[k]? := fun k hk hne => G5.block k hk (fun e => hne e.symm)
  have nlo : ∀ k, k ≤ w.heap.size → v0.ownBlock ≠ some k := fun k hk e => by have := (own_blk h.own.1.1 k e).1; omega
  have nb : (Value.slice ao (S.nc + 1) cp).ownBlock ≠ some bx := by
    rcases hw with e | e
    · rw [e]; exact h.ne v0 (by simp)
    · rw [e]; intro e'; have := Option.some.inj e'; omega
  have hB : But b w y3 := ⟨G5.os.trans h.but.os, G5.tape.trans h.but.tape, G5.output.trans h.but.output, Nat.le_trans hsz G5.size, fun i hi hne => (kb i (by omega) (nlo i (by omega))).trans (h.but.block i hi hne)⟩
  have kbb := kb b (by omega) (nlo b (by omega))
  exact {
    src := ⟨(World.cell?_of_block (w := y2) (a := ⟨b, 0, none⟩) kbb).trans h.src.code, (World.cell?_of_block (w := y2) (a := ⟨b, 1, none⟩) kbb).trans h.src.count, (World.frozen?_of_block (w := y2) (a := ⟨b, 1, none⟩) kbb).trans h.src.live, h.src.pos, fun j hj => by
      obtain ⟨g, off', n, e1, e2, e3, e4⟩ := h0.bytes j hj
      exact ⟨g, off', n, e1, e2, hB.cell e3 e2, e4⟩⟩
    but := hB
    res := h.res.kept (kb _ (by omega) (nlo _ (Nat.le_refl _)))
    box := h.box.kept (kb bx hbx (h.ne v0 (by simp)))
    st := ⟨(O5.own hL).row.1, (own_kept h.own.1.2.1 (fun k hk => kb k (own_blk h.own.1.2.1 k hk).2 (fun e => h.own.2.1 k e hk))).row.1, (own_kept h.own.1.2.2 (fun k hk => kb k (own_blk h.own.1.2.2 k hk).2 (fun e => h.own.2.2.1 k e hk))).row.1⟩
    ne := fun u hu => by
      simp only [List.mem_cons, List.not_mem_nil, or_false] at hu
      rcases hu with rfl | rfl | rfl
      · exact nb
      · exact h.ne _ (by simp)
      · exact h.ne _ (by simp)
    sz := ⟨by have := hz.1; show S.nc + 1 ≤ 202; omega, by have := hz.2.1; show S.nl ≤ 202; omega, by have := hz.2.2; show S.nw ≤ 202; omega⟩
    bl := bl
    base := ⟨z, h0⟩ }
theorem DrB.app1 {w : World} {b : Nat} {o : Option Addr} {len cap bx : Nat} {S : Sto} {v0 v1 v2 : Value} {a : Int} {y2 y3 : World} (h : DrB w b o len cap bx S v0 v1 v2 a y2) (hz : Sz S) {ao : Option Addr} {cp : Nat} {L : List Int} (O5 : OwnM y3 (w.heap.size + 1) 61 5 (.slice ao (S.nl + 1) cp) (S.nl + 1) L) (hL : L.length = (S.nl + 1) * 5) (G5 : y2.grownBy y3 v1.ownBlock) (hw : (Value.slice ao (S.nl + 1) cp).ownBlock = v1.ownBlock ∨ (Value.slice ao (S.nl + 1) cp).ownBlock = some y2.heap.size) :
    DrW w b o len cap bx ⟨S.nc, S.c, S.nl + 1, fun p => L.getD p 0, S.nw, S.k⟩ v0 (.slice ao (S.nl + 1) cp) v2 v0 v1 v2 a y3 := by
  obtain ⟨z, h0⟩ := h.base
  have lo := h.lo
  have bl := h.bl
  have hsz := h.but.size
  have hbx := h.box.lt
  have kb : ∀ k, k < y2.heap.size → v1.ownBlock ≠ some k → y3.heap[k]? = y2.heap[k]? := fun k hk hne => G5.block k hk (fun e => hne e.symm)
  have nlo : ∀ k, k ≤ w.heap.size → v1.ownBlock ≠ some k := fun k hk e => by have := (own_blk h.own.1.2.1 k e).1; omega
  have nb : (Value.slice ao (S.nl + 1) cp).ownBlock ≠ some bx := by
    rcases hw with e | e
    · rw [e]; exact h.ne v1 (by simp)
    · rw [e]; intro e'; have := Option.some.inj e'; omega
  have hB : But b w y3 := ⟨G5.os.trans h.but.os, G5.tape.trans h.but.tape, G5.output.trans h.but.output, Nat.le_trans hsz G5.size, fun i hi hne => (kb i (by omega) (nlo i (by omega))).trans (h.but.block i hi hne)⟩
  have kbb := kb b (by omega) (nlo b (by omega))
  exact {
    src := ⟨(World.cell?_of_block (w := y2) (a := ⟨b, 0, none⟩) kbb).trans h.src.code, (World.cell?_of_block (w := y2) (a := ⟨b, 1, none⟩) kbb).trans h.src.count, (World.frozen?_of_block (w := y2) (a := ⟨b, 1, none⟩) kbb).trans h.src.live, h.src.pos, fun j hj => by
      obtain ⟨g, off', n, e1, e2, e3, e4⟩ := h0.bytes j hj
      exact ⟨g, off', n, e1, e2, hB.cell e3 e2, e4⟩⟩
    but := hB
    res := h.res.kept (kb _ (by omega) (nlo _ (Nat.le_refl _)))
    box := h.box.kept (kb bx hbx (h.ne v1 (by simp)))
    st := ⟨(own_kept h.own.1.1 (fun k hk => kb k (own_blk h.own.1.1 k hk).2 (fun e => h.own.2.1 k hk e))).row.1, (O5.own hL).row.1, (own_kept h.own.1.2.2 (fun k hk => kb k (own_blk h.own.1.2.2 k hk).2 (fun e => h.own.2.2.2 k e hk))).row.1⟩
    ne := fun u hu => by
      simp only [List.mem_cons, List.not_mem_nil, or_false] at hu
      rcases hu with rfl | rfl | rfl
      · exact h.ne _ (by simp)
      · exact nb
      · exact h.ne _ (by simp)
    sz := ⟨by have := hz.1; show S.nc ≤ 202; omega, by have := hz.2.1; show S.nl + 1 ≤ 202; omega, by have := hz.2.2; show S.nw ≤ 202; omega⟩
    bl := bl
    base := ⟨z, h0⟩ }
theorem DrB.app2 {w : World} {b : Nat} {o : Option Addr} {len cap bx : Nat} {S : Sto} {v0 v1 v2 : Value} {a : Int} {y2 y3 : World} (h : DrB w b o len cap bx S v0 v1 v2 a y2) (hz : Sz S) {ao : Option Addr} {cp : Nat} {L : List Int} (O5 : OwnM y3 (w.heap.size + 1) 38 4 (.slice ao (S.nw + 1) cp) (S.nw + 1) L) (hL : L.length = (S.nw + 1) * 4) (G5 : y2.grownBy y3 v2.ownBlock) (hw : (Value.slice ao (S.nw + 1) cp).ownBlock = v2.ownBlock ∨ (Value.slice ao (S.nw + 1) cp).ownBlock = some y2.heap.size) :
    DrW w b o len cap bx ⟨S.nc, S.c, S.nl, S.l, S.nw + 1, fun p => L.getD p 0⟩ v0 v1 (.slice ao (S.nw + 1) cp) v0 v1 v2 a y3 := by
  obtain ⟨z, h0⟩ := h.base
  have lo := h.lo
  have bl := h.bl
  have hsz := h.but.size
  have hbx := h.box.lt
  have kb : ∀ k, k < y2.heap.size → v2.ownBlock ≠ some k → y3.heap[k]? = y2.heap[k]? := fun k hk hne => G5.block k hk (fun e => hne e.symm)
  have nlo : ∀ k, k ≤ w.heap.size → v2.ownBlock ≠ some k := fun k hk e => by have := (own_blk h.own.1.2.2 k e).1; omega
  have nb : (Value.slice ao (S.nw + 1) cp).ownBlock ≠ some bx := by
    rcases hw with e | e
    · rw [e]; exact h.ne v2 (by simp)
    · rw [e]; intro e'; have := Option.some.inj e'; omega
  have hB : But b w y3 := ⟨G5.os.trans h.but.os, G5.tape.trans h.but.tape, G5.output.trans h.but.output, Nat.le_trans hsz G5.size, fun i hi hne => (kb i (by omega) (nlo i (by omega))).trans (h.but.block i hi hne)⟩
  have kbb := kb b (by omega) (nlo b (by omega))
  exact {
    src := ⟨(World.cell?_of_block (w := y2) (a := ⟨b, 0, none⟩) kbb).trans h.src.code, (World.cell?_of_block (w := y2) (a := ⟨b, 1, none⟩) kbb).trans h.src.count, (World.frozen?_of_block (w := y2) (a := ⟨b, 1, none⟩) kbb).trans h.src.live, h.src.pos, fun j hj => by
      obtain ⟨g, off', n, e1, e2, e3, e4⟩ := h0.bytes j hj
      exact ⟨g, off', n, e1, e2, hB.cell e3 e2, e4⟩⟩
    but := hB
    res := h.res.kept (kb _ (by omega) (nlo _ (Nat.le_refl _)))
    box := h.box.kept (kb bx hbx (h.ne v2 (by simp)))
    st := ⟨(own_kept h.own.1.1 (fun k hk => kb k (own_blk h.own.1.1 k hk).2 (fun e => h.own.2.2.1 k hk e))).row.1, (own_kept h.own.1.2.1 (fun k hk => kb k (own_blk h.own.1.2.1 k hk).2 (fun e => h.own.2.2.2 k hk e))).row.1, (O5.own hL).row.1⟩
    ne := fun u hu => by
      simp only [List.mem_cons, List.not_mem_nil, or_false] at hu
      rcases hu with rfl | rfl | rfl
      · exact h.ne _ (by simp)
      · exact h.ne _ (by simp)
      · exact nb
    sz := ⟨by have := hz.1; show S.nc ≤ 202; omega, by have := hz.2.1; show S.nl ≤ 202; omega, by have := hz.2.2; show S.nw + 1 ≤ 202; omega⟩
    bl := bl
    base := ⟨z, h0⟩ }
theorem own_m {w : World} {B : Nat} {e : TypeId} {m n : Nat} {F : Nat → Int} {v : Value} (h : Own w B e m n F v) : OwnM w B e m v n (nums F (n * m)) := by
  have : vals F (n * m) = (nums F (n * m)).map (Value.int .i64) := by simp [vals, nums, List.map_map, Function.comp_def]
  unfold OwnM
  rw [← this]
  exact h
theorem row_zeros (w : World) (t : TypeId) {B : Nat} (hB : B ≤ w.heap.size) : Row (w.alloc (.cells (madeCells #[.int .i64 0, .int .i64 0, .int .i64 0, .int .i64 0] 804) t)) B 4 201 (fun _ => 0) (.slice (some ⟨w.heap.size, 0, none⟩) 201 201) := by
  refine ⟨_, _, rfl, fun _ => ⟨w.heap.size, 0, rfl, hB, by simp, fun p hp => ?_⟩⟩
  rw [Nat.zero_add, World.cell?_alloc_mark]
  have hs : (madeCells #[Value.int .i64 0, .int .i64 0, .int .i64 0, .int .i64 0] 804).size = 804 := size_madeCells _ _
  rw [Array.getElem?_eq_getElem (by omega)]
  have h4 : p % 4 = 0 ∨ p % 4 = 1 ∨ p % 4 = 2 ∨ p % 4 = 3 := by omega
  simp only [madeCells]
  rcases h4 with e | e | e | e <;> simp [e]
set_option maxRecDepth 100000 in
set_option maxHeartbeats 16000000 in
theorem l3Bent_any (w : World) (b : Nat) (o : Option Addr) (len cap : Nat) (a : Int) (h : Src w b o len cap a) (ha : a ≤ 100000) (hl : len ≤ 1048576) :
    Calls Tryz.prog 13 #[.pointer (some ⟨b, 0, none⟩)] w fun e w' => ∃ (S : Sto) (a0 : Option Addr) (c0 : Nat) (a1 : Option Addr) (c1 : Nat) (a2 : Option Addr) (c2 : Nat) (z : Int), e = .returned (.agg #[.slice a0 S.nc c0, .slice a1 S.nl c1, .slice a2 S.nw c2]) ∧ (Sz2 S ∧ z ≤ a + 800) ∧ St w' w.heap.size S (.slice a0 S.nc c0) (.slice a1 S.nl c1) (.slice a2 S.nw c2) ∧ Src w' b o len cap z ∧ But b w w' := by
  have hbl := h.lt
  have hpos := h.pos
  have H0 : Hid (Src w b o len cap a) := h
  clear h
  go_enter Tryz.func13, Tryz.ntmps13
  go_wp2_with fail
  try dsimp only
  have HH := l3Right_any (w.alloc (.cells #[.slice none 0 0, .slice none 0 0, .slice none 0 0] 28)) b o len cap a (H0.out.alloc _) ha hl
  refine HH.mono ?_
  rintro e w1 ⟨S, a0, c0, a1, c1, a2, c2, c, rfl, ⟨hZ, hc⟩, hO, hS1, hT1⟩
  have hc0 := hS1.pos
  have HZ : Hid (Sz S) := hZ
  have z1 : w.heap.size < w1.heap.size := by have := hT1.size; simp at this; omega
  have HD : Hid (DrB w b o len cap w1.heap.size S (.slice a0 S.nc c0) (.slice a1 S.nl c1) (.slice a2 S.nw c2) c (w1.alloc (.cells #[.slice a0 S.nc c0, .slice a1 S.nl c1, .slice a2 S.nw c2] 28))) := {
    src := hS1.alloc _
    but := (((But.refl _ _).alloc _).trans hT1).alloc _
    res := ((Blk3.new w (.slice none 0 0) (.slice none 0 0) (.slice none 0 0) 28).butS hT1 (by omega)).alloc _
    box := Blk3.new w1 _ _ _ _
    own := (by simpa using hO : OwnS w1 (w.heap.size + 1) S _ _ _).later (below_alloc _ _)
    ne := hO.fresh
    lo := hbl
    bl := z1
    base := ⟨a, H0.out⟩ }
  clear hO hS1 hT1 hZ
  go_wp2_with fail
  generalize w1.alloc (.cells #[.slice a0 S.nc c0, .slice a1 S.nl c1, .slice a2 S.nw c2] 28) = w2 at HD ⊢
  obtain ⟨bx, hbx⟩ : ∃ bx, w1.heap.size = bx := ⟨_, rfl⟩
  rw [hbx] at HD z1 ⊢
  clear hbx
  refine (l1Next_any _ b o len cap c 20 HD.out.src (by omega) hl).mono ?_
  rintro e w3 ⟨sw, rfl, s0, s1, hS3, hT3⟩
  have HD : Hid (DrB w b o len cap bx S (.slice a0 S.nc c0) (.slice a1 S.nl c1) (.slice a2 S.nw c2) (c + 1) w3) := HD.out.step hT3 hS3
  clear hS3 hT3 s1
  go_upto_block 0 with fail
  go_cut [3] (fun s wx => s = .pointer (some ⟨bx, 0, none⟩) ∧ ∃ (T : Sto) (a0 : Option Addr) (c0 : Nat) (a1 : Option Addr) (c1 : Nat) (a2 : Option Addr) (c2 : Nat) (e : Int), (0 ≤ e ∧ e ≤ c + 10) ∧ Hid (DrF w b o len cap bx T (.slice a0 T.nc c0) (.slice a1 T.nl c1) (.slice a2 T.nw c2) e wx))
  case first =>
    have hsw : sw = 0 ∨ sw = 1 ∨ sw = 2 ∨ sw = 3 ∨ sw = 4 ∨ 5 ≤ sw := by omega
    rcases hsw with rfl | rfl | rfl | rfl | rfl | h5
    · go_wp2_with fail
      refine wp_region_held_drew (S := fun _ => True) (by kernel_rfl) trivial (fun hS => ?_)
      have HD : Hid (DrB w b o len cap bx S (.slice a0 S.nc c0) (.slice a1 S.nl c1) (.slice a2 S.nw c2) (c + 1) w3.drew) := HD.out.later (below_dr (Below.refl _ _) 1)
      generalize w3.drew = y0 at HD ⊢
      refine tkH 0 ?_ hS (fun wx hx => ?_) ?_; rotate_left
      · go_simp; try with_reducible rfl
      refine tkH 2 ?_ hS (fun wx hx => ?_) ?_; rotate_left
      · go_simp; try with_reducible rfl
      refine tkH 5 ?_ hS (fun wx hx => ?_) ?_; rotate_left
      · go_simp; try with_reducible rfl
      refine tkH 8 ?_ hS (fun wx hx => ?_) ?_; rotate_left
      · go_simp; try with_reducible rfl
      simp only [Act.put, List.getElem_toArray, List.getElem_cons_zero, List.getElem_cons_succ, List.setIfInBounds_toArray, List.set_cons_succ, List.set_cons_zero]
      refine wpAnyH_at (n' := 7 + 5) (L' := mkL [⟨3, 13, 4, 14, 12, [189, 5, 0]⟩, ⟨6, 16, 7, 17, 15, [3, 0]⟩, ⟨9, 19, 10, 20, 18, [3, -1]⟩] ⟨1, 11, .slice a0 S.nc c0⟩ #[true, false, true, false, false, true, false, false, true, false, false, false, false, false, false, false] [false, false, false] false 0) (by kernel_rfl) (by kernel_rfl) ?_
      refine wpAnyH_picks (H := fun x => Blk3 x bx (.slice a0 S.nc c0) (.slice a1 S.nl c1) (.slice a2 S.nw c2)) [⟨3, 13, 4, 14, 12, [189, 5, 0]⟩, ⟨6, 16, 7, 17, 15, [3, 0]⟩, ⟨9, 19, 10, 20, 18, [3, -1]⟩] ⟨1, 11, .slice a0 S.nc c0⟩ #[true, false, true, false, false, true, false, false, true, false, false, false, false, false, false, false] _ y0 b o len cap (c + 1) 5 (by kernel_rfl) (by kernel_rfl) (by kernel_rfl) ?ok ?ld ?sr (fun x x' h hT => h.butS hT (by have := HD.out.lo; have := HD.out.bl; omega)) (fun _ _ => trivial) (by show c + 1 + 3 ≤ 1000000; omega) hl ?cont 7 _ _ 0 _ _ (by kernel_rfl) (Stand.start HD.out.src HD.out.box)
      case ok =>
        intro p hp
        simp only [List.mem_cons, List.not_mem_nil, or_false] at hp
        rcases hp with rfl | rfl | rfl
        · exact pkOk3 3 13 4 14 12 (189) (5) (0) _ _ rfl rfl rfl rfl rfl rfl rfl _ rfl
        · exact pkOk2 6 16 7 17 15 (3) (0) _ _ rfl rfl rfl rfl rfl rfl rfl _ rfl
        · exact pkOk2 9 19 10 20 18 (3) (-1) _ _ rfl rfl rfl rfl rfl rfl rfl _ rfl
      case ld =>
        exact ⟨_, rfl, rfl, rfl, fun a' w' K hag hH hk => wp_loadS 24 (fun _ => by kernel_rfl) 10 rfl rfl bx 0 (by rw [hag 10 (by simp) (by simp)]; rfl) _ hH.1.1 hk⟩
      case sr =>
        intro p hp
        simp only [List.mem_cons, List.not_mem_nil, or_false] at hp
        rcases hp with rfl | rfl | rfl <;> rfl
      case cont =>
        intro e x r y1 hr hsrc hbut hH
        obtain ⟨k0, hk0⟩ : ∃ k, r ⟨3, 13, 4, 14, 12, [189, 5, 0]⟩ = k := ⟨_, rfl⟩
        obtain ⟨x0, hx0⟩ : ∃ k, x ⟨3, 13, 4, 14, 12, [189, 5, 0]⟩ = k := ⟨_, rfl⟩
        obtain ⟨k1, hk1⟩ : ∃ k, r ⟨6, 16, 7, 17, 15, [3, 0]⟩ = k := ⟨_, rfl⟩
        obtain ⟨x1, hx1⟩ : ∃ k, x ⟨6, 16, 7, 17, 15, [3, 0]⟩ = k := ⟨_, rfl⟩
        obtain ⟨k2, hk2⟩ : ∃ k, r ⟨9, 19, 10, 20, 18, [3, -1]⟩ = k := ⟨_, rfl⟩
        obtain ⟨x2, hx2⟩ : ∃ k, x ⟨9, 19, 10, 20, 18, [3, -1]⟩ = k := ⟨_, rfl⟩
        simp only [putAll, hk0, hx0, hk1, hx1, hk2, hx2]
        have HD : Hid (DrB w b o len cap bx S (.slice a0 S.nc c0) (.slice a1 S.nl c1) (.slice a2 S.nw c2) (c + 1 + 3) y1) := HD.out.step hbut hsrc
        clear hr hsrc hbut hH hk0 hx0 hk1 hx1 hk2 hx2
        cases e with
        | true =>
          refine wpAnyH_at (n' := 5) (L' := #[true, true, true, true, true, true, true, true, true, true, true, false, false, false, false, false]) rfl (by kernel_rfl) ?_
          simp only [putE, if_true]
          simp only [Act.put, List.setIfInBounds_toArray, List.set_cons_succ, List.set_cons_zero]
          refine tkH 11 ?_ hS (fun wx hx => ?_) ?_; rotate_left
          · go_simp; try with_reducible rfl
          refine rdH 12 (fun K hK => ?_)
          go_simp
          have HI : Hid (Row (y1.alloc (.cells #[.int .i64 k0, .int .i64 k1, .int .i64 k2] 75)) 0 3 1 (fun p => [k0, k1, k2].getD p 0) (.slice (some ⟨y1.heap.size, 0, none⟩) 1 1)) := row_lit3 y1 k0 k1 k2 _
          have HD : Hid (DrB w b o len cap bx S (.slice a0 S.nc c0) (.slice a1 S.nl c1) (.slice a2 S.nw c2) (c + 1 + 3) (y1.alloc (.cells #[.int .i64 k0, .int .i64 k1, .int .i64 k2] 75))) := HD.out.later (below_alloc _ _)
          refine hK.out _ _ trivial (fun hS => ?_)
          clear hK K
          generalize y1.alloc (.cells #[.int .i64 k0, .int .i64 k1, .int .i64 k2] 75) = y2 at HD HI ⊢
          obtain ⟨i0, hi, hz0, hz1, hz2⟩ := info_parts info_Cell
          refine rdH 13 (fun K hK => ?_)
          refine step_appL 75 i0 (.agg #[.int .i64 0, .int .i64 0, .int .i64 0]) 3 24 (by rfl) _ _ 24 (by rfl) Tryz.underlying24 hi hz0 hz1 hz2 rfl (by omega) (by omega) _ (w.heap.size + 1) S.nc (nums S.c (S.nc * 3)) (.slice a0 S.nc c0) (by rfl) (own_m HD.out.own.1.1) 0 1 (fun p => [k0, k1, k2].getD p 0) (.slice (some ⟨y1.heap.size, 0, none⟩) 1 1) (by rfl) HI.out (by have := HZ.out; unfold Sz at this; omega) (by have := HD.out.but.size; have := HD.out.box.lt; have := HD.out.bl; omega) ?_
          intro ao5 cp5 y3 O5 G5 W5
          have HW : Hid (DrW w b o len cap bx ⟨S.nc + 1, fun p => (nums S.c (S.nc * 3) ++ nums (fun p => [k0, k1, k2].getD p 0) (1 * 3)).getD p 0, S.nl, S.l, S.nw, S.k⟩ (.slice ao5 (S.nc + 1) cp5) (.slice a1 S.nl c1) (.slice a2 S.nw c2) (.slice a0 S.nc c0) (.slice a1 S.nl c1) (.slice a2 S.nw c2) (c + 1 + 3) y3) := HD.out.app0 HZ.out O5 (by rw [List.length_append, nums_length, nums_length]; omega) G5 W5
          refine hK.out _ _ trivial (fun hS => ?_)
          clear hK K O5 G5 W5 HI HD hi hz0 hz1 hz2
          refine tkH 14 ?_ hS (fun wx hx => ?_) ?_; rotate_left
          · go_simp; try with_reducible rfl
          obtain ⟨⟨t0, t1, t2⟩, f0, f1, f2⟩ := HW.out.box
          refine rdH 15 (fun K hK => ?_)
          go_simp
          have HF := hid_mk HW.out.store0
          refine hK.out _ _ trivial (fun hS => ?_)
          clear hK K t0 t1 t2 f0 f1 f2
          refine wpAnyH_done (by kernel_rfl) ?_ _
          go_simp
          go_wp2_with fail
          go_meet
          case rel => exact ⟨rfl, ⟨S.nc + 1, fun p => (nums S.c (S.nc * 3) ++ nums (fun p => [k0, k1, k2].getD p 0) (1 * 3)).getD p 0, S.nl, S.l, S.nw, S.k⟩, ao5, cp5, a1, c1, a2, c2, c + 1 + 3, ⟨by omega, by omega⟩, HF⟩
        | false =>
          refine wpAnyH_at (n' := 6) (L' := #[true, false, true, true, true, true, true, true, true, true, true, false, false, false, false, false]) rfl (by kernel_rfl) ?_
          simp only [putE, Bool.false_eq_true, if_false]
          simp only [Act.put, List.setIfInBounds_toArray, List.set_cons_succ, List.set_cons_zero]
          refine tkH 11 ?_ hS (fun wx hx => ?_) ?_; rotate_left
          · go_simp; try with_reducible rfl
          simp only [Act.put, List.getElem_toArray, List.getElem_cons_zero, List.getElem_cons_succ, List.setIfInBounds_toArray, List.set_cons_succ, List.set_cons_zero]
          refine wpAnyH_ready (rs := [1, 12]) (by kernel_rfl) (by simp) ?_
          refine AllReadyH.cons rfl ?_ (AllReadyH.cons rfl ?_ AllReadyH.nil)
          · intro K hK
            obtain ⟨⟨t0, t1, t2⟩, _⟩ := HD.out.box
            go_simp
            refine hK.out _ _ trivial (fun hS => ?_)
            clear hK K t0 t1 t2
            refine rdH 12 (fun K hK => ?_)
            go_simp
            have HI : Hid (Row (y1.alloc (.cells #[.int .i64 k0, .int .i64 k1, .int .i64 k2] 75)) 0 3 1 (fun p => [k0, k1, k2].getD p 0) (.slice (some ⟨y1.heap.size, 0, none⟩) 1 1)) := row_lit3 y1 k0 k1 k2 _
            have HD : Hid (DrB w b o len cap bx S (.slice a0 S.nc c0) (.slice a1 S.nl c1) (.slice a2 S.nw c2) (c + 1 + 3) (y1.alloc (.cells #[.int .i64 k0, .int .i64 k1, .int .i64 k2] 75))) := HD.out.later (below_alloc _ _)
            refine hK.out _ _ trivial (fun hS => ?_)
            clear hK K
            generalize y1.alloc (.cells #[.int .i64 k0, .int .i64 k1, .int .i64 k2] 75) = y2 at HD HI ⊢
            obtain ⟨i0, hi, hz0, hz1, hz2⟩ := info_parts info_Cell
            refine rdH 13 (fun K hK => ?_)
            refine step_appL 75 i0 (.agg #[.int .i64 0, .int .i64 0, .int .i64 0]) 3 24 (by rfl) _ _ 24 (by rfl) Tryz.underlying24 hi hz0 hz1 hz2 rfl (by omega) (by omega) _ (w.heap.size + 1) S.nc (nums S.c (S.nc * 3)) (.slice a0 S.nc c0) (by rfl) (own_m HD.out.own.1.1) 0 1 (fun p => [k0, k1, k2].getD p 0) (.slice (some ⟨y1.heap.size, 0, none⟩) 1 1) (by rfl) HI.out (by have := HZ.out; unfold Sz at this; omega) (by have := HD.out.but.size; have := HD.out.box.lt; have := HD.out.bl; omega) ?_
            intro ao5 cp5 y3 O5 G5 W5
            have HW : Hid (DrW w b o len cap bx ⟨S.nc + 1, fun p => (nums S.c (S.nc * 3) ++ nums (fun p => [k0, k1, k2].getD p 0) (1 * 3)).getD p 0, S.nl, S.l, S.nw, S.k⟩ (.slice ao5 (S.nc + 1) cp5) (.slice a1 S.nl c1) (.slice a2 S.nw c2) (.slice a0 S.nc c0) (.slice a1 S.nl c1) (.slice a2 S.nw c2) (c + 1 + 3) y3) := HD.out.app0 HZ.out O5 (by rw [List.length_append, nums_length, nums_length]; omega) G5 W5
            refine hK.out _ _ trivial (fun hS => ?_)
            clear hK K O5 G5 W5 HI HD hi hz0 hz1 hz2
            refine tkH 14 ?_ hS (fun wx hx => ?_) ?_; rotate_left
            · go_simp; try with_reducible rfl
            obtain ⟨⟨t0, t1, t2⟩, f0, f1, f2⟩ := HW.out.box
            refine rdH 15 (fun K hK => ?_)
            go_simp
            have HF := hid_mk HW.out.store0
            refine hK.out _ _ trivial (fun hS => ?_)
            clear hK K t0 t1 t2 f0 f1 f2
            refine wpAnyH_done (by kernel_rfl) ?_ _
            go_simp
            go_wp2_with fail
            go_meet
            case rel => exact ⟨rfl, ⟨S.nc + 1, fun p => (nums S.c (S.nc * 3) ++ nums (fun p => [k0, k1, k2].getD p 0) (1 * 3)).getD p 0, S.nl, S.l, S.nw, S.k⟩, ao5, cp5, a1, c1, a2, c2, c + 1 + 3, ⟨by omega, by omega⟩, HF⟩
          · intro K hK
            go_simp
            have HI : Hid (Row (y1.alloc (.cells #[.int .i64 k0, .int .i64 k1, .int .i64 k2] 75)) 0 3 1 (fun p => [k0, k1, k2].getD p 0) (.slice (some ⟨y1.heap.size, 0, none⟩) 1 1)) := row_lit3 y1 k0 k1 k2 _
            have HD : Hid (DrB w b o len cap bx S (.slice a0 S.nc c0) (.slice a1 S.nl c1) (.slice a2 S.nw c2) (c + 1 + 3) (y1.alloc (.cells #[.int .i64 k0, .int .i64 k1, .int .i64 k2] 75))) := HD.out.later (below_alloc _ _)
            refine hK.out _ _ trivial (fun hS => ?_)
            clear hK K
            generalize y1.alloc (.cells #[.int .i64 k0, .int .i64 k1, .int .i64 k2] 75) = y2 at HD HI ⊢
            refine rdH 1 (fun K hK => ?_)
            obtain ⟨⟨t0, t1, t2⟩, _⟩ := HD.out.box
            go_simp
            refine hK.out _ _ trivial (fun hS => ?_)
            clear hK K t0 t1 t2
            obtain ⟨i0, hi, hz0, hz1, hz2⟩ := info_parts info_Cell
            refine rdH 13 (fun K hK => ?_)
            refine step_appL 75 i0 (.agg #[.int .i64 0, .int .i64 0, .int .i64 0]) 3 24 (by rfl) _ _ 24 (by rfl) Tryz.underlying24 hi hz0 hz1 hz2 rfl (by omega) (by omega) _ (w.heap.size + 1) S.nc (nums S.c (S.nc * 3)) (.slice a0 S.nc c0) (by rfl) (own_m HD.out.own.1.1) 0 1 (fun p => [k0, k1, k2].getD p 0) (.slice (some ⟨y1.heap.size, 0, none⟩) 1 1) (by rfl) HI.out (by have := HZ.out; unfold Sz at this; omega) (by have := HD.out.but.size; have := HD.out.box.lt; have := HD.out.bl; omega) ?_
            intro ao5 cp5 y3 O5 G5 W5
            have HW : Hid (DrW w b o len cap bx ⟨S.nc + 1, fun p => (nums S.c (S.nc * 3) ++ nums (fun p => [k0, k1, k2].getD p 0) (1 * 3)).getD p 0, S.nl, S.l, S.nw, S.k⟩ (.slice ao5 (S.nc + 1) cp5) (.slice a1 S.nl c1) (.slice a2 S.nw c2) (.slice a0 S.nc c0) (.slice a1 S.nl c1) (.slice a2 S.nw c2) (c + 1 + 3) y3) := HD.out.app0 HZ.out O5 (by rw [List.length_append, nums_length, nums_length]; omega) G5 W5
            refine hK.out _ _ trivial (fun hS => ?_)
            clear hK K O5 G5 W5 HI HD hi hz0 hz1 hz2
            refine tkH 14 ?_ hS (fun wx hx => ?_) ?_; rotate_left
            · go_simp; try with_reducible rfl
            obtain ⟨⟨t0, t1, t2⟩, f0, f1, f2⟩ := HW.out.box
            refine rdH 15 (fun K hK => ?_)
            go_simp
            have HF := hid_mk HW.out.store0
            refine hK.out _ _ trivial (fun hS => ?_)
            clear hK K t0 t1 t2 f0 f1 f2
            refine wpAnyH_done (by kernel_rfl) ?_ _
            go_simp
            go_wp2_with fail
            go_meet
            case rel => exact ⟨rfl, ⟨S.nc + 1, fun p => (nums S.c (S.nc * 3) ++ nums (fun p => [k0, k1, k2].getD p 0) (1 * 3)).getD p 0, S.nl, S.l, S.nw, S.k⟩, ao5, cp5, a1, c1, a2, c2, c + 1 + 3, ⟨by omega, by omega⟩, HF⟩
    · go_wp2_with fail
      refine wp_region_held_drew (S := fun _ => True) (by kernel_rfl) trivial (fun hS => ?_)
      have HD : Hid (DrB w b o len cap bx S (.slice a0 S.nc c0) (.slice a1 S.nl c1) (.slice a2 S.nw c2) (c + 1) w3.drew) := HD.out.later (below_dr (Below.refl _ _) 1)
      generalize w3.drew = y0 at HD ⊢
      refine tkH 0 ?_ hS (fun wx hx => ?_) ?_; rotate_left
      · go_simp; try with_reducible rfl
      refine tkH 2 ?_ hS (fun wx hx => ?_) ?_; rotate_left
      · go_simp; try with_reducible rfl
      refine tkH 5 ?_ hS (fun wx hx => ?_) ?_; rotate_left
      · go_simp; try with_reducible rfl
      refine tkH 8 ?_ hS (fun wx hx => ?_) ?_; rotate_left
      · go_simp; try with_reducible rfl
      refine tkH 11 ?_ hS (fun wx hx => ?_) ?_; rotate_left
      · go_simp; try with_reducible rfl
      simp only [Act.put, List.getElem_toArray, List.getElem_cons_zero, List.getElem_cons_succ, List.setIfInBounds_toArray, List.set_cons_succ, List.set_cons_zero]
      refine wpAnyH_at (n' := 9 + 5) (L' := mkL [⟨3, 30, 4, 31, 29, [189, 5, 0]⟩, ⟨6, 33, 7, 34, 32, [3, 0]⟩, ⟨9, 36, 10, 37, 35, [1, 3, 4]⟩, ⟨12, 39, 13, 40, 38, [0, 5]⟩] ⟨1, 28, .slice a1 S.nl c1⟩ #[true, false, true, false, false, true, false, false, true, false, false, true, false, false, false, false, false, false, false] [false, false, false, false] false 0) (by kernel_rfl) (by kernel_rfl) ?_
      refine wpAnyH_picks (H := fun x => Blk3 x bx (.slice a0 S.nc c0) (.slice a1 S.nl c1) (.slice a2 S.nw c2)) [⟨3, 30, 4, 31, 29, [189, 5, 0]⟩, ⟨6, 33, 7, 34, 32, [3, 0]⟩, ⟨9, 36, 10, 37, 35, [1, 3, 4]⟩, ⟨12, 39, 13, 40, 38, [0, 5]⟩] ⟨1, 28, .slice a1 S.nl c1⟩ #[true, false, true, false, false, true, false, false, true, false, false, true, false, false, false, false, false, false, false] _ y0 b o len cap (c + 1) 5 (by kernel_rfl) (by kernel_rfl) (by kernel_rfl) ?ok ?ld ?sr (fun x x' h hT => h.butS hT (by have := HD.out.lo; have := HD.out.bl; omega)) (fun _ _ => trivial) (by show c + 1 + 4 ≤ 1000000; omega) hl ?cont 9 _ _ 0 _ _ (by kernel_rfl) (Stand.start HD.out.src HD.out.box)
      case ok =>
        intro p hp
        simp only [List.mem_cons, List.not_mem_nil, or_false] at hp
        rcases hp with rfl | rfl | rfl | rfl
        · exact pkOk3 3 30 4 31 29 (189) (5) (0) _ _ rfl rfl rfl rfl rfl rfl rfl _ rfl
        · exact pkOk2 6 33 7 34 32 (3) (0) _ _ rfl rfl rfl rfl rfl rfl rfl _ rfl
        · exact pkOk3 9 36 10 37 35 (1) (3) (4) _ _ rfl rfl rfl rfl rfl rfl rfl _ rfl
        · exact pkOk2 12 39 13 40 38 (0) (5) _ _ rfl rfl rfl rfl rfl rfl rfl _ rfl
      case ld =>
        exact ⟨_, rfl, rfl, rfl, fun a' w' K hag hH hk => wp_loadS 25 (fun _ => by kernel_rfl) 27 rfl rfl bx 1 (by rw [hag 27 (by simp) (by simp)]; rfl) _ hH.1.2.1 hk⟩
      case sr =>
        intro p hp
        simp only [List.mem_cons, List.not_mem_nil, or_false] at hp
        rcases hp with rfl | rfl | rfl | rfl <;> rfl
      case cont =>
        intro e x r y1 hr hsrc hbut hH
        obtain ⟨k0, hk0⟩ : ∃ k, r ⟨3, 30, 4, 31, 29, [189, 5, 0]⟩ = k := ⟨_, rfl⟩
        obtain ⟨x0, hx0⟩ : ∃ k, x ⟨3, 30, 4, 31, 29, [189, 5, 0]⟩ = k := ⟨_, rfl⟩
        obtain ⟨k1, hk1⟩ : ∃ k, r ⟨6, 33, 7, 34, 32, [3, 0]⟩ = k := ⟨_, rfl⟩
        obtain ⟨x1, hx1⟩ : ∃ k, x ⟨6, 33, 7, 34, 32, [3, 0]⟩ = k := ⟨_, rfl⟩
        obtain ⟨k2, hk2⟩ : ∃ k, r ⟨9, 36, 10, 37, 35, [1, 3, 4]⟩ = k := ⟨_, rfl⟩
        obtain ⟨x2, hx2⟩ : ∃ k, x ⟨9, 36, 10, 37, 35, [1, 3, 4]⟩ = k := ⟨_, rfl⟩
        obtain ⟨k3, hk3⟩ : ∃ k, r ⟨12, 39, 13, 40, 38, [0, 5]⟩ = k := ⟨_, rfl⟩
        obtain ⟨x3, hx3⟩ : ∃ k, x ⟨12, 39, 13, 40, 38, [0, 5]⟩ = k := ⟨_, rfl⟩
        simp only [putAll, hk0, hx0, hk1, hx1, hk2, hx2, hk3, hx3]
        have HD : Hid (DrB w b o len cap bx S (.slice a0 S.nc c0) (.slice a1 S.nl c1) (.slice a2 S.nw c2) (c + 1 + 4) y1) := HD.out.step hbut hsrc
        clear hr hsrc hbut hH hk0 hx0 hk1 hx1 hk2 hx2 hk3 hx3
        cases e with
        | true =>
          refine wpAnyH_at (n' := 5) (L' := #[true, true, true, true, true, true, true, true, true, true, true, true, true, true, false, false, false, false, false]) rfl (by kernel_rfl) ?_
          simp only [putE, if_true]
          simp only [Act.put, List.setIfInBounds_toArray, List.set_cons_succ, List.set_cons_zero]
          refine tkH 14 ?_ hS (fun wx hx => ?_) ?_; rotate_left
          · go_simp; try with_reducible rfl
          refine rdH 15 (fun K hK => ?_)
          go_simp
          have HI : Hid (Row (y1.alloc (.cells #[.int .i64 k0, .int .i64 k1, .int .i64 k2, .int .i64 k3, .int .i64 0] 61)) 0 5 1 (fun p => [k0, k1, k2, k3, 0].getD p 0) (.slice (some ⟨y1.heap.size, 0, none⟩) 1 1)) := row_lit5 y1 k0 k1 k2 k3 0 _
          have HD : Hid (DrB w b o len cap bx S (.slice a0 S.nc c0) (.slice a1 S.nl c1) (.slice a2 S.nw c2) (c + 1 + 4) (y1.alloc (.cells #[.int .i64 k0, .int .i64 k1, .int .i64 k2, .int .i64 k3, .int .i64 0] 61))) := HD.out.later (below_alloc _ _)
          refine hK.out _ _ trivial (fun hS => ?_)
          clear hK K
          generalize y1.alloc (.cells #[.int .i64 k0, .int .i64 k1, .int .i64 k2, .int .i64 k3, .int .i64 0] 61) = y2 at HD HI ⊢
          obtain ⟨i0, hi, hz0, hz1, hz2⟩ := info_parts info_Lock
          refine rdH 16 (fun K hK => ?_)
          refine step_appL 61 i0 (.agg #[.int .i64 0, .int .i64 0, .int .i64 0, .int .i64 0, .int .i64 0]) 5 40 (by rfl) _ _ 25 (by rfl) Tryz.underlying25 hi hz0 hz1 hz2 rfl (by omega) (by omega) _ (w.heap.size + 1) S.nl (nums S.l (S.nl * 5)) (.slice a1 S.nl c1) (by rfl) (own_m HD.out.own.1.2.1) 0 1 (fun p => [k0, k1, k2, k3, 0].getD p 0) (.slice (some ⟨y1.heap.size, 0, none⟩) 1 1) (by rfl) HI.out (by have := HZ.out; unfold Sz at this; omega) (by have := HD.out.but.size; have := HD.out.box.lt; have := HD.out.bl; omega) ?_
          intro ao5 cp5 y3 O5 G5 W5
          have HW : Hid (DrW w b o len cap bx ⟨S.nc, S.c, S.nl + 1, fun p => (nums S.l (S.nl * 5) ++ nums (fun p => [k0, k1, k2, k3, 0].getD p 0) (1 * 5)).getD p 0, S.nw, S.k⟩ (.slice a0 S.nc c0) (.slice ao5 (S.nl + 1) cp5) (.slice a2 S.nw c2) (.slice a0 S.nc c0) (.slice a1 S.nl c1) (.slice a2 S.nw c2) (c + 1 + 4) y3) := HD.out.app1 HZ.out O5 (by rw [List.length_append, nums_length, nums_length]; omega) G5 W5
          refine hK.out _ _ trivial (fun hS => ?_)
          clear hK K O5 G5 W5 HI HD hi hz0 hz1 hz2
          refine tkH 17 ?_ hS (fun wx hx => ?_) ?_; rotate_left
          · go_simp; try with_reducible rfl
          obtain ⟨⟨t0, t1, t2⟩, f0, f1, f2⟩ := HW.out.box
          refine rdH 18 (fun K hK => ?_)
          go_simp
          have HF := hid_mk HW.out.store1
          refine hK.out _ _ trivial (fun hS => ?_)
          clear hK K t0 t1 t2 f0 f1 f2
          refine wpAnyH_done (by kernel_rfl) ?_ _
          go_simp
          go_wp2_with fail
          go_meet
          case rel => exact ⟨rfl, ⟨S.nc, S.c, S.nl + 1, fun p => (nums S.l (S.nl * 5) ++ nums (fun p => [k0, k1, k2, k3, 0].getD p 0) (1 * 5)).getD p 0, S.nw, S.k⟩, a0, c0, ao5, cp5, a2, c2, c + 1 + 4, ⟨by omega, by omega⟩, HF⟩
        | false =>
          refine wpAnyH_at (n' := 6) (L' := #[true, false, true, true, true, true, true, true, true, true, true, true, true, true, false, false, false, false, false]) rfl (by kernel_rfl) ?_
          simp only [putE, Bool.false_eq_true, if_false]
          simp only [Act.put, List.setIfInBounds_toArray, List.set_cons_succ, List.set_cons_zero]
          refine tkH 14 ?_ hS (fun wx hx => ?_) ?_; rotate_left
          · go_simp; try with_reducible rfl
          simp only [Act.put, List.getElem_toArray, List.getElem_cons_zero, List.getElem_cons_succ, List.setIfInBounds_toArray, List.set_cons_succ, List.set_cons_zero]
          refine wpAnyH_ready (rs := [1, 15]) (by kernel_rfl) (by simp) ?_
          refine AllReadyH.cons rfl ?_ (AllReadyH.cons rfl ?_ AllReadyH.nil)
          · intro K hK
            obtain ⟨⟨t0, t1, t2⟩, _⟩ := HD.out.box
            go_simp
            refine hK.out _ _ trivial (fun hS => ?_)
            clear hK K t0 t1 t2
            refine rdH 15 (fun K hK => ?_)
            go_simp
            have HI : Hid (Row (y1.alloc (.cells #[.int .i64 k0, .int .i64 k1, .int .i64 k2, .int .i64 k3, .int .i64 0] 61)) 0 5 1 (fun p => [k0, k1, k2, k3, 0].getD p 0) (.slice (some ⟨y1.heap.size, 0, none⟩) 1 1)) := row_lit5 y1 k0 k1 k2 k3 0 _
            have HD : Hid (DrB w b o len cap bx S (.slice a0 S.nc c0) (.slice a1 S.nl c1) (.slice a2 S.nw c2) (c + 1 + 4) (y1.alloc (.cells #[.int .i64 k0, .int .i64 k1, .int .i64 k2, .int .i64 k3, .int .i64 0] 61))) := HD.out.later (below_alloc _ _)
            refine hK.out _ _ trivial (fun hS => ?_)
            clear hK K
            generalize y1.alloc (.cells #[.int .i64 k0, .int .i64 k1, .int .i64 k2, .int .i64 k3, .int .i64 0] 61) = y2 at HD HI ⊢
            obtain ⟨i0, hi, hz0, hz1, hz2⟩ := info_parts info_Lock
            refine rdH 16 (fun K hK => ?_)
            refine step_appL 61 i0 (.agg #[.int .i64 0, .int .i64 0, .int .i64 0, .int .i64 0, .int .i64 0]) 5 40 (by rfl) _ _ 25 (by rfl) Tryz.underlying25 hi hz0 hz1 hz2 rfl (by omega) (by omega) _ (w.heap.size + 1) S.nl (nums S.l (S.nl * 5)) (.slice a1 S.nl c1) (by rfl) (own_m HD.out.own.1.2.1) 0 1 (fun p => [k0, k1, k2, k3, 0].getD p 0) (.slice (some ⟨y1.heap.size, 0, none⟩) 1 1) (by rfl) HI.out (by have := HZ.out; unfold Sz at this; omega) (by have := HD.out.but.size; have := HD.out.box.lt; have := HD.out.bl; omega) ?_
            intro ao5 cp5 y3 O5 G5 W5
            have HW : Hid (DrW w b o len cap bx ⟨S.nc, S.c, S.nl + 1, fun p => (nums S.l (S.nl * 5) ++ nums (fun p => [k0, k1, k2, k3, 0].getD p 0) (1 * 5)).getD p 0, S.nw, S.k⟩ (.slice a0 S.nc c0) (.slice ao5 (S.nl + 1) cp5) (.slice a2 S.nw c2) (.slice a0 S.nc c0) (.slice a1 S.nl c1) (.slice a2 S.nw c2) (c + 1 + 4) y3) := HD.out.app1 HZ.out O5 (by rw [List.length_append, nums_length, nums_length]; omega) G5 W5
            refine hK.out _ _ trivial (fun hS => ?_)
            clear hK K O5 G5 W5 HI HD hi hz0 hz1 hz2
            refine tkH 17 ?_ hS (fun wx hx => ?_) ?_; rotate_left
            · go_simp; try with_reducible rfl
            obtain ⟨⟨t0, t1, t2⟩, f0, f1, f2⟩ := HW.out.box
            refine rdH 18 (fun K hK => ?_)
            go_simp
            have HF := hid_mk HW.out.store1
            refine hK.out _ _ trivial (fun hS => ?_)
            clear hK K t0 t1 t2 f0 f1 f2
            refine wpAnyH_done (by kernel_rfl) ?_ _
            go_simp
            go_wp2_with fail
            go_meet
            case rel => exact ⟨rfl, ⟨S.nc, S.c, S.nl + 1, fun p => (nums S.l (S.nl * 5) ++ nums (fun p => [k0, k1, k2, k3, 0].getD p 0) (1 * 5)).getD p 0, S.nw, S.k⟩, a0, c0, ao5, cp5, a2, c2, c + 1 + 4, ⟨by omega, by omega⟩, HF⟩
          · intro K hK
            go_simp
            have HI : Hid (Row (y1.alloc (.cells #[.int .i64 k0, .int .i64 k1, .int .i64 k2, .int .i64 k3, .int .i64 0] 61)) 0 5 1 (fun p => [k0, k1, k2, k3, 0].getD p 0) (.slice (some ⟨y1.heap.size, 0, none⟩) 1 1)) := row_lit5 y1 k0 k1 k2 k3 0 _
            have HD : Hid (DrB w b o len cap bx S (.slice a0 S.nc c0) (.slice a1 S.nl c1) (.slice a2 S.nw c2) (c + 1 + 4) (y1.alloc (.cells #[.int .i64 k0, .int .i64 k1, .int .i64 k2, .int .i64 k3, .int .i64 0] 61))) := HD.out.later (below_alloc _ _)
            refine hK.out _ _ trivial (fun hS => ?_)
            clear hK K
            generalize y1.alloc (.cells #[.int .i64 k0, .int .i64 k1, .int .i64 k2, .int .i64 k3, .int .i64 0] 61) = y2 at HD HI ⊢
            refine rdH 1 (fun K hK => ?_)
            obtain ⟨⟨t0, t1, t2⟩, _⟩ := HD.out.box
            go_simp
            refine hK.out _ _ trivial (fun hS => ?_)
            clear hK K t0 t1 t2
            obtain ⟨i0, hi, hz0, hz1, hz2⟩ := info_parts info_Lock
            refine rdH 16 (fun K hK => ?_)
            refine step_appL 61 i0 (.agg #[.int .i64 0, .int .i64 0, .int .i64 0, .int .i64 0, .int .i64 0]) 5 40 (by rfl) _ _ 25 (by rfl) Tryz.underlying25 hi hz0 hz1 hz2 rfl (by omega) (by omega) _ (w.heap.size + 1) S.nl (nums S.l (S.nl * 5)) (.slice a1 S.nl c1) (by rfl) (own_m HD.out.own.1.2.1) 0 1 (fun p => [k0, k1, k2, k3, 0].getD p 0) (.slice (some ⟨y1.heap.size, 0, none⟩) 1 1) (by rfl) HI.out (by have := HZ.out; unfold Sz at this; omega) (by have := HD.out.but.size; have := HD.out.box.lt; have := HD.out.bl; omega) ?_
            intro ao5 cp5 y3 O5 G5 W5
            have HW : Hid (DrW w b o len cap bx ⟨S.nc, S.c, S.nl + 1, fun p => (nums S.l (S.nl * 5) ++ nums (fun p => [k0, k1, k2, k3, 0].getD p 0) (1 * 5)).getD p 0, S.nw, S.k⟩ (.slice a0 S.nc c0) (.slice ao5 (S.nl + 1) cp5) (.slice a2 S.nw c2) (.slice a0 S.nc c0) (.slice a1 S.nl c1) (.slice a2 S.nw c2) (c + 1 + 4) y3) := HD.out.app1 HZ.out O5 (by rw [List.length_append, nums_length, nums_length]; omega) G5 W5
            refine hK.out _ _ trivial (fun hS => ?_)
            clear hK K O5 G5 W5 HI HD hi hz0 hz1 hz2
            refine tkH 17 ?_ hS (fun wx hx => ?_) ?_; rotate_left
            · go_simp; try with_reducible rfl
            obtain ⟨⟨t0, t1, t2⟩, f0, f1, f2⟩ := HW.out.box
            refine rdH 18 (fun K hK => ?_)
            go_simp
            have HF := hid_mk HW.out.store1
            refine hK.out _ _ trivial (fun hS => ?_)
            clear hK K t0 t1 t2 f0 f1 f2
            refine wpAnyH_done (by kernel_rfl) ?_ _
            go_simp
            go_wp2_with fail
            go_meet
            case rel => exact ⟨rfl, ⟨S.nc, S.c, S.nl + 1, fun p => (nums S.l (S.nl * 5) ++ nums (fun p => [k0, k1, k2, k3, 0].getD p 0) (1 * 5)).getD p 0, S.nw, S.k⟩, a0, c0, ao5, cp5, a2, c2, c + 1 + 4, ⟨by omega, by omega⟩, HF⟩
    · go_wp2_with fail
      refine wp_region_held_drew (S := fun _ => True) (by kernel_rfl) trivial (fun hS => ?_)
      have HD : Hid (DrB w b o len cap bx S (.slice a0 S.nc c0) (.slice a1 S.nl c1) (.slice a2 S.nw c2) (c + 1) w3.drew) := HD.out.later (below_dr (Below.refl _ _) 1)
      generalize w3.drew = y0 at HD ⊢
      refine tkH 0 ?_ hS (fun wx hx => ?_) ?_; rotate_left
      · go_simp; try with_reducible rfl
      refine tkH 2 ?_ hS (fun wx hx => ?_) ?_; rotate_left
      · go_simp; try with_reducible rfl
      refine tkH 5 ?_ hS (fun wx hx => ?_) ?_; rotate_left
      · go_simp; try with_reducible rfl
      refine tkH 8 ?_ hS (fun wx hx => ?_) ?_; rotate_left
      · go_simp; try with_reducible rfl
      simp only [Act.put, List.getElem_toArray, List.getElem_cons_zero, List.getElem_cons_succ, List.setIfInBounds_toArray, List.set_cons_succ, List.set_cons_zero]
      refine wpAnyH_at (n' := 7 + 5) (L' := mkL [⟨3, 50, 4, 51, 49, [189, 5, 0]⟩, ⟨6, 53, 7, 54, 52, [5, 3]⟩, ⟨9, 56, 10, 57, 55, [1, 2, 4, 5]⟩] ⟨1, 48, .slice a2 S.nw c2⟩ #[true, false, true, false, false, true, false, false, true, false, false, false, false, false, false, false] [false, false, false] false 0) (by kernel_rfl) (by kernel_rfl) ?_
      refine wpAnyH_picks (H := fun x => Blk3 x bx (.slice a0 S.nc c0) (.slice a1 S.nl c1) (.slice a2 S.nw c2)) [⟨3, 50, 4, 51, 49, [189, 5, 0]⟩, ⟨6, 53, 7, 54, 52, [5, 3]⟩, ⟨9, 56, 10, 57, 55, [1, 2, 4, 5]⟩] ⟨1, 48, .slice a2 S.nw c2⟩ #[true, false, true, false, false, true, false, false, true, false, false, false, false, false, false, false] _ y0 b o len cap (c + 1) 5 (by kernel_rfl) (by kernel_rfl) (by kernel_rfl) ?ok ?ld ?sr (fun x x' h hT => h.butS hT (by have := HD.out.lo; have := HD.out.bl; omega)) (fun _ _ => trivial) (by show c + 1 + 3 ≤ 1000000; omega) hl ?cont 7 _ _ 0 _ _ (by kernel_rfl) (Stand.start HD.out.src HD.out.box)
      case ok =>
        intro p hp
        simp only [List.mem_cons, List.not_mem_nil, or_false] at hp
        rcases hp with rfl | rfl | rfl
        · exact pkOk3 3 50 4 51 49 (189) (5) (0) _ _ rfl rfl rfl rfl rfl rfl rfl _ rfl
        · exact pkOk2 6 53 7 54 52 (5) (3) _ _ rfl rfl rfl rfl rfl rfl rfl _ rfl
        · exact pkOk4 9 56 10 57 55 (1) (2) (4) (5) _ _ rfl rfl rfl rfl rfl rfl rfl _ rfl
      case ld =>
        exact ⟨_, rfl, rfl, rfl, fun a' w' K hag hH hk => wp_loadS 26 (fun _ => by kernel_rfl) 47 rfl rfl bx 2 (by rw [hag 47 (by simp) (by simp)]; rfl) _ hH.1.2.2 hk⟩
      case sr =>
        intro p hp
        simp only [List.mem_cons, List.not_mem_nil, or_false] at hp
        rcases hp with rfl | rfl | rfl <;> rfl
      case cont =>
        intro e x r y1 hr hsrc hbut hH
        obtain ⟨k0, hk0⟩ : ∃ k, r ⟨3, 50, 4, 51, 49, [189, 5, 0]⟩ = k := ⟨_, rfl⟩
        obtain ⟨x0, hx0⟩ : ∃ k, x ⟨3, 50, 4, 51, 49, [189, 5, 0]⟩ = k := ⟨_, rfl⟩
        obtain ⟨k1, hk1⟩ : ∃ k, r ⟨6, 53, 7, 54, 52, [5, 3]⟩ = k := ⟨_, rfl⟩
        obtain ⟨x1, hx1⟩ : ∃ k, x ⟨6, 53, 7, 54, 52, [5, 3]⟩ = k := ⟨_, rfl⟩
        obtain ⟨k2, hk2⟩ : ∃ k, r ⟨9, 56, 10, 57, 55, [1, 2, 4, 5]⟩ = k := ⟨_, rfl⟩
        obtain ⟨x2, hx2⟩ : ∃ k, x ⟨9, 56, 10, 57, 55, [1, 2, 4, 5]⟩ = k := ⟨_, rfl⟩
        simp only [putAll, hk0, hx0, hk1, hx1, hk2, hx2]
        have HD : Hid (DrB w b o len cap bx S (.slice a0 S.nc c0) (.slice a1 S.nl c1) (.slice a2 S.nw c2) (c + 1 + 3) y1) := HD.out.step hbut hsrc
        clear hr hsrc hbut hH hk0 hx0 hk1 hx1 hk2 hx2
        cases e with
        | true =>
          refine wpAnyH_at (n' := 5) (L' := #[true, true, true, true, true, true, true, true, true, true, true, false, false, false, false, false]) rfl (by kernel_rfl) ?_
          simp only [putE, if_true]
          simp only [Act.put, List.setIfInBounds_toArray, List.set_cons_succ, List.set_cons_zero]
          refine tkH 11 ?_ hS (fun wx hx => ?_) ?_; rotate_left
          · go_simp; try with_reducible rfl
          refine rdH 12 (fun K hK => ?_)
          go_simp
          have HI : Hid (Row (y1.alloc (.cells #[.int .i64 k0, .int .i64 k1, .int .i64 3, .int .i64 k2] 38)) 0 4 1 (fun p => [k0, k1, 3, k2].getD p 0) (.slice (some ⟨y1.heap.size, 0, none⟩) 1 1)) := row_lit4 y1 k0 k1 3 k2 _
          have HD : Hid (DrB w b o len cap bx S (.slice a0 S.nc c0) (.slice a1 S.nl c1) (.slice a2 S.nw c2) (c + 1 + 3) (y1.alloc (.cells #[.int .i64 k0, .int .i64 k1, .int .i64 3, .int .i64 k2] 38))) := HD.out.later (below_alloc _ _)
          refine hK.out _ _ trivial (fun hS => ?_)
          clear hK K
          generalize y1.alloc (.cells #[.int .i64 k0, .int .i64 k1, .int .i64 3, .int .i64 k2] 38) = y2 at HD HI ⊢
          obtain ⟨i0, hi, hz0, hz1, hz2⟩ := info_parts info_Write
          refine rdH 13 (fun K hK => ?_)
          refine step_appL 38 i0 (.agg #[.int .i64 0, .int .i64 0, .int .i64 0, .int .i64 0]) 4 32 (by rfl) _ _ 26 (by rfl) Tryz.underlying26 hi hz0 hz1 hz2 rfl (by omega) (by omega) _ (w.heap.size + 1) S.nw (nums S.k (S.nw * 4)) (.slice a2 S.nw c2) (by rfl) (own_m HD.out.own.1.2.2) 0 1 (fun p => [k0, k1, 3, k2].getD p 0) (.slice (some ⟨y1.heap.size, 0, none⟩) 1 1) (by rfl) HI.out (by have := HZ.out; unfold Sz at this; omega) (by have := HD.out.but.size; have := HD.out.box.lt; have := HD.out.bl; omega) ?_
          intro ao5 cp5 y3 O5 G5 W5
          have HW : Hid (DrW w b o len cap bx ⟨S.nc, S.c, S.nl, S.l, S.nw + 1, fun p => (nums S.k (S.nw * 4) ++ nums (fun p => [k0, k1, 3, k2].getD p 0) (1 * 4)).getD p 0⟩ (.slice a0 S.nc c0) (.slice a1 S.nl c1) (.slice ao5 (S.nw + 1) cp5) (.slice a0 S.nc c0) (.slice a1 S.nl c1) (.slice a2 S.nw c2) (c + 1 + 3) y3) := HD.out.app2 HZ.out O5 (by rw [List.length_append, nums_length, nums_length]; omega) G5 W5
          refine hK.out _ _ trivial (fun hS => ?_)
          clear hK K O5 G5 W5 HI HD hi hz0 hz1 hz2
          refine tkH 14 ?_ hS (fun wx hx => ?_) ?_; rotate_left
          · go_simp; try with_reducible rfl
          obtain ⟨⟨t0, t1, t2⟩, f0, f1, f2⟩ := HW.out.box
          refine rdH 15 (fun K hK => ?_)
          go_simp
          have HF := hid_mk HW.out.store2
          refine hK.out _ _ trivial (fun hS => ?_)
          clear hK K t0 t1 t2 f0 f1 f2
          refine wpAnyH_done (by kernel_rfl) ?_ _
          go_simp
          go_wp2_with fail
          go_meet
          case rel => exact ⟨rfl, ⟨S.nc, S.c, S.nl, S.l, S.nw + 1, fun p => (nums S.k (S.nw * 4) ++ nums (fun p => [k0, k1, 3, k2].getD p 0) (1 * 4)).getD p 0⟩, a0, c0, a1, c1, ao5, cp5, c + 1 + 3, ⟨by omega, by omega⟩, HF⟩
        | false =>
          refine wpAnyH_at (n' := 6) (L' := #[true, false, true, true, true, true, true, true, true, true, true, false, false, false, false, false]) rfl (by kernel_rfl) ?_
          simp only [putE, Bool.false_eq_true, if_false]
          simp only [Act.put, List.setIfInBounds_toArray, List.set_cons_succ, List.set_cons_zero]
          refine tkH 11 ?_ hS (fun wx hx => ?_) ?_; rotate_left
          · go_simp; try with_reducible rfl
          simp only [Act.put, List.getElem_toArray, List.getElem_cons_zero, List.getElem_cons_succ, List.setIfInBounds_toArray, List.set_cons_succ, List.set_cons_zero]
          refine wpAnyH_ready (rs := [1, 12]) (by kernel_rfl) (by simp) ?_
          refine AllReadyH.cons rfl ?_ (AllReadyH.cons rfl ?_ AllReadyH.nil)
          · intro K hK
            obtain ⟨⟨t0, t1, t2⟩, _⟩ := HD.out.box
            go_simp
            refine hK.out _ _ trivial (fun hS => ?_)
            clear hK K t0 t1 t2
            refine rdH 12 (fun K hK => ?_)
            go_simp
            have HI : Hid (Row (y1.alloc (.cells #[.int .i64 k0, .int .i64 k1, .int .i64 3, .int .i64 k2] 38)) 0 4 1 (fun p => [k0, k1, 3, k2].getD p 0) (.slice (some ⟨y1.heap.size, 0, none⟩) 1 1)) := row_lit4 y1 k0 k1 3 k2 _
            have HD : Hid (DrB w b o len cap bx S (.slice a0 S.nc c0) (.slice a1 S.nl c1) (.slice a2 S.nw c2) (c + 1 + 3) (y1.alloc (.cells #[.int .i64 k0, .int .i64 k1, .int .i64 3, .int .i64 k2] 38))) := HD.out.later (below_alloc _ _)
            refine hK.out _ _ trivial (fun hS => ?_)
            clear hK K
            generalize y1.alloc (.cells #[.int .i64 k0, .int .i64 k1, .int .i64 3, .int .i64 k2] 38) = y2 at HD HI ⊢
            obtain ⟨i0, hi, hz0, hz1, hz2⟩ := info_parts info_Write
            refine rdH 13 (fun K hK => ?_)
            refine step_appL 38 i0 (.agg #[.int .i64 0, .int .i64 0, .int .i64 0, .int .i64 0]) 4 32 (by rfl) _ _ 26 (by rfl) Tryz.underlying26 hi hz0 hz1 hz2 rfl (by omega) (by omega) _ (w.heap.size + 1) S.nw (nums S.k (S.nw * 4)) (.slice a2 S.nw c2) (by rfl) (own_m HD.out.own.1.2.2) 0 1 (fun p => [k0, k1, 3, k2].getD p 0) (.slice (some ⟨y1.heap.size, 0, none⟩) 1 1) (by rfl) HI.out (by have := HZ.out; unfold Sz at this; omega) (by have := HD.out.but.size; have := HD.out.box.lt; have := HD.out.bl; omega) ?_
            intro ao5 cp5 y3 O5 G5 W5
            have HW : Hid (DrW w b o len cap bx ⟨S.nc, S.c, S.nl, S.l, S.nw + 1, fun p => (nums S.k (S.nw * 4) ++ nums (fun p => [k0, k1, 3, k2].getD p 0) (1 * 4)).getD p 0⟩ (.slice a0 S.nc c0) (.slice a1 S.nl c1) (.slice ao5 (S.nw + 1) cp5) (.slice a0 S.nc c0) (.slice a1 S.nl c1) (.slice a2 S.nw c2) (c + 1 + 3) y3) := HD.out.app2 HZ.out O5 (by rw [List.length_append, nums_length, nums_length]; omega) G5 W5
            refine hK.out _ _ trivial (fun hS => ?_)
            clear hK K O5 G5 W5 HI HD hi hz0 hz1 hz2
            refine tkH 14 ?_ hS (fun wx hx => ?_) ?_; rotate_left
            · go_simp; try with_reducible rfl
            obtain ⟨⟨t0, t1, t2⟩, f0, f1, f2⟩ := HW.out.box
            refine rdH 15 (fun K hK => ?_)
            go_simp
            have HF := hid_mk HW.out.store2
            refine hK.out _ _ trivial (fun hS => ?_)
            clear hK K t0 t1 t2 f0 f1 f2
            refine wpAnyH_done (by kernel_rfl) ?_ _
            go_simp
            go_wp2_with fail
            go_meet
            case rel => exact ⟨rfl, ⟨S.nc, S.c, S.nl, S.l, S.nw + 1, fun p => (nums S.k (S.nw * 4) ++ nums (fun p => [k0, k1, 3, k2].getD p 0) (1 * 4)).getD p 0⟩, a0, c0, a1, c1, ao5, cp5, c + 1 + 3, ⟨by omega, by omega⟩, HF⟩
          · intro K hK
            go_simp
            have HI : Hid (Row (y1.alloc (.cells #[.int .i64 k0, .int .i64 k1, .int .i64 3, .int .i64 k2] 38)) 0 4 1 (fun p => [k0, k1, 3, k2].getD p 0) (.slice (some ⟨y1.heap.size, 0, none⟩) 1 1)) := row_lit4 y1 k0 k1 3 k2 _
            have HD : Hid (DrB w b o len cap bx S (.slice a0 S.nc c0) (.slice a1 S.nl c1) (.slice a2 S.nw c2) (c + 1 + 3) (y1.alloc (.cells #[.int .i64 k0, .int .i64 k1, .int .i64 3, .int .i64 k2] 38))) := HD.out.later (below_alloc _ _)
            refine hK.out _ _ trivial (fun hS => ?_)
            clear hK K
            generalize y1.alloc (.cells #[.int .i64 k0, .int .i64 k1, .int .i64 3, .int .i64 k2] 38) = y2 at HD HI ⊢
            refine rdH 1 (fun K hK => ?_)
            obtain ⟨⟨t0, t1, t2⟩, _⟩ := HD.out.box
            go_simp
            refine hK.out _ _ trivial (fun hS => ?_)
            clear hK K t0 t1 t2
            obtain ⟨i0, hi, hz0, hz1, hz2⟩ := info_parts info_Write
            refine rdH 13 (fun K hK => ?_)
            refine step_appL 38 i0 (.agg #[.int .i64 0, .int .i64 0, .int .i64 0, .int .i64 0]) 4 32 (by rfl) _ _ 26 (by rfl) Tryz.underlying26 hi hz0 hz1 hz2 rfl (by omega) (by omega) _ (w.heap.size + 1) S.nw (nums S.k (S.nw * 4)) (.slice a2 S.nw c2) (by rfl) (own_m HD.out.own.1.2.2) 0 1 (fun p => [k0, k1, 3, k2].getD p 0) (.slice (some ⟨y1.heap.size, 0, none⟩) 1 1) (by rfl) HI.out (by have := HZ.out; unfold Sz at this; omega) (by have := HD.out.but.size; have := HD.out.box.lt; have := HD.out.bl; omega) ?_
            intro ao5 cp5 y3 O5 G5 W5
            have HW : Hid (DrW w b o len cap bx ⟨S.nc, S.c, S.nl, S.l, S.nw + 1, fun p => (nums S.k (S.nw * 4) ++ nums (fun p => [k0, k1, 3, k2].getD p 0) (1 * 4)).getD p 0⟩ (.slice a0 S.nc c0) (.slice a1 S.nl c1) (.slice ao5 (S.nw + 1) cp5) (.slice a0 S.nc c0) (.slice a1 S.nl c1) (.slice a2 S.nw c2) (c + 1 + 3) y3) := HD.out.app2 HZ.out O5 (by rw [List.length_append, nums_length, nums_length]; omega) G5 W5
            refine hK.out _ _ trivial (fun hS => ?_)
            clear hK K O5 G5 W5 HI HD hi hz0 hz1 hz2
            refine tkH 14 ?_ hS (fun wx hx => ?_) ?_; rotate_left
            · go_simp; try with_reducible rfl
            obtain ⟨⟨t0, t1, t2⟩, f0, f1, f2⟩ := HW.out.box
            refine rdH 15 (fun K hK => ?_)
            go_simp
            have HF := hid_mk HW.out.store2
            refine hK.out _ _ trivial (fun hS => ?_)
            clear hK K t0 t1 t2 f0 f1 f2
            refine wpAnyH_done (by kernel_rfl) ?_ _
            go_simp
            go_wp2_with fail
            go_meet
            case rel => exact ⟨rfl, ⟨S.nc, S.c, S.nl, S.l, S.nw + 1, fun p => (nums S.k (S.nw * 4) ++ nums (fun p => [k0, k1, 3, k2].getD p 0) (1 * 4)).getD p 0⟩, a0, c0, a1, c1, ao5, cp5, c + 1 + 3, ⟨by omega, by omega⟩, HF⟩
    · obtain ⟨⟨t0, t1, t2⟩, f0, f1, f2⟩ := HD.out.box
      by_cases hnc : 0 < S.nc
      · have dn : decide (0 < S.nc) = true := decide_eq_true hnc
        have hcap : S.nc ≤ c0 := own_cap HD.out.own.1.1
        obtain ⟨g, oo, rfl, _⟩ := HD.out.own.st.1.at hnc
        have HT := HD.out.own.st.1.tailR 1 hcap
        have HF : Hid (DrF w b o len cap bx ⟨S.nc - 1, fun p => S.c (1 * 3 + p), S.nl, S.l, S.nw, S.k⟩ (.slice (if c0 = 1 then some ⟨g, oo, none⟩ else some ⟨g, oo + 1 * 3, none⟩) (S.nc - 1) (c0 - 1)) (.slice a1 S.nl c1) (.slice a2 S.nw c2) (c + 1) (w3.setCell ⟨bx, 0, none⟩ (.slice (if c0 = 1 then some ⟨g, oo, none⟩ else some ⟨g, oo + 1 * 3, none⟩) (S.nc - 1) (c0 - 1)))) := DrW.store0 (v := .slice (some ⟨g, oo, none⟩) S.nc c0) {
          src := HD.out.src
          but := HD.out.but
          res := HD.out.res
          box := HD.out.box
          st := ⟨HT, HD.out.own.st.2.1, HD.out.own.st.2.2⟩
          ne := fun u hu => by
            simp only [List.mem_cons, List.not_mem_nil, or_false] at hu
            rcases hu with rfl | rfl | rfl
            · have := HD.out.ne (.slice (some ⟨g, oo, none⟩) S.nc c0) (by simp)
              split
              · exact this
              · simpa [Value.ownBlock] using this
            · exact HD.out.ne _ (by simp)
            · exact HD.out.ne _ (by simp)
          sz := ⟨by have := HZ.out.1; show S.nc - 1 ≤ 202; omega, by have := HZ.out.2.1; show S.nl ≤ 202; omega, by have := HZ.out.2.2; show S.nw ≤ 202; omega⟩
          bl := HD.out.bl
          base := HD.out.base }
        clear HT
        by_cases hc1 : c0 = 1
        · rw [if_pos hc1] at HF
          rw [show S.nc - 1 = 0 by omega] at HF
          subst hc1
          go_wp2_with fail
          go_meet
          case rel => exact ⟨rfl, ⟨0, fun p => S.c (1 * 3 + p), S.nl, S.l, S.nw, S.k⟩, some ⟨g, oo, none⟩, 0, a1, c1, a2, c2, c + 1, ⟨by omega, by omega⟩, HF⟩
        · rw [if_neg hc1] at HF
          have dc1 : (c0 == 1) = false := beq_eq_false_iff_ne.2 hc1
          go_wp2_with fail
          go_meet
          case rel => exact ⟨rfl, ⟨S.nc - 1, fun p => S.c (1 * 3 + p), S.nl, S.l, S.nw, S.k⟩, some ⟨g, oo + 3, none⟩, c0 - 1, a1, c1, a2, c2, c + 1, ⟨by omega, by omega⟩, HF⟩
      · have dn : decide (0 < S.nc) = false := decide_eq_false hnc
        go_wp2_with fail
        go_meet
        case rel => exact ⟨rfl, S, a0, c0, a1, c1, a2, c2, _, ⟨by omega, by omega⟩, HD.out.f HZ.out⟩
    · obtain ⟨⟨t0, t1, t2⟩, f0, f1, f2⟩ := HD.out.box
      have hmk : ∀ w : World, (Instr.makeSlice 26 (.int .i64 201) (.int .i64 201)).run Tryz.prog w = .ok (.slice (some ⟨w.heap.size, 0, none⟩) 201 201) (w.alloc (.cells (madeCells #[.int .i64 0, .int .i64 0, .int .i64 0, .int .i64 0] 804) 38)) := make_row Tryz.underlying26 info_Write 201 (by omega) (by omega)
      have hlb : bx < w3.heap.size := HD.out.box.lt
      have HB := HD.out.later (below_alloc w3 (.cells (madeCells #[.int .i64 0, .int .i64 0, .int .i64 0, .int .i64 0] 804) 38))
      have HF : Hid (DrF w b o len cap bx ⟨S.nc, S.c, S.nl, S.l, 201, fun _ => 0⟩ (.slice a0 S.nc c0) (.slice a1 S.nl c1) (.slice (some ⟨w3.heap.size, 0, none⟩) 201 201) (c + 1) ((w3.alloc (.cells (madeCells #[.int .i64 0, .int .i64 0, .int .i64 0, .int .i64 0] 804) 38)).setCell ⟨bx, 2, none⟩ (.slice (some ⟨w3.heap.size, 0, none⟩) 201 201))) := DrW.store2 (v := .slice a2 S.nw c2) {
          src := HB.src
          but := HB.but
          res := HB.res
          box := HB.box
          st := ⟨HB.own.st.1, HB.own.st.2.1, row_zeros w3 _ (by have := HD.out.bl; omega)⟩
          ne := fun u hu => by
            simp only [List.mem_cons, List.not_mem_nil, or_false] at hu
            rcases hu with rfl | rfl | rfl
            · exact HD.out.ne _ (by simp)
            · exact HD.out.ne _ (by simp)
            · simp [Value.ownBlock]; omega
          sz := ⟨by have := HZ.out.1; show S.nc ≤ 202; omega, by have := HZ.out.2.1; show S.nl ≤ 202; omega, by show 201 ≤ 202; omega⟩
          bl := HD.out.bl
          base := HD.out.base }
      clear HB
      rw [World.setCell_alloc_past _ _ _ _ hlb] at HF
      go_wp2_with fail
      go_meet
      case rel => exact ⟨rfl, ⟨S.nc, S.c, S.nl, S.l, 201, fun _ => 0⟩, a0, c0, a1, c1, some ⟨w3.heap.size, 0, none⟩, 201, c + 1, ⟨by omega, by omega⟩, HF⟩
    · have d0 : (sw == 0) = false := beq_eq_false_iff_ne.2 (by omega)
      have d1 : (sw == 1) = false := beq_eq_false_iff_ne.2 (by omega)
      have d2 : (sw == 2) = false := beq_eq_false_iff_ne.2 (by omega)
      have d3 : (sw == 3) = false := beq_eq_false_iff_ne.2 (by omega)
      have d4 : (sw == 4) = false := beq_eq_false_iff_ne.2 (by omega)
      go_wp2_with fail
      go_meet
      case rel => exact ⟨rfl, S, a0, c0, a1, c1, a2, c2, _, ⟨by omega, by omega⟩, HD.out.f HZ.out⟩
  case rest =>
    clear HD HZ
    obtain ⟨rfl, T, a0, c0, a1, c1, a2, c2, e, he, HF⟩ := hcut
    obtain ⟨⟨r0, r1, r2⟩, f0, f1, f2⟩ := HF.out.res
    obtain ⟨⟨t0, t1, t2⟩, _⟩ := HF.out.box
    go_wp2
    have hlo : (w.heap.size : Nat) < w.heap.size + 1 := by omega
    refine bodyPost_ret (v := .agg #[.slice a0 T.nc c0, .slice a1 T.nl c1, .slice a2 T.nw c2]) (by simp [results, Tryz.results13, go_sem, r0, r1, r2]) rfl ⟨T, a0, c0, a1, c1, a2, c2, e, rfl, ⟨HF.out.sz, by omega⟩, (((HF.out.st.far hlo _).far hlo _).far hlo _).mono (by omega), ?_, ?_⟩
    · exact ((HF.out.src.setS H0.out HF.out.but (Nat.le_refl _) _ _).setS H0.out (HF.out.but.setS (Nat.le_refl _) _ _) (Nat.le_refl _) _ _).setS H0.out ((HF.out.but.setS (Nat.le_refl _) _ _).setS (Nat.le_refl _) _ _) (Nat.le_refl _) _ _
    · exact ((HF.out.but.setS (Nat.le_refl _) _ _).setS (Nat.le_refl _) _ _).setS (Nat.le_refl _) _ _
end Go.Proofs.YtnikdbebfofcaaaGreatDoor

namespace Go.Proofs.YtnikdbebfofcaaaGreatDoor
open Go.RowKit

theorem Row.butX {w w' : World} {b B m n : Nat} {F : Nat → Int} {v : Value} (h : Row w B m n F v) (hT : But b w w') (hb : b < B) : Row w' B m n F v :=
  h.turned hT (fun hn k hk e => by have := (h.lt hn k hk).1; have := Option.some.inj e; omega)
/-- A drawn store in its box, the answer's block still empty. -/
structure DrX (w : World) (b : Nat) (o : Option Addr) (len cap bx : Nat) (S : Sto) (v0 v1 v2 : Value) (a : Int) (x : World) : Prop where
  src : Src x b o len cap a
  bel : Below w.heap.size w x
  res : Blk3 x w.heap.size (.slice none 0 0) (.slice none 0 0) (.slice none 0 0)
  box : Blk3 x bx v0 v1 v2
  st : St x (b + 1) S v0 v1 v2
  sz : Sz2 S
  lo : w.heap.size < b
  bl : b < bx
  base : ∃ (w0 : World) (z : Int), Src w0 b o len cap z ∧ But b w0 x ∧ w0.heap.size ≤ bx
theorem DrX.step {w : World} {b : Nat} {o : Option Addr} {len cap bx : Nat} {S : Sto} {v0 v1 v2 : Value} {a a' : Int} {x x' : World} (h : DrX w b o len cap bx S v0 v1 v2 a x) (hT : But b x x') (hS : Src x' b o len cap a') : DrX w b o len cap bx S v0 v1 v2 a' x' where
  src := hS
  bel := Below.but h.bel hT h.bel.size (Nat.le_of_lt h.lo)
  res := h.res.butS hT (by have := h.lo; omega)
  box := h.box.butS hT (by have := h.bl; omega)
  st := ⟨h.st.1.butX hT (Nat.lt_succ_self _), h.st.2.1.butX hT (Nat.lt_succ_self _), h.st.2.2.butX hT (Nat.lt_succ_self _)⟩
  sz := h.sz
  lo := h.lo
  bl := h.bl
  base := by
    obtain ⟨w0, z0, s0, t0, l0⟩ := h.base
    exact ⟨w0, z0, s0, t0.trans hT, l0⟩
theorem DrX.later {w : World} {b : Nat} {o : Option Addr} {len cap bx : Nat} {S : Sto} {v0 v1 v2 : Value} {a : Int} {x x' : World} (h : DrX w b o len cap bx S v0 v1 v2 a x) (hb : Below x.heap.size x x') : DrX w b o len cap bx S v0 v1 v2 a x' :=
  h.step ((But.refl _ _).below hb) (h.src.later hb)
/-- The answer's block is laid: the store stands. -/
theorem DrX.out {w : World} {b : Nat} {o : Option Addr} {len cap bx : Nat} {S : Sto} {v0 v1 v2 : Value} {a : Int} {x : World} (h : DrX w b o len cap bx S v0 v1 v2 a x) (u0 u1 u2 : Value) :
    BoxS bx v0 v1 v2 (((x.setCell ⟨w.heap.size, 0, none⟩ u0).setCell ⟨w.heap.size, 1, none⟩ u1).setCell ⟨w.heap.size, 2, none⟩ u2) ∧ Blk3 (((x.setCell ⟨w.heap.size, 0, none⟩ u0).setCell ⟨w.heap.size, 1, none⟩ u1).setCell ⟨w.heap.size, 2, none⟩ u2) w.heap.size u0 u1 u2 ∧ St (((x.setCell ⟨w.heap.size, 0, none⟩ u0).setCell ⟨w.heap.size, 1, none⟩ u1).setCell ⟨w.heap.size, 2, none⟩ u2) w.heap.size S v0 v1 v2 ∧ Below w.heap.size w (((x.setCell ⟨w.heap.size, 0, none⟩ u0).setCell ⟨w.heap.size, 1, none⟩ u1).setCell ⟨w.heap.size, 2, none⟩ u2) := by
  have lo := h.lo
  have bl := h.bl
  have hf : ∀ j, (⟨w.heap.size, j, none⟩ : Addr).block < b + 1 := fun j => by show w.heap.size < b + 1; omega
  refine ⟨((h.box.setFar (by show bx ≠ w.heap.size; omega) _).setFar (by show bx ≠ w.heap.size; omega) _).setFar (by show bx ≠ w.heap.size; omega) _, ((h.res.set0 u0).set1 u1).set2 u2, (((h.st.far (hf 0) _).far (hf 1) _).far (hf 2) _).mono (by omega), ?_⟩
  exact ((h.bel.setCell (Nat.le_refl _) _).setCell (Nat.le_refl _) _).setCell (Nat.le_refl _) _
end Go.Proofs.YtnikdbebfofcaaaGreatDoor

namespace Go.Proofs.YtnikdbebfofcaaaGreatDoor
open Go.RowKit
/-- Row x and row y, by two numbers of each. -/
def Up2 (f g : List Int → Int) (x y : List Int) : Prop := Lt2 f g x y
instance (f g : List Int → Int) (x y : List Int) : Decidable (Up2 f g x y) := by unfold Up2 Lt2; exact inferInstance
theorem Up2.asym {f g : List Int → Int} {x y : List Int} (h : Up2 f g x y) : ¬ Up2 f g y x := by
  unfold Up2 Lt2 at *
  omega
theorem Up2.trans {f g : List Int → Int} {x y z : List Int} (h : Up2 f g x y) (h' : Up2 f g y z) : Up2 f g x z := by
  unfold Up2 Lt2 at *
  omega
/-- The numbers of rows, one behind the other. -/
def flatF (L : List (List Int)) : Nat → Int := fun p => L.flatten.getD p 0
theorem flatF_at {m : Nat} {L : List (List Int)} (hL : ∀ t ∈ L, t.length = m) {i q : Nat} (hi : i < L.length) (hq : q < m) : flatF L (i * m + q) = (L.getD i []).getD q 0 := by
  have hm : 0 < m := by omega
  have hlt : i * m + q < L.length * m := by
    calc i * m + q < i * m + m := by omega
      _ = (i + 1) * m := by rw [Nat.succ_mul]
      _ ≤ L.length * m := Nat.mul_le_mul_right m hi
  have e := flat_get (m := m) L (i * m + q) hL hlt
  have d1 : (i * m + q) / m = i := by rw [Nat.mul_comm, Nat.mul_add_div hm, Nat.div_eq_of_lt hq, Nat.add_zero]
  have d2 : (i * m + q) % m = q := by rw [Nat.mul_comm, Nat.mul_add_mod, Nat.mod_eq_of_lt hq]
  rw [d1, d2] at e
  exact e
/-- The rows of a row in memory. -/
def listF (m n : Nat) (F : Nat → Int) : List (List Int) := (List.range n).map (struD F m)
theorem listF_len (m n : Nat) (F : Nat → Int) : (listF m n F).length = n := by simp [listF]
theorem listF_mem {m n : Nat} {F : Nat → Int} {x : List Int} (h : x ∈ listF m n F) : ∃ i, i < n ∧ x = struD F m i := by
  obtain ⟨i, hi, e⟩ := List.mem_map.1 h
  exact ⟨i, List.mem_range.1 hi, e.symm⟩
theorem listF_all {m n : Nat} {F : Nat → Int} : ∀ t ∈ listF m n F, t.length = m := fun t ht => by
  obtain ⟨i, _, rfl⟩ := listF_mem ht
  exact struD_len F m i
theorem listF_at {m n : Nat} {F : Nat → Int} {i : Nat} (hi : i < n) : (listF m n F).getD i [] = struD F m i := by
  simp [listF, hi]
theorem listF_flat {m n : Nat} {F : Nat → Int} (hm : 0 < m) {p : Nat} (hp : p < n * m) : flatF (listF m n F) p = F p := by
  have hd : p / m < n := by rw [Nat.div_lt_iff_lt_mul hm]; exact hp
  have e := flatF_at (m := m) (L := listF m n F) listF_all (i := p / m) (q := p % m) (by rw [listF_len]; exact hd) (Nat.mod_lt _ hm)
  rw [listF_at hd, struD_get _ _ _ _ (Nat.mod_lt _ hm)] at e
  have e2 : p / m * m + p % m = p := by rw [Nat.mul_comm]; exact Nat.div_add_mod p m
  rw [e2] at e
  exact e
theorem getD_mem {L : List (List Int)} {i : Nat} (hi : i < L.length) : L.getD i [] ∈ L := by
  rw [List.getD_eq_getElem?_getD, List.getElem?_eq_getElem hi]
  exact List.getElem_mem hi
def k0 (x : List Int) : Int := x.getD 0 0
def k1 (x : List Int) : Int := x.getD 1 0
def kN (_ : List Int) : Int := 0
def goodC (x : List Int) : Prop := faultOf (x.getD 0 0) = 0 ∧ 1 ≤ x.getD 1 0 ∧ x.getD 1 0 ≤ 100000 ∧ 0 ≤ x.getD 2 0 ∧ x.getD 2 0 ≤ 9999
def goodL (x : List Int) : Prop := faultOf (x.getD 0 0) = 0 ∧ faultOf (x.getD 3 0) = 0 ∧ 1 ≤ x.getD 1 0 ∧ x.getD 1 0 ≤ 100000 ∧ 1 ≤ x.getD 2 0 ∧ x.getD 2 0 ≤ 3 ∧ 0 ≤ x.getD 4 0 ∧ x.getD 4 0 ≤ 100000
def goodW (x : List Int) : Prop := faultOf (x.getD 0 0) = 0 ∧ (1 ≤ x.getD 1 0 ∧ x.getD 1 0 ≤ 100000 ∧ 1 ≤ x.getD 2 0 ∧ x.getD 2 0 ≤ 100000 ∧ 1 ≤ x.getD 3 0 ∧ x.getD 3 0 ≤ 4) ∧ (x.getD 3 0 = 4 → x.getD 1 0 = x.getD 2 0) ∧ (x.getD 3 0 ≠ 4 → x.getD 2 0 < x.getD 1 0)
theorem cellF_list {L : List (List Int)} (hl : ∀ t ∈ L, t.length = 3) (hg : ∀ t ∈ L, goodC t) {i : Nat} (hi : i < L.length) : cellF (flatF L) i = if 0 < i ∧ ¬ Up2 k0 k1 (L.getD (i - 1) []) (L.getD i []) then 1 else 0 := by
  have hx := hg _ (getD_mem hi)
  have e0 : flatF L (i * 3) = (L.getD i []).getD 0 0 := flatF_at hl hi (by omega : 0 < 3)
  have e1 : flatF L (i * 3 + 1) = (L.getD i []).getD 1 0 := flatF_at hl hi (by omega)
  have e2 : flatF L (i * 3 + 2) = (L.getD i []).getD 2 0 := flatF_at hl hi (by omega)
  have f0 : flatF L ((i - 1) * 3) = (L.getD (i - 1) []).getD 0 0 := flatF_at hl (by omega) (by omega : 0 < 3)
  have f1 : flatF L ((i - 1) * 3 + 1) = (L.getD (i - 1) []).getD 1 0 := flatF_at hl (by omega) (by omega)
  unfold cellF
  rw [e0, e1, e2, f0, f1, if_neg (fun q => q hx.1), if_neg (fun q => q hx.2)]
  unfold Up2 Lt2 k0 k1
  rfl
theorem lockF_list {L : List (List Int)} (hl : ∀ t ∈ L, t.length = 5) (hg : ∀ t ∈ L, goodL t) {i : Nat} (hi : i < L.length) : lockF (flatF L) i = if 0 < i ∧ ¬ Up2 k0 kN (L.getD (i - 1) []) (L.getD i []) then 1 else 0 := by
  have hx := hg _ (getD_mem hi)
  have e0 : flatF L (i * 5) = (L.getD i []).getD 0 0 := flatF_at hl hi (by omega : 0 < 5)
  have e1 : flatF L (i * 5 + 1) = (L.getD i []).getD 1 0 := flatF_at hl hi (by omega)
  have e2 : flatF L (i * 5 + 2) = (L.getD i []).getD 2 0 := flatF_at hl hi (by omega)
  have e3 : flatF L (i * 5 + 3) = (L.getD i []).getD 3 0 := flatF_at hl hi (by omega)
  have e4 : flatF L (i * 5 + 4) = (L.getD i []).getD 4 0 := flatF_at hl hi (by omega)
  have f0 : flatF L ((i - 1) * 5) = (L.getD (i - 1) []).getD 0 0 := flatF_at hl (by omega) (by omega : 0 < 5)
  unfold lockF
  rw [e0, e1, e2, e3, e4, f0, if_neg (fun q => q hx.1), if_neg (fun q => q hx.2.1), if_neg (fun q => q hx.2.2)]
  have hu : ∀ x y : List Int, Up2 k0 kN x y ↔ x.getD 0 0 < y.getD 0 0 := fun x y => by
    unfold Up2 Lt2 k0 kN
    omega
  by_cases q : 0 < i ∧ ¬ Up2 k0 kN (L.getD (i - 1) []) (L.getD i [])
  · rw [if_pos q, if_pos ⟨q.1, fun r => q.2 ((hu _ _).2 r)⟩]
  · rw [if_neg q, if_neg (fun r => q ⟨r.1, fun u => r.2 ((hu _ _).1 u)⟩)]
theorem writeF_list {L : List (List Int)} (hl : ∀ t ∈ L, t.length = 4) (hg : ∀ t ∈ L, goodW t) {i : Nat} (hi : i < L.length) : writeF (flatF L) i = if 0 < i ∧ ¬ Up2 k0 k1 (L.getD (i - 1) []) (L.getD i []) then 1 else 0 := by
  have hx := hg _ (getD_mem hi)
  have e0 : flatF L (i * 4) = (L.getD i []).getD 0 0 := flatF_at hl hi (by omega : 0 < 4)
  have e1 : flatF L (i * 4 + 1) = (L.getD i []).getD 1 0 := flatF_at hl hi (by omega)
  have e2 : flatF L (i * 4 + 2) = (L.getD i []).getD 2 0 := flatF_at hl hi (by omega)
  have e3 : flatF L (i * 4 + 3) = (L.getD i []).getD 3 0 := flatF_at hl hi (by omega)
  have f0 : flatF L ((i - 1) * 4) = (L.getD (i - 1) []).getD 0 0 := flatF_at hl (by omega) (by omega : 0 < 4)
  have f1 : flatF L ((i - 1) * 4 + 1) = (L.getD (i - 1) []).getD 1 0 := flatF_at hl (by omega) (by omega)
  have hf : fits (flatF L) i := by
    unfold fits
    rw [e1, e2, e3]
    exact hx.2.2
  unfold writeF
  rw [e0, e1, e2, e3, f0, f1, if_neg (fun q => q hx.1), if_neg (fun q => q hx.2.1)]
  by_cases q : 0 < i ∧ ¬ Up2 k0 k1 (L.getD (i - 1) []) (L.getD i [])
  · rw [if_pos q]
    exact if_pos (Or.inl q)
  · rw [if_neg q]
    exact if_neg (fun r => r.elim (fun u => q u) (fun u => u hf))
/-- A store of three lists of rows. -/
def stoOf (P Q R : List (List Int)) : Sto := ⟨P.length, flatF P, Q.length, flatF Q, R.length, flatF R⟩
theorem goodC_of {S : Sto} (h : scan (cellF S.c) S.nc = 0) : ∀ t ∈ listF 3 S.nc S.c, goodC t := fun t ht => by
  obtain ⟨i, hi, rfl⟩ := listF_mem ht
  have hz := cellF_zero (scan_zero h i hi)
  unfold goodC
  rw [struD_get _ _ _ _ (by omega), struD_get _ _ _ _ (by omega), struD_get _ _ _ _ (by omega)]
  exact hz
theorem goodL_of {S : Sto} (h : scan (lockF S.l) S.nl = 0) : ∀ t ∈ listF 5 S.nl S.l, goodL t := fun t ht => by
  obtain ⟨i, hi, rfl⟩ := listF_mem ht
  have hz := scan_zero h i hi
  unfold goodL
  rw [struD_get _ _ _ _ (by omega), struD_get _ _ _ _ (by omega), struD_get _ _ _ _ (by omega), struD_get _ _ _ _ (by omega), struD_get _ _ _ _ (by omega)]
  unfold lockF at hz
  rw [Nat.add_zero]
  by_cases h1 : faultOf (S.l (i * 5)) = 0
  case neg => rw [if_pos h1] at hz; exact absurd hz h1
  rw [if_neg (fun q => q h1)] at hz
  by_cases h2 : faultOf (S.l (i * 5 + 3)) = 0
  case neg => rw [if_pos h2] at hz; exact absurd hz h2
  rw [if_neg (fun q => q h2)] at hz
  by_cases h3 : 1 ≤ S.l (i * 5 + 1) ∧ S.l (i * 5 + 1) ≤ 100000 ∧ 1 ≤ S.l (i * 5 + 2) ∧ S.l (i * 5 + 2) ≤ 3 ∧ 0 ≤ S.l (i * 5 + 4) ∧ S.l (i * 5 + 4) ≤ 100000
  case neg => rw [if_pos h3] at hz; exact absurd hz (by decide)
  exact ⟨h1, h2, h3⟩
theorem goodW_of {S : Sto} (h : scan (writeF S.k) S.nw = 0) : ∀ t ∈ listF 4 S.nw S.k, goodW t := fun t ht => by
  obtain ⟨i, hi, rfl⟩ := listF_mem ht
  have hz := scan_zero h i hi
  have ha := writeF_zero hz
  unfold goodW
  rw [struD_get _ _ _ _ (by omega), struD_get _ _ _ _ (by omega), struD_get _ _ _ _ (by omega), struD_get _ _ _ _ (by omega)]
  rw [Nat.add_zero]
  refine ⟨ha.1, ha.2, ?_⟩
  unfold writeF at hz
  rw [if_neg (fun q => q ha.1), if_neg (fun q => q ha.2)] at hz
  by_cases hf : fits S.k i
  · exact hf
  · rw [if_pos (Or.inr hf)] at hz
    exact absurd hz (by decide)
end Go.Proofs.YtnikdbebfofcaaaGreatDoor

namespace Go.Proofs.YtnikdbebfofcaaaGreatDoor
open Go.RowKit

/-- Two rows are alike. -/
def Alike (m n : Nat) (F : Nat → Int) (n' : Nat) (G : Nat → Int) : Prop := n = n' ∧ ∀ p, p < n * m → F p = G p
/-- Of the first k elements all numbers are alike. -/
def Upto (N : Nat) (F G : Nat → Int) : Prop := ∀ p, p < N → F p = G p
theorem neqCell (x0 x1 x2 y0 y1 y2 : Int) (r : Bool) (hr : decide (x0 = y0 ∧ x1 = y1 ∧ x2 = y2) = r) (w : World) : (binOp .neq 75 (.agg #[.int .i64 x0, .int .i64 x1, .int .i64 x2]) (.agg #[.int .i64 y0, .int .i64 y1, .int .i64 y2])).run Tryz.prog w = .ok (.bool (!r)) w := by
  have hS : Tryz.prog.underlying 75 = some (.struct (Tryz.prog.fieldsOf 75)) := by kernel_rfl
  have hp : Tryz.prog.stoodInHeld 75 = false := by kernel_rfl
  have u2 := Tryz.underlying2
  have a2 := Tryz.isAgg2
  have z2 := Tryz.sizeOf2
  rw [run_neq_struct, show (10000 : Nat) = 9999 + 1 from rfl, run_equalIn_agg w 9999 _ _ _ hS hp]
  simp only [Program.fieldsOf, Tryz.underlying75]
  subst hr
  go_simp
  by_cases h0 : x0 = y0 <;> by_cases h1 : x1 = y1 <;> by_cases h2 : x2 = y2 <;> simp [h0, h1, h2]

theorem neqLock (x0 x1 x2 x3 x4 y0 y1 y2 y3 y4 : Int) (r : Bool) (hr : decide (x0 = y0 ∧ x1 = y1 ∧ x2 = y2 ∧ x3 = y3 ∧ x4 = y4) = r) (w : World) : (binOp .neq 61 (.agg #[.int .i64 x0, .int .i64 x1, .int .i64 x2, .int .i64 x3, .int .i64 x4]) (.agg #[.int .i64 y0, .int .i64 y1, .int .i64 y2, .int .i64 y3, .int .i64 y4])).run Tryz.prog w = .ok (.bool (!r)) w := by
  have hS : Tryz.prog.underlying 61 = some (.struct (Tryz.prog.fieldsOf 61)) := by kernel_rfl
  have hp : Tryz.prog.stoodInHeld 61 = false := by kernel_rfl
  have u2 := Tryz.underlying2
  have a2 := Tryz.isAgg2
  have z2 := Tryz.sizeOf2
  rw [run_neq_struct, show (10000 : Nat) = 9999 + 1 from rfl, run_equalIn_agg w 9999 _ _ _ hS hp]
  simp only [Program.fieldsOf, Tryz.underlying61]
  subst hr
  go_simp
  by_cases h0 : x0 = y0 <;> by_cases h1 : x1 = y1 <;> by_cases h2 : x2 = y2 <;> by_cases h3 : x3 = y3 <;> by_cases h4 : x4 = y4 <;> simp [h0, h1, h2, h3, h4]

theorem neqWrite (x0 x1 x2 x3 y0 y1 y2 y3 : Int) (r : Bool) (hr : decide (x0 = y0 ∧ x1 = y1 ∧ x2 = y2 ∧ x3 = y3) = r) (w : World) : (binOp .neq 38 (.agg #[.int .i64 x0, .int .i64 x1, .int .i64 x2, .int .i64 x3]) (.agg #[.int .i64 y0, .int .i64 y1, .int .i64 y2, .int .i64 y3])).run Tryz.prog w = .ok (.bool (!r)) w := by
  have hS : Tryz.prog.underlying 38 = some (.struct (Tryz.prog.fieldsOf 38)) := by kernel_rfl
  have hp : Tryz.prog.stoodInHeld 38 = false := by kernel_rfl
  have u2 := Tryz.underlying2
  have a2 := Tryz.isAgg2
  have z2 := Tryz.sizeOf2
  rw [run_neq_struct, show (10000 : Nat) = 9999 + 1 from rfl, run_equalIn_agg w 9999 _ _ _ hS hp]
  simp only [Program.fieldsOf, Tryz.underlying38]
  subst hr
  go_simp
  by_cases h0 : x0 = y0 <;> by_cases h1 : x1 = y1 <;> by_cases h2 : x2 = y2 <;> by_cases h3 : x3 = y3 <;> simp [h0, h1, h2, h3]

theorem uptoCell {k : Nat} {F G : Nat → Int} (hU : Hid (Upto (k * 3) F G)) (he : F (k * 3) = G (k * 3) ∧ F (k * 3 + 1) = G (k * 3 + 1) ∧ F (k * 3 + 2) = G (k * 3 + 2)) : Upto ((k + 1) * 3) F G := fun p hp => by
        rcases Nat.lt_or_ge p (k * 3) with h | h
        · exact hU.out p h
        · obtain rfl | rfl | rfl : p = k * 3 ∨ p = k * 3 + 1 ∨ p = k * 3 + 2 := by omega
          · exact he.1
          · exact he.2.1
          · exact he.2.2

set_option maxHeartbeats 1000000 in
theorem equalCell_any (va vb : Value) (Ba Bb n n' : Nat) (F G : Nat → Int) (r : Bool) (w : World) (ha : Row w Ba 3 n F va) (hb : Row w Bb 3 n' G vb) (hn : n ≤ 1048576) (hn' : n' ≤ 1048576) (hr : r = true ↔ Alike 3 n F n' G) :
    Calls Tryz.prog 35 #[va, vb] w fun e w' => e = .returned (.bool r) ∧ ∃ q, w' = w.drewN q := by
  obtain ⟨ao, ca, rfl⟩ := ha.form
  obtain ⟨bo, cb, rfl⟩ := hb.form
  have HA : Hid (Row w Ba 3 n F (.slice ao n ca)) := ha
  have HB : Hid (Row w Bb 3 n' G (.slice bo n' cb)) := hb
  have HR : Hid (r = true ↔ Alike 3 n F n' G) := hr
  clear ha hb hr
  have hgd : Tryz.prog.eqGuardType Tryz.prog.depth 75 = false := by kernel_rfl
  by_cases hne : n = n'
  case neg =>
    have E : Hid (r = false) := by
      cases r with
      | false => rfl
      | true => exact absurd (HR.out.1 rfl).1 hne
    have d : ((n : Int) != (n' : Int)) = true := bne_iff_ne.2 (by omega)
    clear hne hn hn' hgd HA HB HR
    go_enter Tryz.func35, Tryz.ntmps35
    go_wp2
    go_ret
    exact ⟨by rw [E.out]; rfl, 0, rfl⟩
  subst hne
  go_enter Tryz.func35, Tryz.ntmps35
  go_wp2
  go_loopw [13] (fun i wr => ∃ k q : Nat, k ≤ n ∧ i = .int .i64 k ∧ Hid (Upto (k * 3) F G) ∧ wr = w.drewN q) (fun i _ => n - (intOf i).toNat)
  case atStart => exact ⟨0, 0, Nat.zero_le _, rfl, fun p hp => absurd hp (by omega), rfl⟩
  case round =>
    obtain ⟨k, q, hk, rfl, hU, rfl⟩ := hrel
    by_cases hlt : k < n
    · obtain ⟨g, o, rfl, _, hg, c0, c1, c2⟩ := HA.out.at3 hlt
      obtain ⟨g', o', rfl, _, hg', d0, d1, d2⟩ := HB.out.at3 hlt
      by_cases he : F (k * 3) = G (k * 3) ∧ F (k * 3 + 1) = G (k * 3 + 1) ∧ F (k * 3 + 2) = G (k * 3 + 2)
      · have hq := neqCell (F (k * 3)) (F (k * 3 + 1)) (F (k * 3 + 2)) (G (k * 3)) (G (k * 3 + 1)) (G (k * 3 + 2)) true (decide_eq_true he)
        have hU2 : Hid (Upto ((k + 1) * 3) F G) := uptoCell hU he
        clear he hU
        go_wp2
        go_quiet (fail)
        go_wp2
        go_roundw
        case rel => exact ⟨k + 1, _, by omega, by go_num, hU2, rfl⟩
        case measure => simp [intOf]; omega
      · have hq := neqCell (F (k * 3)) (F (k * 3 + 1)) (F (k * 3 + 2)) (G (k * 3)) (G (k * 3 + 1)) (G (k * 3 + 2)) false (decide_eq_false he)
        have E : Hid (r = false) := by
          cases r with
          | false => rfl
          | true =>
            have h := (HR.out.1 rfl).2
            exact absurd ⟨h _ (by omega), h _ (by omega), h _ (by omega)⟩ he
        clear he hU
        go_wp2
        go_quiet (fail)
        go_wp2
        go_ret
        exact ⟨by rw [E.out]; rfl, _, World.drewN_drewN _ _ _⟩
    · obtain rfl : k = n := by omega
      have E : Hid (r = true) := HR.out.2 ⟨rfl, hU.out⟩
      clear hU
      go_wp2
      go_ret
      exact ⟨by rw [E.out]; rfl, _, rfl⟩

theorem uptoLock {k : Nat} {F G : Nat → Int} (hU : Hid (Upto (k * 5) F G)) (he : F (k * 5) = G (k * 5) ∧ F (k * 5 + 1) = G (k * 5 + 1) ∧ F (k * 5 + 2) = G (k * 5 + 2) ∧ F (k * 5 + 3) = G (k * 5 + 3) ∧ F (k * 5 + 4) = G (k * 5 + 4)) : Upto ((k + 1) * 5) F G := fun p hp => by
        rcases Nat.lt_or_ge p (k * 5) with h | h
        · exact hU.out p h
        · obtain rfl | rfl | rfl | rfl | rfl : p = k * 5 ∨ p = k * 5 + 1 ∨ p = k * 5 + 2 ∨ p = k * 5 + 3 ∨ p = k * 5 + 4 := by omega
          · exact he.1
          · exact he.2.1
          · exact he.2.2.1
          · exact he.2.2.2.1
          · exact he.2.2.2.2

set_option maxHeartbeats 1000000 in
theorem equalLock_any (va vb : Value) (Ba Bb n n' : Nat) (F G : Nat → Int) (r : Bool) (w : World) (ha : Row w Ba 5 n F va) (hb : Row w Bb 5 n' G vb) (hn : n ≤ 1048576) (hn' : n' ≤ 1048576) (hr : r = true ↔ Alike 5 n F n' G) :
    Calls Tryz.prog 36 #[va, vb] w fun e w' => e = .returned (.bool r) ∧ ∃ q, w' = w.drewN q := by
  obtain ⟨ao, ca, rfl⟩ := ha.form
  obtain ⟨bo, cb, rfl⟩ := hb.form
  have HA : Hid (Row w Ba 5 n F (.slice ao n ca)) := ha
  have HB : Hid (Row w Bb 5 n' G (.slice bo n' cb)) := hb
  have HR : Hid (r = true ↔ Alike 5 n F n' G) := hr
  clear ha hb hr
  have hgd : Tryz.prog.eqGuardType Tryz.prog.depth 61 = false := by kernel_rfl
  by_cases hne : n = n'
  case neg =>
    have E : Hid (r = false) := by
      cases r with
      | false => rfl
      | true => exact absurd (HR.out.1 rfl).1 hne
    have d : ((n : Int) != (n' : Int)) = true := bne_iff_ne.2 (by omega)
    clear hne hn hn' hgd HA HB HR
    go_enter Tryz.func36, Tryz.ntmps36
    go_wp2
    go_ret
    exact ⟨by rw [E.out]; rfl, 0, rfl⟩
  subst hne
  go_enter Tryz.func36, Tryz.ntmps36
  go_wp2
  go_loopw [13] (fun i wr => ∃ k q : Nat, k ≤ n ∧ i = .int .i64 k ∧ Hid (Upto (k * 5) F G) ∧ wr = w.drewN q) (fun i _ => n - (intOf i).toNat)
  case atStart => exact ⟨0, 0, Nat.zero_le _, rfl, fun p hp => absurd hp (by omega), rfl⟩
  case round =>
    obtain ⟨k, q, hk, rfl, hU, rfl⟩ := hrel
    by_cases hlt : k < n
    · obtain ⟨g, o, rfl, _, hg, c0, c1, c2, c3, c4⟩ := HA.out.at5 hlt
      obtain ⟨g', o', rfl, _, hg', d0, d1, d2, d3, d4⟩ := HB.out.at5 hlt
      by_cases he : F (k * 5) = G (k * 5) ∧ F (k * 5 + 1) = G (k * 5 + 1) ∧ F (k * 5 + 2) = G (k * 5 + 2) ∧ F (k * 5 + 3) = G (k * 5 + 3) ∧ F (k * 5 + 4) = G (k * 5 + 4)
      · have hq := neqLock (F (k * 5)) (F (k * 5 + 1)) (F (k * 5 + 2)) (F (k * 5 + 3)) (F (k * 5 + 4)) (G (k * 5)) (G (k * 5 + 1)) (G (k * 5 + 2)) (G (k * 5 + 3)) (G (k * 5 + 4)) true (decide_eq_true he)
        have hU2 : Hid (Upto ((k + 1) * 5) F G) := uptoLock hU he
        clear he hU
        go_wp2
        go_quiet (fail)
        go_wp2
        go_roundw
        case rel => exact ⟨k + 1, _, by omega, by go_num, hU2, rfl⟩
        case measure => simp [intOf]; omega
      · have hq := neqLock (F (k * 5)) (F (k * 5 + 1)) (F (k * 5 + 2)) (F (k * 5 + 3)) (F (k * 5 + 4)) (G (k * 5)) (G (k * 5 + 1)) (G (k * 5 + 2)) (G (k * 5 + 3)) (G (k * 5 + 4)) false (decide_eq_false he)
        have E : Hid (r = false) := by
          cases r with
          | false => rfl
          | true =>
            have h := (HR.out.1 rfl).2
            exact absurd ⟨h _ (by omega), h _ (by omega), h _ (by omega), h _ (by omega), h _ (by omega)⟩ he
        clear he hU
        go_wp2
        go_quiet (fail)
        go_wp2
        go_ret
        exact ⟨by rw [E.out]; rfl, _, World.drewN_drewN _ _ _⟩
    · obtain rfl : k = n := by omega
      have E : Hid (r = true) := HR.out.2 ⟨rfl, hU.out⟩
      clear hU
      go_wp2
      go_ret
      exact ⟨by rw [E.out]; rfl, _, rfl⟩

theorem uptoWrite {k : Nat} {F G : Nat → Int} (hU : Hid (Upto (k * 4) F G)) (he : F (k * 4) = G (k * 4) ∧ F (k * 4 + 1) = G (k * 4 + 1) ∧ F (k * 4 + 2) = G (k * 4 + 2) ∧ F (k * 4 + 3) = G (k * 4 + 3)) : Upto ((k + 1) * 4) F G := fun p hp => by
        rcases Nat.lt_or_ge p (k * 4) with h | h
        · exact hU.out p h
        · obtain rfl | rfl | rfl | rfl : p = k * 4 ∨ p = k * 4 + 1 ∨ p = k * 4 + 2 ∨ p = k * 4 + 3 := by omega
          · exact he.1
          · exact he.2.1
          · exact he.2.2.1
          · exact he.2.2.2

set_option maxHeartbeats 1000000 in
theorem equalWrite_any (va vb : Value) (Ba Bb n n' : Nat) (F G : Nat → Int) (r : Bool) (w : World) (ha : Row w Ba 4 n F va) (hb : Row w Bb 4 n' G vb) (hn : n ≤ 1048576) (hn' : n' ≤ 1048576) (hr : r = true ↔ Alike 4 n F n' G) :
    Calls Tryz.prog 37 #[va, vb] w fun e w' => e = .returned (.bool r) ∧ ∃ q, w' = w.drewN q := by
  obtain ⟨ao, ca, rfl⟩ := ha.form
  obtain ⟨bo, cb, rfl⟩ := hb.form
  have HA : Hid (Row w Ba 4 n F (.slice ao n ca)) := ha
  have HB : Hid (Row w Bb 4 n' G (.slice bo n' cb)) := hb
  have HR : Hid (r = true ↔ Alike 4 n F n' G) := hr
  clear ha hb hr
  have hgd : Tryz.prog.eqGuardType Tryz.prog.depth 38 = false := by kernel_rfl
  by_cases hne : n = n'
  case neg =>
    have E : Hid (r = false) := by
      cases r with
      | false => rfl
      | true => exact absurd (HR.out.1 rfl).1 hne
    have d : ((n : Int) != (n' : Int)) = true := bne_iff_ne.2 (by omega)
    clear hne hn hn' hgd HA HB HR
    go_enter Tryz.func37, Tryz.ntmps37
    go_wp2
    go_ret
    exact ⟨by rw [E.out]; rfl, 0, rfl⟩
  subst hne
  go_enter Tryz.func37, Tryz.ntmps37
  go_wp2
  go_loopw [13] (fun i wr => ∃ k q : Nat, k ≤ n ∧ i = .int .i64 k ∧ Hid (Upto (k * 4) F G) ∧ wr = w.drewN q) (fun i _ => n - (intOf i).toNat)
  case atStart => exact ⟨0, 0, Nat.zero_le _, rfl, fun p hp => absurd hp (by omega), rfl⟩
  case round =>
    obtain ⟨k, q, hk, rfl, hU, rfl⟩ := hrel
    by_cases hlt : k < n
    · obtain ⟨g, o, rfl, _, hg, c0, c1, c2, c3⟩ := HA.out.at4 hlt
      obtain ⟨g', o', rfl, _, hg', d0, d1, d2, d3⟩ := HB.out.at4 hlt
      by_cases he : F (k * 4) = G (k * 4) ∧ F (k * 4 + 1) = G (k * 4 + 1) ∧ F (k * 4 + 2) = G (k * 4 + 2) ∧ F (k * 4 + 3) = G (k * 4 + 3)
      · have hq := neqWrite (F (k * 4)) (F (k * 4 + 1)) (F (k * 4 + 2)) (F (k * 4 + 3)) (G (k * 4)) (G (k * 4 + 1)) (G (k * 4 + 2)) (G (k * 4 + 3)) true (decide_eq_true he)
        have hU2 : Hid (Upto ((k + 1) * 4) F G) := uptoWrite hU he
        clear he hU
        go_wp2
        go_quiet (fail)
        go_wp2
        go_roundw
        case rel => exact ⟨k + 1, _, by omega, by go_num, hU2, rfl⟩
        case measure => simp [intOf]; omega
      · have hq := neqWrite (F (k * 4)) (F (k * 4 + 1)) (F (k * 4 + 2)) (F (k * 4 + 3)) (G (k * 4)) (G (k * 4 + 1)) (G (k * 4 + 2)) (G (k * 4 + 3)) false (decide_eq_false he)
        have E : Hid (r = false) := by
          cases r with
          | false => rfl
          | true =>
            have h := (HR.out.1 rfl).2
            exact absurd ⟨h _ (by omega), h _ (by omega), h _ (by omega), h _ (by omega)⟩ he
        clear he hU
        go_wp2
        go_quiet (fail)
        go_wp2
        go_ret
        exact ⟨by rw [E.out]; rfl, _, World.drewN_drewN _ _ _⟩
    · obtain rfl : k = n := by omega
      have E : Hid (r = true) := HR.out.2 ⟨rfl, hU.out⟩
      clear hU
      go_wp2
      go_ret
      exact ⟨by rw [E.out]; rfl, _, rfl⟩
end Go.Proofs.YtnikdbebfofcaaaGreatDoor

namespace Go.Proofs.YtnikdbebfofcaaaGreatDoor
open Go.RowKit
set_option linter.unusedVariables false

def SameS (S T : Sto) : Prop := Alike 3 S.nc S.c T.nc T.c ∧ Alike 5 S.nl S.l T.nl T.l ∧ Alike 4 S.nw S.k T.nw T.k
theorem below_drewN {B : Nat} {a w : World} (h : Below B a w) (q : Nat) : Below B a (w.drewN q) := ⟨h.os, h.tape, h.output, h.size, h.block⟩

set_option maxHeartbeats 1000000 in
theorem implSame_any (S T : Sto) (v0 v1 v2 u0 u1 u2 : Value) (B B' : Nat) (r : Bool) (w : World) (h : St w B S v0 v1 v2) (h' : St w B' T u0 u1 u2) (hc : S.nc ≤ 1048576) (hl : S.nl ≤ 1048576) (hk : S.nw ≤ 1048576) (hc' : T.nc ≤ 1048576) (hl' : T.nl ≤ 1048576) (hk' : T.nw ≤ 1048576) (hr : r = true ↔ SameS S T) :
    Calls Tryz.prog 11 #[.agg #[v0, v1, v2], .agg #[u0, u1, u2]] w fun e w' => e = .returned (.bool r) ∧ Below w.heap.size w w' := by
  obtain ⟨a0, c0, a1, c1, a2, c2, rfl, rfl, rfl⟩ := h.form
  obtain ⟨b0, d0, b1, d1, b2, d2, rfl, rfl, rfl⟩ := h'.form
  have H : Hid (St w B S (.slice a0 S.nc c0) (.slice a1 S.nl c1) (.slice a2 S.nw c2)) := h
  have H' : Hid (St w B' T (.slice b0 T.nc d0) (.slice b1 T.nl d1) (.slice b2 T.nw d2)) := h'
  have HR : Hid (r = true ↔ SameS S T) := hr
  clear h h' hr
  by_cases h0 : Alike 3 S.nc S.c T.nc T.c
  case neg =>
    have E : Hid (r = false) := by
      cases r with
      | false => rfl
      | true => exact absurd (HR.out.1 rfl).1 h0
    have H0 : Hid (¬ Alike 3 S.nc S.c T.nc T.c) := h0
    clear h0
    go_enter Tryz.func11, Tryz.ntmps11
    go_wp2_with fail
    refine (equalCell_any _ _ B B' _ _ _ _ false _ ((H.out.1.alloc _).alloc _) ((H'.out.1.alloc _).alloc _) hc hc' ⟨fun h => absurd h (by decide), fun h => absurd h H0.out⟩).mono ?_
    rintro e w1 ⟨rfl, q, rfl⟩
    go_wp2
    go_ret
    exact ⟨by rw [E.out]; rfl, below_drewN ((below_alloc _ _).alloc (by simp) _) q⟩
  have H0 : Hid (Alike 3 S.nc S.c T.nc T.c) := h0
  clear h0
  by_cases h1 : Alike 5 S.nl S.l T.nl T.l
  case neg =>
    have E : Hid (r = false) := by
      cases r with
      | false => rfl
      | true => exact absurd (HR.out.1 rfl).2.1 h1
    have H1 : Hid (¬ Alike 5 S.nl S.l T.nl T.l) := h1
    clear h1
    go_enter Tryz.func11, Tryz.ntmps11
    go_wp2_with fail
    refine (equalCell_any _ _ B B' _ _ _ _ true _ ((H.out.1.alloc _).alloc _) ((H'.out.1.alloc _).alloc _) hc hc' ⟨fun _ => H0.out, fun _ => rfl⟩).mono ?_
    rintro e w1 ⟨rfl, q, rfl⟩
    go_wp2_with fail
    refine (equalLock_any _ _ B B' _ _ _ _ false _ (((H.out.2.1.alloc _).alloc _).drewN q) (((H'.out.2.1.alloc _).alloc _).drewN q) hl hl' ⟨fun h => absurd h (by decide), fun h => absurd h H1.out⟩).mono ?_
    rintro e w1 ⟨rfl, q2, rfl⟩
    go_wp2
    go_ret
    exact ⟨by rw [E.out]; rfl, by first | exact below_drewN ((below_alloc _ _).alloc (by simp) _) _ | exact below_drewN (below_drewN ((below_alloc _ _).alloc (by simp) _) _) _⟩
  have H1 : Hid (Alike 5 S.nl S.l T.nl T.l) := h1
  clear h1
  have HR3 : Hid (r = true ↔ Alike 4 S.nw S.k T.nw T.k) := ⟨fun h => (HR.out.1 h).2.2, fun h => HR.out.2 ⟨H0.out, H1.out, h⟩⟩
  go_enter Tryz.func11, Tryz.ntmps11
  go_wp2_with fail
  refine (equalCell_any _ _ B B' _ _ _ _ true _ ((H.out.1.alloc _).alloc _) ((H'.out.1.alloc _).alloc _) hc hc' ⟨fun _ => H0.out, fun _ => rfl⟩).mono ?_
  rintro e w1 ⟨rfl, q, rfl⟩
  go_wp2_with fail
  refine (equalLock_any _ _ B B' _ _ _ _ true _ (((H.out.2.1.alloc _).alloc _).drewN q) (((H'.out.2.1.alloc _).alloc _).drewN q) hl hl' ⟨fun _ => H1.out, fun _ => rfl⟩).mono ?_
  rintro e w1 ⟨rfl, q2, rfl⟩
  go_wp2_with fail
  refine (equalWrite_any _ _ B B' _ _ _ _ r _ (((H.out.2.2.alloc _).alloc _).drewN (q + q2)) (((H'.out.2.2.alloc _).alloc _).drewN (q + q2)) hk hk' HR3.out).mono ?_
  rintro e w1 ⟨rfl, q3, rfl⟩
  go_wp2
  go_ret
  exact ⟨rfl, by first | exact below_drewN ((below_alloc _ _).alloc (by simp) _) _ | exact below_drewN (below_drewN ((below_alloc _ _).alloc (by simp) _) _) _ | exact below_drewN (below_drewN (below_drewN ((below_alloc _ _).alloc (by simp) _) _) _) _⟩

end Go.Proofs.YtnikdbebfofcaaaGreatDoor

