/-
  Own text, merged of PlnE, FtrC, TreM, TreN, TreO, TreP, DgtA, TrtA, TrtB, TrtC.
-/
import Derived.Test.YtbpppaolcgibnaaGreatDoorPk5
namespace Go.Proofs.YtbpppaolcgibnaaGreatDoor
open Go.RowKit

theorem intsCg (x : World) (g : Nat) (hg : x.heap.size = g) : Ints (x.alloc (.cells #[.int .i64 0, .int .i64 5, .int .i64 1000, .int .i64 2001, .int .i64 9999] 2)) g (.slice (some ⟨g, 0, none⟩) 5 5) [0, 5, 1000, 2001, 9999] := hg ▸ World.ownsRow_lit x #[.int .i64 0, .int .i64 5, .int .i64 1000, .int .i64 2001, .int .i64 9999] 5 (Nat.le_refl _) (by decide) rfl
theorem accS_two (L : Prs) (k x : Int) (has : Bool) : ∀ i, (accS L k x has i).1.length ≤ 2 * i
  | 0 => by simp [accS]
  | i + 1 => by
    have := accS_two L k x has i
    rw [accS]
    unfold stepS
    split <;> (try split) <;> simp <;> omega
theorem setS_len (L : Prs) (k x : Int) (has : Bool) : (setS L k x has).length ≤ 2 * L.length + 1 := by
  have := accS_two L k x has L.length
  unfold setS
  split
  · omega
  · simp; omega
/-- A view that was drawn. -/
def DrV (w : World) (b : Nat) (o : Option Addr) (len cap : Nat) (a : Int) (n : Nat) (v : Value) (x : World) : Prop := (∃ F, Row x w.heap.size 2 n F v) ∧ Src x b o len cap a ∧ But b w x
set_option maxRecDepth 100000 in
set_option maxHeartbeats 4000000 in
theorem l13BentView_any (w : World) (b : Nat) (o : Option Addr) (len cap : Nat) (a : Int) (h : Src w b o len cap a) (ha : a ≤ 300000) (hl : len ≤ 1048576) :
    Calls Tryz.prog 14 #[.pointer (some ⟨b, 0, none⟩)] w fun e w' => ∃ (n : Nat) (ao : Option Addr) (cp : Nat) (a1 : Int), e = .returned (.slice ao n cp) ∧ n ≤ 401 ∧ a1 ≤ a + 300 ∧ DrV w b o len cap a1 n (.slice ao n cp) w' := by
  have H : Hid (Src w b o len cap a) := h
  have hbl := h.lt
  clear h
  go_enter Tryz.func14, Tryz.ntmps14
  go_wp2_with fail
  refine (l1Next_any _ b o len cap a 20 H.out (by omega) hl).mono ?_
  rintro e w1 ⟨q0, rfl, h0, h1, hS, hT⟩
  have h20 := h1 (by omega)
  obtain ⟨q, rfl⟩ : ∃ q : Nat, q0 = (q : Int) := ⟨q0.toNat, by omega⟩
  have H1 : Hid (Src w1 b o len cap (a + 1) ∧ But b w w1) := ⟨hS, hT⟩
  clear hS hT h1
  go_wp2_with fail
  refine (l13View_any w1 b o len cap (a + 1) q H1.out.1 (by omega) (by omega) hl).mono ?_
  rintro e w2 ⟨L, ao, cp, a2, rfl, hg, ha2, hV⟩
  have H2 : Hid (Src w2 b o len cap a2 ∧ But b w w2 ∧ Own w2 w.heap.size 35 2 L.length (rowL L) (.slice ao L.length cp) ∧ GoodP L) := ⟨hV.1, H1.out.2.trans hV.2.1, hV.2.2.mono H1.out.2.size, hg⟩
  have HA : Hid (a2 ≤ a + 127) := by show a2 ≤ _; omega
  clear hg ha2 hV H1
  go_wp2_with fail
  refine (l1Next_any _ b o len cap a2 12 H2.out.1 (by have := HA.out; omega) hl).mono ?_
  rintro e w3 ⟨s, rfl, s0, s1, hS, hT⟩
  have H3 : Hid (Src w3 b o len cap (a2 + 1) ∧ But b w w3 ∧ Own w3 w.heap.size 35 2 L.length (rowL L) (.slice ao L.length cp) ∧ GoodP L) := ⟨hS, H2.out.2.1.trans hT, H2.out.2.2.1.butD hT hbl, H2.out.2.2.2⟩
  clear hS hT H2 s1
  have hLl : L.length ≤ 200 := H3.out.2.2.2.len
  by_cases e0 : s = 0
  · subst e0
    go_wp2_with fail
    refine (l11Bent_any _ b o len cap (a2 + 1) H3.out.1 (by have := HA.out; omega) hl).mono ?_
    rintro e w4 ⟨n, bo, bc, a4, rfl, hn, ha4, hq⟩
    have H4 : Hid (DrV w b o len cap a4 n (.slice bo n bc) w4) := by
      obtain ⟨G, hG⟩ := hq.row
      exact ⟨⟨G, hG.mono H3.out.2.1.size⟩, hq.src, H3.out.2.1.trans hq.but⟩
    clear hq
    go_wp2
    go_ret
    exact ⟨n, bo, bc, a4, rfl, by omega, by have := HA.out; omega, H4.out⟩
  have d0 : (s == 0) = false := beq_eq_false_iff_ne.2 e0
  by_cases e1 : s = 1
  · subst e1
    go_wp2_with fail
    refine (l1Key_any _ b o len cap (a2 + 1) H3.out.1 (by have := HA.out; omega) hl).mono ?_
    rintro e w4 ⟨ky, rfl, _, hS, hT⟩
    have H4 : Hid (Src w4 b o len cap (a2 + 1 + 5) ∧ But b w w4 ∧ Own w4 w.heap.size 35 2 L.length (rowL L) (.slice ao L.length cp)) := ⟨hS, H3.out.2.1.trans hT, H3.out.2.2.1.butD hT hbl⟩
    clear hS hT H3
    go_wp2_with fail
    refine (l1Pick_any _ b o len cap (a2 + 1 + 5) _ _ [0, 5, 1000, 2001, 9999] (H4.out.1.alloc _) (by have := HA.out; omega) hl (intsCg w4 w4.heap.size rfl) H4.out.1.lt (by simp) (by simp)).mono ?_
    rintro e w5 ⟨pv, rfl, _, hS, hT⟩
    have H5 : Hid (Src w5 b o len cap (a2 + 1 + 5 + 1) ∧ But b w w5 ∧ Own w5 w.heap.size 35 2 L.length (rowL L) (.slice ao L.length cp)) := ⟨hS, (H4.out.2.1.alloc _).trans hT, (H4.out.2.2.alloc _).butD hT hbl⟩
    clear hS hT H4
    go_wp2_with fail
    refine (l11Set_any L _ w.heap.size ky pv true _ H5.out.2.2.row.1 (by omega)).mono ?_
    rintro e w6 ⟨bo, bc, rfl, hO, q6⟩
    obtain ⟨LN, hLN⟩ : ∃ LN, (setS L ky pv true).length = LN := ⟨_, rfl⟩
    have hLN2 : LN ≤ 401 := by rw [← hLN]; have := setS_len L ky pv true; omega
    have H6 : Hid (DrV w b o len cap (a2 + 1 + 5 + 1) LN (.slice bo LN bc) w6) := by
      rw [hLN] at hO
      exact ⟨⟨_, hO.row.1.mono H5.out.2.1.size⟩, H5.out.1.later q6, H5.out.2.1.below q6⟩
    rw [hLN]
    clear hO q6 H5 hLN
    go_wp2
    go_ret
    exact ⟨LN, bo, bc, _, rfl, hLN2, by have := HA.out; omega, H6.out⟩
  have d1 : (s == 1) = false := beq_eq_false_iff_ne.2 e1
  by_cases e2 : s = 2
  · subst e2
    go_wp2_with fail
    refine (l1Key_any _ b o len cap (a2 + 1) H3.out.1 (by have := HA.out; omega) hl).mono ?_
    rintro e w4 ⟨ky, rfl, _, hS, hT⟩
    have H4 : Hid (Src w4 b o len cap (a2 + 1 + 5) ∧ But b w w4 ∧ Own w4 w.heap.size 35 2 L.length (rowL L) (.slice ao L.length cp)) := ⟨hS, H3.out.2.1.trans hT, H3.out.2.2.1.butD hT hbl⟩
    clear hS hT H3
    go_wp2_with fail
    refine (l11Set_any L _ w.heap.size ky 0 false _ H4.out.2.2.row.1 (by omega)).mono ?_
    rintro e w6 ⟨bo, bc, rfl, hO, q6⟩
    obtain ⟨LN, hLN⟩ : ∃ LN, (setS L ky 0 false).length = LN := ⟨_, rfl⟩
    have hLN2 : LN ≤ 401 := by rw [← hLN]; have := setS_len L ky 0 false; omega
    have H6 : Hid (DrV w b o len cap (a2 + 1 + 5) LN (.slice bo LN bc) w6) := by
      rw [hLN] at hO
      exact ⟨⟨_, hO.row.1.mono H4.out.2.1.size⟩, H4.out.1.later q6, H4.out.2.1.below q6⟩
    rw [hLN]
    clear hO q6 H4 hLN
    go_wp2
    go_ret
    exact ⟨LN, bo, bc, _, rfl, hLN2, by have := HA.out; omega, H6.out⟩
  have d2 : (s == 2) = false := beq_eq_false_iff_ne.2 e2
  obtain ⟨LN, hLN⟩ : ∃ LN, L.length = LN := ⟨_, rfl⟩
  have H6 : Hid (DrV w b o len cap (a2 + 1) LN (.slice ao LN cp) w3) := by
    rw [← hLN]
    exact ⟨⟨_, H3.out.2.2.1.row.1⟩, H3.out.1, H3.out.2.1⟩
  have hLN2 : LN ≤ 401 := by omega
  rw [hLN]
  clear H3 hLN hLl
  go_wp2
  go_ret
  exact ⟨LN, ao, cp, _, rfl, hLN2, by have := HA.out; omega, H6.out⟩
end Go.Proofs.YtbpppaolcgibnaaGreatDoor

namespace Go.Proofs.YtbpppaolcgibnaaGreatDoor
open Go.RowKit

set_option maxHeartbeats 1000000 in
theorem drawTree_any (w : World) (o : Option Addr) (len cap : Nat) (h : Code w o len) (hl : len ≤ 1048576) :
    Calls Tryz.prog 5 #[.slice o len cap] w fun e w' => ∃ (m : Nat) (V : Nat → Int) (ao : Option Addr) (cp : Nat), e = .returned (.slice ao m cp) ∧ m ≤ 401 ∧ Row w' w.heap.size 2 m V (.slice ao m cp) ∧ Below w.heap.size w w' := by
  have H : Hid (Code w o len) := h
  clear h
  go_enter Tryz.func5, Tryz.ntmps5
  go_wp2_with fail
  refine (l1Source_any _ o len cap H.out).mono ?_
  rintro e w1 ⟨rfl, hS, hb, hz⟩
  have S1 : Hid (Src w1 w.heap.size o len cap 0 ∧ Below w.heap.size w w1) := ⟨hS, hb⟩
  clear hS hb H
  go_wp2_with fail
  refine (l13BentView_any _ w.heap.size o len cap 0 S1.out.1 (by omega) hl).mono ?_
  rintro e w2 ⟨m, ao, cp, a1, rfl, hm, ha1, ⟨V, hV⟩, hS2, hT2⟩
  have HX : Hid (Row w2 w.heap.size 2 m V (.slice ao m cp) ∧ Below w.heap.size w w2) := ⟨hV.mono (by omega), but_below S1.out.2 hT2⟩
  clear hV hS2 hT2 S1
  go_wp2
  go_ret
  exact ⟨m, V, ao, cp, rfl, hm, HX.out.1, HX.out.2⟩
end Go.Proofs.YtbpppaolcgibnaaGreatDoor

namespace Go.Proofs.YtbpppaolcgibnaaGreatDoor
open Go.RowKit

theorem infoz_TN : (Tryz.prog.info? 40).map (fun i => (i.zero, i.size, i.bytes)) = some (some (.agg #[.int .i64 0, .int .i64 0, .int .i64 0, .int .i64 0]), 4, 32) := by kernel_rfl
theorem nums_four (x0 x1 x2 x3 : Int) : nums (fun p => [x0, x1, x2, x3].getD p 0) (1 * 4) = [x0, x1, x2, x3] := rfl
theorem nums_self {l : List Int} {N : Nat} (h : l.length = N) : nums (fun p => l.getD p 0) N = l := by
  subst h
  unfold nums
  apply List.ext_getElem
  · simp
  · intro i h1 h2
    simp only [List.getElem_map, List.getElem_range]
    rw [List.getD_eq_getElem?_getD, List.getElem?_eq_getElem h2]
    rfl
theorem ent_prefix (L : Prs) (d : Int) : ∀ (j : Nat) (i : Int) (xs : List Int), ∃ ys, entP L d j i xs = xs ++ ys
  | 0, _, xs => ⟨[], by simp [entP]⟩
  | j + 1, i, xs => by
    rw [entP]
    split
    · obtain ⟨ys, h⟩ := ent_prefix L d j (i + 1) (xs ++ [i])
      exact ⟨[i] ++ ys, by rw [h, List.append_assoc]⟩
    · exact ent_prefix L d j (i + 1) xs
/-- Of a part of the names: no more than of all. -/
theorem part_len {L : Prs} (hT : Tree L) {f : Nat} {dir depth : Int} (hd : 0 ≤ dir ∧ dir ≤ 9) {j : Nat} {i : Int} {nm : List Int} (h : entP L dir 6 0 [] = entP L dir j i nm) : (nodesX L (fun c => belowF L f c (depth + 1)) dir depth nm).length ≤ 12288 := by
  have h1 := below_len hT (f + 1) dir depth hd
  rw [belowF, h] at h1
  obtain ⟨ys, e⟩ := ent_prefix L dir j i nm
  rw [e, nodesX_append, List.length_append] at h1
  have := pw_le hd.1
  omega
/-- The nodes so far, in a list of the model's own. -/
def BlE (w : World) (acc : List Int) (n : Nat) (v : Value) (X : World) : Prop := OwnM X w.heap.size 40 4 v n acc ∧ Below w.heap.size w X
theorem BlE.app {w X Y w6 : World} {acc l : List Int} {n m : Nat} {ao ao1 : Option Addr} {cp cp1 : Nat} (h : BlE w acc n (.slice ao n cp) X) (hY : Below X.heap.size X Y) (O6 : OwnM w6 w.heap.size 40 4 (.slice ao1 (n + m) cp1) (n + m) (acc ++ l)) (G6 : Y.grownBy w6 (Value.slice ao n cp).ownBlock) : BlE w (acc ++ l) (n + m) (.slice ao1 (n + m) cp1) w6 := by
  have hw := h.2.trans (hY.mono h.2.size)
  exact ⟨O6, hw.trans ⟨G6.os, G6.tape, G6.output, G6.size, fun k hk => G6.block k (Nat.lt_of_lt_of_le hk hw.size) (fun e => by have := (OwnM.block h.1 _ e.symm).1; omega)⟩⟩
set_option maxRecDepth 100000 in
set_option maxHeartbeats 4000000 in
theorem l14Below_is (L : Prs) (hT : Tree L) (hn : L.length ≤ 1000) : ∀ (f : Nat) (dir depth : Int) (v : Value) (B : Nat) (w : World), Row w B 2 L.length (rowL L) v → 0 ≤ dir ∧ dir ≤ 9 → (9 - dir).toNat < f → 0 ≤ depth ∧ depth ≤ dir + 1 →
    Calls Tryz.prog 18 #[v, .int .i64 dir, .int .i64 depth] w fun e w' => ∃ u n, e = .returned u ∧ OwnM w' w.heap.size 40 4 u n (belowF L f dir depth) ∧ Below w.heap.size w w'
  | 0, _, _, _, _, _, _, _, h, _ => absurd h (Nat.not_lt_zero _)
  | f + 1, dir, depth, v, B, w, h, hd, hf, hdep => by
    obtain ⟨ao0, cp0, rfl⟩ := h.form
    have H : Hid (Row w B 2 L.length (rowL L) (.slice ao0 L.length cp0)) := h
    have HIH : Hid (∀ (dir depth : Int) (v : Value) (B : Nat) (w : World), Row w B 2 L.length (rowL L) v → 0 ≤ dir ∧ dir ≤ 9 → (9 - dir).toNat < f → 0 ≤ depth ∧ depth ≤ dir + 1 →
      Calls Tryz.prog 18 #[v, .int .i64 dir, .int .i64 depth] w fun e w' => ∃ u n, e = .returned u ∧ OwnM w' w.heap.size 40 4 u n (belowF L f dir depth) ∧ Below w.heap.size w w') := fun d1 d2 v1 B1 w1 a1 a2 a3 a4 => l14Below_is L hT hn f d1 d2 v1 B1 w1 a1 a2 a3 a4
    obtain ⟨i0, hi, iz0, iz1, iz2⟩ := info_parts infoz_TN
    have HP : Hid ((0 ≤ dir ∧ dir ≤ 9) ∧ (9 - dir).toNat < f + 1 ∧ (0 ≤ depth ∧ depth ≤ dir + 1)) := ⟨hd, hf, hdep⟩
    have hdep1 : 0 ≤ depth ∧ depth ≤ 10 := by omega
    have dd : decide (depth ≤ 10) = true := decide_eq_true (by omega)
    have HBF : Hid (belowF L (f + 1) dir depth = nodesX L (fun c => belowF L f c (depth + 1)) dir depth (entP L dir 6 0 [])) := rfl
    clear h hd hf hdep
    go_enter Tryz.func18, Tryz.ntmps18
    go_wp2
    go_loopw [7, 8] (fun out i wr => ∃ (k : Nat) (ao : Option Addr) (n cp : Nat) (nm : List Int), k ≤ 6 ∧ i = .int .i64 k ∧ out = .slice ao n cp ∧ n ≤ 3072 ∧ Hid (entP L dir 6 0 [] = entP L dir (6 - k) k nm ∧ BlE w (nodesX L (fun c => belowF L f c (depth + 1)) dir depth nm) n (.slice ao n cp) wr)) (fun _ i _ => 6 - (intOf i).toNat)
    case atStart => exact ⟨0, _, 0, _, [], by omega, rfl, rfl, by omega, rfl, OwnM.lit0 _ _ _ _ rfl, below_alloc _ _⟩
    case round =>
      obtain ⟨k, ao, n, cp, nm, hk, rfl, rfl, hnn, HS⟩ := hrel
      by_cases hlt : k < 6
      case neg =>
        obtain rfl : k = 6 := by omega
        have HE : Hid (BlE w (belowF L (f + 1) dir depth) n (.slice ao n cp) wr) := by
          unfold Hid
          rw [HBF.out, HS.out.1]
          exact HS.out.2
        clear HS HIH
        have dk : decide (((6 : Nat) : Int) ≤ 5) = false := by decide
        go_wp2
        go_ret
        exact ⟨_, n, rfl, HE.out.1, HE.out.2⟩
      have dk : decide ((k : Int) ≤ 5) = true := decide_eq_true (by omega)
      have HRW : Hid (Row wr B 2 L.length (rowL L) (.slice ao0 L.length cp0)) := H.out.later HS.out.2.2
      obtain ⟨t, htq⟩ : ∃ t, lookF L (kE dir k) = t := ⟨_, rfl⟩
      obtain ⟨th, c⟩ := t
      have HT : Hid (lookF L (kE dir k) = (th, c)) := htq
      have HE : Hid (entP L dir 6 0 [] = entP L dir (6 - (k + 1)) ((k + 1 : Nat) : Int) (if th = true then nm ++ [(k : Int)] else nm)) := HS.out.1.trans (ent_step hlt htq)
      go_wp2_with fail
      refine (ofE_is dir k HP.out.1 (by omega) _).mono ?_
      rintro e w9 ⟨rfl, hw9⟩
      obtain rfl := hw9.symm
      go_wp2_with fail
      refine (l11Value_any L _ B (kE dir k) _ HRW.out (by omega)).mono ?_
      rintro e w9 ⟨rfl, hw9⟩
      obtain rfl := hw9.symm
      rw [HT.out]
      cases th with
      | false =>
        clear htq HIH
        go_wp2
        go_roundw
        case rel => exact ⟨k + 1, ao, n, cp, nm, by omega, by go_num, rfl, hnn, HE.out, HS.out.2⟩
        case measure => simp [intOf]; omega
      | true =>
        have hc := hT.ino dir k HP.out.1 (by omega) (by rw [htq])
        have hup := hT.up dir k HP.out.1 (by omega) (by rw [htq])
        rw [htq] at hc hup
        simp only at hc hup
        obtain ⟨t2, ht2⟩ : ∃ t, lookF L (kI c) = t := ⟨_, rfl⟩
        obtain ⟨uh, cv⟩ := t2
        have HT2 : Hid (lookF L (kI c) = (uh, cv)) := ht2
        rw [ht2] at hup
        simp only at hup
        have HNX : Hid (nodesX L (fun c => belowF L f c (depth + 1)) dir depth (nm ++ [(k : Int)]) = nodesX L (fun c => belowF L f c (depth + 1)) dir depth nm ++ ([c, depth, (k : Int), cv] ++ (if cv = 1000 then belowF L f c (depth + 1) else []))) := by
          unfold Hid
          rw [nodesX_append, nodesX, nodesX, List.append_nil]
          unfold nodeX
          rw [htq]
          simp only
          rw [ht2]
        have hpl := part_len hT (f := f) (depth := depth) HP.out.1 HE.out
        rw [if_pos rfl, HNX.out] at hpl
        have hol := OwnM.len HS.out.2.1
        rw [List.length_append, hol] at hpl
        have HE2 : Hid (entP L dir 6 0 [] = entP L dir (6 - (k + 1)) ((k + 1 : Nat) : Int) (nm ++ [(k : Int)])) := HE.out
        clear htq ht2 HE
        go_wp2_with fail
        refine (ofI_is c hc _).mono ?_
        rintro e w9 ⟨rfl, hw9⟩
        obtain rfl := hw9.symm
        go_wp2_with fail
        refine (l11Value_any L _ B (kI c) _ HRW.out (by omega)).mono ?_
        rintro e w9 ⟨rfl, hw9⟩
        obtain rfl := hw9.symm
        rw [HT2.out]
        generalize nodesX L (fun c => belowF L f c (depth + 1)) dir depth nm = acc at HS HNX hol
        have HO : Hid (OwnM (wr.alloc (.cells #[.int .i64 c, .int .i64 depth, .int .i64 k, .int .i64 cv] 40)) w.heap.size 40 4 (.slice ao n cp) n acc) := OwnM.later HS.out.2.1 (below_alloc _ _)
        have hws : w.heap.size ≤ wr.heap.size := HS.out.2.2.size
        by_cases hcv : cv = 1000
        · have dcv : (cv == 1000) = true := beq_iff_eq.2 hcv
          have hdc := hup hcv
          rw [if_pos hcv] at hpl
          have HNX2 : Hid (nodesX L (fun c => belowF L f c (depth + 1)) dir depth (nm ++ [(k : Int)]) = (acc ++ [c, depth, (k : Int), cv]) ++ belowF L f c (depth + 1)) := by
            unfold Hid
            rw [HNX.out, if_pos hcv, List.append_assoc]
          clear hup hcv HNX
          go_wp2_with (at_builtin; refine wpList_app 40 i0 (.agg #[.int .i64 0, .int .i64 0, .int .i64 0, .int .i64 0]) 4 32 rfl _ _ 26 rfl Tryz.underlying26 hi iz0 iz1 iz2 rfl (by omega) (by omega) _ w.heap.size n acc (.slice ao n cp) rfl HO.out 0 1 (fun p => [c, depth, (k : Int), cv].getD p 0) (.slice (some ⟨wr.heap.size, 0, none⟩) 1 1) rfl (row_lit4 wr c depth k cv _) (by omega) (by simp; omega) ?_; intro ao1 cp1 w1 O2 G2)
          rw [nums_four] at O2
          have HS1 : Hid (BlE w (acc ++ [c, depth, (k : Int), cv]) (n + 1) (.slice ao1 (n + 1) cp1) w1) := HS.out.2.app (below_alloc _ _) O2 G2
          clear O2 G2 HO
          have hdep2 : 0 ≤ depth + 1 ∧ depth + 1 ≤ 11 := by omega
          go_wp2_with fail
          refine (HIH.out c (depth + 1) _ B _ (H.out.later HS1.out.2) hc (by have := HP.out; omega) (by have := HP.out; omega)).mono ?_
          rintro e w2 ⟨u, m, rfl, hu, q2⟩
          obtain ⟨uo, uc, rfl⟩ := OwnM.form hu
          have hum := OwnM.len hu
          have HU : Hid (Row w2 w1.heap.size 4 m (fun p => (belowF L f c (depth + 1)).getD p 0) (.slice uo m uc)) := (OwnM.rowL hu).1
          have HO2 : Hid (OwnM w2 w.heap.size 40 4 (.slice ao1 (n + 1) cp1) (n + 1) (acc ++ [c, depth, (k : Int), cv])) := OwnM.later HS1.out.1 q2
          have HQ2 : Hid (Below w1.heap.size w1 w2) := q2
          have hws2 : w.heap.size ≤ w2.heap.size := Nat.le_trans HS1.out.2.size q2.size
          rw [List.length_append, hum] at hpl
          simp only [List.length_cons, List.length_nil] at hpl
          have hself := nums_self (l := belowF L f c (depth + 1)) hum
          clear hu q2
          go_wp2_with (at_builtin; refine wpList_app 40 i0 (.agg #[.int .i64 0, .int .i64 0, .int .i64 0, .int .i64 0]) 4 32 rfl _ _ 26 rfl Tryz.underlying26 hi iz0 iz1 iz2 rfl (by omega) (by omega) _ w.heap.size (n + 1) (acc ++ [c, depth, (k : Int), cv]) (.slice ao1 (n + 1) cp1) rfl HO2.out w1.heap.size m (fun p => (belowF L f c (depth + 1)).getD p 0) (.slice uo m uc) rfl HU.out (by omega) (by omega) ?_; intro ao3 cp3 w3 O3 G3)
          rw [hself] at O3
          have HS3 : Hid (BlE w (nodesX L (fun c => belowF L f c (depth + 1)) dir depth (nm ++ [(k : Int)])) (n + 1 + m) (.slice ao3 (n + 1 + m) cp3) w3) := by
            unfold Hid
            rw [HNX2.out]
            exact HS1.out.app HQ2.out O3 G3
          clear O3 G3 HO2 HU HQ2 hself
          go_wp2
          go_roundw
          case rel => exact ⟨k + 1, ao3, n + 1 + m, cp3, nm ++ [(k : Int)], by omega, by go_num, rfl, by omega, HE2.out, HS3.out⟩
          case measure => simp [intOf]; omega
        · have dcv : (cv == 1000) = false := beq_eq_false_iff_ne.2 hcv
          rw [if_neg hcv] at hpl
          simp only [List.append_nil, List.length_cons, List.length_nil] at hpl
          have HNX2 : Hid (nodesX L (fun c => belowF L f c (depth + 1)) dir depth (nm ++ [(k : Int)]) = acc ++ [c, depth, (k : Int), cv]) := by
            unfold Hid
            rw [HNX.out, if_neg hcv, List.append_nil]
          clear hup hcv HNX HIH
          go_wp2_with (at_builtin; refine wpList_app 40 i0 (.agg #[.int .i64 0, .int .i64 0, .int .i64 0, .int .i64 0]) 4 32 rfl _ _ 26 rfl Tryz.underlying26 hi iz0 iz1 iz2 rfl (by omega) (by omega) _ w.heap.size n acc (.slice ao n cp) rfl HO.out 0 1 (fun p => [c, depth, (k : Int), cv].getD p 0) (.slice (some ⟨wr.heap.size, 0, none⟩) 1 1) rfl (row_lit4 wr c depth k cv _) (by omega) (by simp; omega) ?_; intro ao1 cp1 w1 O2 G2)
          rw [nums_four] at O2
          have HS1 : Hid (BlE w (nodesX L (fun c => belowF L f c (depth + 1)) dir depth (nm ++ [(k : Int)])) (n + 1) (.slice ao1 (n + 1) cp1) w1) := by
            unfold Hid
            rw [HNX2.out]
            exact HS.out.2.app (below_alloc _ _) O2 G2
          clear O2 G2 HO
          go_wp2
          go_roundw
          case rel => exact ⟨k + 1, ao1, n + 1, cp1, nm ++ [(k : Int)], by omega, by go_num, rfl, by omega, HE2.out, HS1.out⟩
          case measure => simp [intOf]; omega
end Go.Proofs.YtbpppaolcgibnaaGreatDoor

namespace Go.Proofs.YtbpppaolcgibnaaGreatDoor
open Go.RowKit

set_option maxRecDepth 100000 in
set_option maxHeartbeats 4000000 in
theorem names_h (L : Prs) (b rb mb : Nat) (zs0 : List Int) (vr : Value) (d : Int) (w : World) (h : Looks w b rb mb L zs0 vr) (hz0' : ReadsOk zs0) (hrs : Rises L) (hn : L.length ≤ 1000) (hd : 0 ≤ d ∧ d ≤ 9) (xs : List Int) (hp : entP L d 6 0 [] = xs) :
    Calls Tryz.prog 49 #[.pointer (some ⟨b, 0, none⟩), .int .i64 d] w fun e w' => ∃ l zs vz, e = .returned l ∧ Nms w b rb mb L vr zs vz xs l w' ∧ ReadsOk zs := by
  have hmb : mb < w.heap.size := h.2.2.1.lt
  have hbw : b < w.heap.size := h.1.lt
  have H : Hid (Rises L ∧ (0 ≤ d ∧ d ≤ 9) ∧ entP L d 6 0 [] = xs) := ⟨hrs, hd, hp⟩
  have HZ0 : Hid (ReadsOk zs0) := hz0'
  have H0 : Hid (Nms w b rb mb L vr zs0 vr [] (.slice none 0 0) w) := ⟨⟨h, Keeps.below _ _ _ (Below.refl _ _)⟩, Ints.nil _ _, fun k _ e => by cases e⟩
  have fs := fun h v w => field_sight0 h v w
  obtain ⟨i0, hi, hz⟩ : ∃ i, Tryz.prog.info? 2 = some i ∧ (i.zero, i.size, i.bytes) = (some (.int .i64 0), 1, 8) := by
    have := info_i64L
    cases q : Tryz.prog.info? 2 with
    | none => rw [q] at this; cases this
    | some i => rw [q] at this; exact ⟨i, rfl, Option.some.inj this⟩
  simp only [Prod.mk.injEq] at hz
  obtain ⟨hz0, hz1, hz2⟩ := hz
  clear h hrs hd hp hz0'
  go_enter Tryz.func49, Tryz.ntmps49
  go_wp2
  go_loopw [4, 6] (fun l i wr => ∃ k : Nat, k ≤ 6 ∧ i = .int .i64 k ∧ ∃ zs vz acc ao cp, l = .slice ao (List.length acc) cp ∧ List.length acc ≤ k ∧ Hid (ReadsOk zs) ∧ Hid (Nms w b rb mb L vr zs vz acc l wr ∧ entP L d 6 0 [] = entP L d (6 - k) k acc)) (fun _ i _ => 6 - (intOf i).toNat)
  case atStart => exact ⟨0, by omega, rfl, zs0, vr, [], none, 0, rfl, by simp, HZ0, H0.out, rfl⟩
  case round =>
    obtain ⟨k, hk, rfl, zs, vz, acc, ao, cp, rfl, hal, hzl, HZ⟩ := hrel
    by_cases hlt : k < 6
    · obtain ⟨t, htq⟩ : ∃ t, lookF L (kE d k) = t := ⟨_, rfl⟩
      obtain ⟨th, tz⟩ := t
      have HT : Hid (lookF L (kE d k) = (th, tz)) := htq
      have HE : Hid (entP L d 6 0 [] = entP L d (6 - (k + 1)) ((k + 1 : Nat) : Int) (if th = true then acc ++ [(k : Int)] else acc)) := HZ.out.2.trans (ent_step hlt htq)
      have hza : Hid (ReadsOk (addR zs (kE d k))) := hzl.out.add (by have := H.out.2.1; unfold kE; omega)
      have hzn := hzl.out.len
      clear htq
      go_wp2_with fail
      refine (entryKey_is d k H.out.2.1 (by omega) _).mono ?_
      rintro e w2 ⟨rfl, q2⟩
      have H2 : Hid (Nms w b rb mb L vr zs vz acc (.slice ao acc.length cp) w2) := HZ.out.1.later q2
      clear q2 HZ
      go_wp2_with fail
      refine (look_is L b rb mb zs vz (kE d k) _ H2.out.1.1 H.out.1 hn (by have := H.out.2.1; unfold kE; omega) (by omega)).mono ?_
      rintro e w3 ⟨rfl, vy, l3, k3⟩
      have H3 : Hid (Nms w b rb mb L vr (addR zs (kE d k)) vy acc (.slice ao acc.length cp) w3) := H2.out.keeps hbw hmb l3 k3
      clear l3 k3 H2
      rw [HT.out]
      cases th with
      | false =>
        go_wp2
        go_roundw
        case rel => exact ⟨k + 1, by omega, by go_num, _, vy, acc, ao, cp, rfl, by omega, hza, H3.out, HE.out⟩
        case measure => simp [intOf]; omega
      | true =>
        have hlit := fun w => run_lit1L (k : Int) w
        have HO : Hid (OwnM (w3.alloc (.cells #[.int .i64 (k : Int)] 2)) w.heap.size 2 1 (.slice ao acc.length cp) acc.length acc) := OwnM.later (show OwnM w3 w.heap.size 2 1 (.slice ao acc.length cp) acc.length acc from H3.out.2.1) (below_alloc _ _)
        have HRW : Hid (Row (w3.alloc (.cells #[.int .i64 (k : Int)] 2)) w3.heap.size 1 1 (fun p => [(k : Int)].getD p 0) (.slice (some ⟨w3.heap.size, 0, none⟩) 1 1)) := row_lit1 w3 k
        have hbase3 : w.heap.size ≤ (w3.alloc (.cells #[.int .i64 (k : Int)] 2)).heap.size := Nat.le_trans H3.out.1.2.2.1 (by simp)
        have hfits : acc.length + 1 ≤ 1048576 := by omega
        go_wp2_with (at_builtin; refine wpList_appL 2 i0 (.int .i64 0) 1 8 rfl _ _ 93 rfl Tryz.underlying93 hi hz0 hz1 hz2 rfl (by omega) (by omega) _ w.heap.size acc.length acc (.slice ao acc.length cp) rfl HO.out w3.heap.size 1 (fun p => [(k : Int)].getD p 0) (.slice (some ⟨w3.heap.size, 0, none⟩) 1 1) rfl HRW.out hfits hbase3 ?_; intro ao1 cp1 w6 O6 G6 N6; have H6 : Hid (Nms w b rb mb L vr (addR zs (kE d k)) vy (acc ++ [(k : Int)]) (.slice ao1 (acc.length + 1) cp1) w6) := H3.out.app hbw O6 G6 N6; clear O6 G6 N6 HO HRW)
        go_roundw
        case rel => exact ⟨k + 1, by omega, by go_num, _, vy, acc ++ [(k : Int)], ao1, cp1, by simp, by simp; omega, hza, H6.out, HE.out⟩
        case measure => simp [intOf]; omega
    · obtain rfl : k = 6 := by omega
      have HX : Hid (Nms w b rb mb L vr zs vz xs (.slice ao acc.length cp) wr) := by
        have e : acc = xs := HZ.out.2.symm.trans H.out.2.2
        unfold Hid
        rw [← e]
        exact HZ.out.1
      go_wp2
      go_ret
      exact ⟨_, zs, vz, rfl, HX.out, hzl.out⟩

/-- The box of what is told. -/
def BlkT (X : World) (tb : Nat) (v : Value) : Prop := X.cell? ⟨tb, 0, none⟩ = some v ∧ X.frozen? ⟨tb, 0, none⟩ = false
theorem BlkT.lt {X : World} {tb : Nat} {v : Value} (h : BlkT X tb v) : tb < X.heap.size := World.block_lt_of_cell? X _ h.1
theorem BlkT.kept {X X' : World} {tb : Nat} {v : Value} (h : BlkT X tb v) (hk : X'.heap[tb]? = X.heap[tb]?) : BlkT X' tb v := ⟨(World.cell?_of_block (w := X) (a := ⟨tb, 0, none⟩) hk).trans h.1, (World.frozen?_of_block (w := X) (a := ⟨tb, 0, none⟩) hk).trans h.2⟩
theorem BlkT.later {X X' : World} {tb : Nat} {v : Value} (h : BlkT X tb v) (hb : Below X.heap.size X X') : BlkT X' tb v := h.kept (hb.block tb h.lt)
def TellTo (w : World) (tb n : Nat) (acc : List Int) (v : Value) (w' : World) (v' : Value) : Prop := BlkT w' tb v' ∧ OwnM w' (tb + 1) 40 4 v' n acc ∧ Keeps w w' tb tb v v'
theorem tell_app {w w6 : World} {tb n n' : Nat} {acc acc' : List Int} {v v' : Value} (hb : BlkT w tb v) (ho : OwnM w (tb + 1) 40 4 v n acc) (O6 : OwnM w6 (tb + 1) 40 4 v' n' acc') (G6 : w.grownBy w6 v.ownBlock) (N6 : v'.ownBlock = v.ownBlock ∨ v'.ownBlock = some w.heap.size) :
    BlkT w6 tb v ∧ TellTo w tb n' acc' v (w6.setCell ⟨tb, 0, none⟩ v') v' := by
  have hlt := hb.lt
  have kp : ∀ k, k < w.heap.size → v.ownBlock ≠ some k → w6.heap[k]? = w.heap[k]? := fun k hk hne => G6.block k hk (fun e => hne e.symm)
  have ks : ∀ k, k ≠ tb → (w6.setCell ⟨tb, 0, none⟩ v').heap[k]? = w6.heap[k]? := fun k hk => Below.heap_setCell w6 ⟨tb, 0, none⟩ _ k hk
  have hB6 := hb.kept (kp tb hlt (fun e => by have := (OwnM.block ho _ e).1; omega))
  refine ⟨hB6, ⟨?_, by simpa using hB6.2⟩, OwnM.keptB O6 (fun k hk => ks k (by have := (OwnM.block O6 k hk).1; omega)), ⟨⟨G6.os, G6.tape, G6.output⟩, by simpa using G6.size, fun k hk h1 _ h3 => (ks k h1).trans (kp k hk h3), fun k hk hkw => ?_⟩⟩
  · exact World.cell?_setCell_same _ _ _ hB6.1
  · rcases N6 with q | q
    · rw [← q]; exact hk
    · rw [q] at hk
      have := Option.some.inj hk
      omega
set_option maxRecDepth 100000 in
set_option maxHeartbeats 2000000 in
theorem tell_is (tb n : Nat) (acc : List Int) (v u : Value) (B m : Nat) (F : Nat → Int) (w : World) (hb : BlkT w tb v) (ho : OwnM w (tb + 1) 40 4 v n acc) (h : Row w B 4 m F u) (hn : n + m ≤ 1000000) :
    Calls Tryz.prog 53 #[.pointer (some ⟨tb, 0, none⟩), u] w fun e w' => e = .returned (.tuple #[]) ∧ ∃ v', TellTo w tb (n + m) (acc ++ nums F (m * 4)) v w' v' := by
  obtain ⟨ao, cp, rfl⟩ := OwnM.form ho
  obtain ⟨uo, uc, rfl⟩ := h.form
  have H : Hid (BlkT w tb (.slice ao n cp) ∧ OwnM w (tb + 1) 40 4 (.slice ao n cp) n acc ∧ Row w B 4 m F (.slice uo m uc)) := ⟨hb, ho, h⟩
  obtain ⟨i0, hi, iz0, iz1, iz2⟩ := info_parts infoz_TN
  have hlt := hb.lt
  obtain ⟨x0, f0⟩ := hb
  clear ho h
  go_enter Tryz.func53, Tryz.ntmps53
  go_wp2_with (at_builtin; refine wpList_appL 40 i0 (.agg #[.int .i64 0, .int .i64 0, .int .i64 0, .int .i64 0]) 4 32 rfl _ _ 26 rfl Tryz.underlying26 hi iz0 iz1 iz2 rfl (by omega) (by omega) _ (tb + 1) n acc (.slice ao n cp) rfl H.out.2.1 B m F (.slice uo m uc) rfl H.out.2.2 (by omega) (by omega) ?_; intro ao1 cp1 w6 O6 G6 N6; have HA := tell_app H.out.1 H.out.2.1 O6 G6 N6; clear x0 f0; obtain ⟨⟨x0, f0⟩, hT⟩ := HA; have HT : Hid (TellTo w tb (n + m) (acc ++ nums F (m * 4)) (.slice ao n cp) (w6.setCell ⟨tb, 0, none⟩ (.slice ao1 (n + m) cp1)) (.slice ao1 (n + m) cp1)) := hT; clear hT O6 G6 N6)
  go_end0
  exact ⟨rfl, _, HT.out⟩
set_option maxHeartbeats 400000 in
theorem childDir_t (c cv : Int) (w : World) : Calls Tryz.prog 54 #[.agg #[.int .i64 c, .int .i64 cv]] w fun e w' => e = .returned (.bool (cv == 1000)) ∧ Below w.heap.size w w' := by
  go_enter Tryz.func54, Tryz.ntmps54
  go_wp2
  go_ret
  exact ⟨rfl, below_alloc _ _⟩
end Go.Proofs.YtbpppaolcgibnaaGreatDoor

namespace Go.Proofs.YtbpppaolcgibnaaGreatDoor
open Go.RowKit

theorem Keeps.tell {w X X' : World} {b mb tb : Nat} {vr vz v v' : Value} (h : Keeps w X b mb vr vz) (hk : Keeps X X' tb tb v v') (htb : w.heap.size ≤ tb) (hv : ∀ k, v.ownBlock = some k → w.heap.size ≤ k) : Keeps w X' b mb vr vz :=
  ⟨⟨hk.1.1.trans h.1.1, hk.1.2.1.trans h.1.2.1, hk.1.2.2.trans h.1.2.2⟩, Nat.le_trans h.2.1 hk.2.1, fun k h0 h1 h2 h3 => (hk.2.2.1 k (Nat.lt_of_lt_of_le h0 h.2.1) (by omega) (by omega) (fun e => by have := hv k e; omega)).trans (h.2.2.1 k h0 h1 h2 h3), h.2.2.2⟩
theorem Looks.keptTo {X X' : World} {b rb mb tb : Nat} {L : Prs} {zs : List Int} {vz v : Value} (h : Looks X b rb mb L zs vz) (hb : b < tb) (hv : ∀ k, v.ownBlock = some k → b < k ∧ vz.ownBlock ≠ some k) (hz : vz.ownBlock ≠ some tb) (hk : ∀ k, k < X.heap.size → k ≠ tb → v.ownBlock ≠ some k → X'.heap[k]? = X.heap[k]?) : Looks X' b rb mb L zs vz := by
  have low : ∀ k, k < X.heap.size → k ≤ b → X'.heap[k]? = X.heap[k]? := fun k h1 h2 => hk k h1 (by omega) (fun e => by have := (hv k e).1; omega)
  have hi : OwnM X (b + 1) 2 1 vz zs.length zs := h.2.2.2.1
  have ho := h.2.2.2.2
  exact ⟨h.1.kept (low b h.1.lt (Nat.le_refl _)), h.2.1.kept (fun k h1 h2 => low k h1 (by omega)) ho.1, h.2.2.1.kept (low mb h.2.2.1.lt (by omega)), OwnM.keptB hi (fun k hq => hk k (OwnM.block hi k hq).2 (fun e => hz (by rw [← e]; exact hq)) (fun e => (hv k e).2 hq)), ho⟩
/-- What stands while it is told what is below a directory. -/
def Tl (w : World) (vr : Value) (X : World) (b rb mb : Nat) (L : Prs) (zs : List Int) (vz : Value) (tb n : Nat) (acc : List Int) (v nl : Value) (xs : List Int) : Prop :=
  (Looks X b rb mb L zs vz ∧ ReadsOk zs ∧ Keeps w X b mb vr vz) ∧ (BlkT X tb v ∧ OwnM X (tb + 1) 40 4 v n acc ∧ b < tb ∧ w.heap.size ≤ tb) ∧ (Off X b mb vz tb ∧ ∀ k, v.ownBlock = some k → Off X b mb vz k) ∧ OwnM X 0 2 1 nl xs.length xs ∧ ∀ k, nl.ownBlock = some k → Off X b mb vz k ∧ Off X tb tb v k
theorem Tl.look {w X X' : World} {vr vz vy v nl : Value} {b rb mb tb n : Nat} {L : Prs} {zs ys acc xs : List Int} (h : Tl w vr X b rb mb L zs vz tb n acc v nl xs) (hl : Looks X' b rb mb L ys vy) (hr : ReadsOk ys) (hk : Keeps X X' b mb vz vy) : Tl w vr X' b rb mb L ys vy tb n acc v nl xs := by
  obtain ⟨⟨h1, h2, h3⟩, ⟨h4, h5, h6, h7⟩, ⟨h8, h9⟩, h10, h11⟩ := h
  exact ⟨⟨hl, hr, h3.trans hk⟩, ⟨h4.kept (hk.off h8).2, OwnM.keptB h5 (fun k hq => (hk.off (h9 k hq)).2), h6, h7⟩, ⟨(hk.off h8).1, fun k hq => (hk.off (h9 k hq)).1⟩, OwnM.keptB h10 (fun k hq => (hk.off (h11 k hq).1).2), fun k hq => ⟨(hk.off (h11 k hq).1).1, (h11 k hq).2.later hk.2.1⟩⟩
theorem Tl.later {w X X' : World} {vr vz v nl : Value} {b rb mb tb n : Nat} {L : Prs} {zs acc xs : List Int} (h : Tl w vr X b rb mb L zs vz tb n acc v nl xs) (hb : Below X.heap.size X X') : Tl w vr X' b rb mb L zs vz tb n acc v nl xs :=
  h.look (h.1.1.later hb) h.1.2.1 (Keeps.below _ _ _ hb)
theorem Tl.tell {w X X' : World} {vr vz v v' nl : Value} {b rb mb tb n n' : Nat} {L : Prs} {zs acc acc' xs : List Int} (h : Tl w vr X b rb mb L zs vz tb n acc v nl xs) (ht : TellTo X tb n' acc' v X' v') : Tl w vr X' b rb mb L zs vz tb n' acc' v' nl xs := by
  obtain ⟨⟨h1, h2, h3⟩, ⟨h4, h5, h6, h7⟩, ⟨h8, h9⟩, h10, h11⟩ := h
  obtain ⟨t1, t2, hk⟩ := ht
  have hvb : ∀ k, v.ownBlock = some k → tb + 1 ≤ k := fun k hq => (OwnM.block h5 k hq).1
  refine ⟨⟨h1.keptTo h6 (fun k hq => ⟨by have := hvb k hq; omega, fun e => (h9 k hq).2.2.2 e⟩) h8.2.2.2 (fun k a1 a2 a3 => hk.2.2.1 k a1 a2 a2 a3), h2, h3.tell hk h7 (fun k hq => by have := hvb k hq; omega)⟩, ⟨t1, t2, h6, h7⟩, ⟨h8.later hk.2.1, fun k hq => ?_⟩, OwnM.keptB h10 (fun k hq => (hk.off (h11 k hq).2).2), fun k hq => ⟨(h11 k hq).1.later hk.2.1, (hk.off (h11 k hq).2).1⟩⟩
  by_cases hx : k < X.heap.size
  · exact (h9 k (hk.2.2.2 k hq hx)).later hk.2.1
  · have hb1 := h1.1.lt
    have hb2 := h1.2.2.1.lt
    refine ⟨(OwnM.block t2 k hq).2, by omega, by omega, fun e => ?_⟩
    have := (h1.2.2.2.1.lt k e).2
    omega
/-- What below answers. -/
def BelRes (w : World) (b rb mb : Nat) (L : Prs) (vr : Value) (l : List Int) (e : Ending) (w' : World) : Prop :=
  ∃ u n ys vy, e = .returned u ∧ OwnM w' w.heap.size 40 4 u n l ∧ Looks w' b rb mb L ys vy ∧ ReadsOk ys ∧ Keeps w w' b mb vr vy
theorem take_snocI {xs : List Int} {k : Nat} (hk : k < xs.length) : xs.take (k + 1) = xs.take k ++ [xs.getD k 0] := by
  rw [List.take_add_one, List.getD_eq_getElem?_getD, List.getElem?_eq_getElem hk]
  rfl
theorem getD_mem {xs : List Int} {k : Nat} (hk : k < xs.length) : xs.getD k 0 ∈ xs := by
  rw [List.getD_eq_getElem?_getD, List.getElem?_eq_getElem hk]
  exact List.getElem_mem hk
theorem take_len {L : Prs} (hT : Tree L) {f : Nat} {dir depth : Int} (hd : 0 ≤ dir ∧ dir ≤ 9) (k : Nat) : (nodesX L (fun c => belowF L f c (depth + 1)) dir depth ((entP L dir 6 0 []).take k)).length ≤ 12288 := by
  have h1 := below_len hT (f + 1) dir depth hd
  rw [belowF, ← List.take_append_drop k (entP L dir 6 0 []), nodesX_append, List.length_append] at h1
  have := pw_le hd.1
  omega
set_option maxRecDepth 100000 in
set_option maxHeartbeats 4000000 in
theorem below_is (L : Prs) (hT : Tree L) (hrs : Rises L) (hn : L.length ≤ 800) (b rb mb : Nat) : ∀ (f : Nat) (dir depth : Int) (zs : List Int) (vr : Value) (w : World), Looks w b rb mb L zs vr → ReadsOk zs → 0 ≤ dir ∧ dir ≤ 9 → (9 - dir).toNat < f → 0 ≤ depth ∧ depth ≤ dir + 1 →
    Calls Tryz.prog 17 #[.pointer (some ⟨b, 0, none⟩), .int .i64 dir, .int .i64 depth] w (BelRes w b rb mb L vr (belowF L f dir depth))
  | 0, _, _, _, _, _, _, _, _, h, _ => absurd h (Nat.not_lt_zero _)
  | f + 1, dir, depth, zs, vr, w, hl, hz, hd, hf, hdep => by
    have HIH : Hid (∀ (dir depth : Int) (zs : List Int) (vr : Value) (w : World), Looks w b rb mb L zs vr → ReadsOk zs → 0 ≤ dir ∧ dir ≤ 9 → (9 - dir).toNat < f → 0 ≤ depth ∧ depth ≤ dir + 1 →
      Calls Tryz.prog 17 #[.pointer (some ⟨b, 0, none⟩), .int .i64 dir, .int .i64 depth] w (BelRes w b rb mb L vr (belowF L f dir depth))) := fun d1 d2 z1 v1 w1 a1 a2 a3 a4 a5 => below_is L hT hrs hn b rb mb f d1 d2 z1 v1 w1 a1 a2 a3 a4 a5
    have HP : Hid ((0 ≤ dir ∧ dir ≤ 9) ∧ (9 - dir).toNat < f + 1 ∧ (0 ≤ depth ∧ depth ≤ dir + 1)) := ⟨hd, hf, hdep⟩
    have hdep1 : 0 ≤ depth ∧ depth ≤ 10 := by omega
    have H0 : Hid (Tl w vr (w.alloc (.cells #[.slice none 0 0] 97)) b rb mb L zs vr w.heap.size 0 [] (.slice none 0 0) (.slice none 0 0) []) :=
      ⟨⟨hl.alloc _, hz, Keeps.below _ _ _ (below_alloc _ _)⟩, ⟨⟨World.cell?_alloc_mark w _ _ _ 0, by simp⟩, OwnM.nil _ _ _ _, hl.1.lt, Nat.le_refl _⟩, ⟨hl.off _, fun k hk => by cases hk⟩, OwnM.nil _ _ _ _, fun k hk => by cases hk⟩
    have HBF : Hid (belowF L (f + 1) dir depth = nodesX L (fun c => belowF L f c (depth + 1)) dir depth (entP L dir 6 0 [])) := rfl
    clear hl hz hd hf hdep
    go_enter Tryz.func17, Tryz.ntmps17
    go_wp2_with fail
    refine (names_h L b rb mb zs vr dir _ H0.out.1.1 H0.out.1.2.1 hrs (by omega) HP.out.1 _ rfl).mono ?_
    rintro e w1 ⟨nl, zs1, vz1, rfl, hN, hz1⟩
    have hin : ∀ x ∈ entP L dir 6 0 [], (lookF L (kE dir x)).1 = true ∧ 0 ≤ x ∧ x ≤ 5 := fun x hx => ent_in hx
    have hlen6 := ent_len L dir 6 0 []
    simp only [List.length_nil, Nat.zero_add] at hlen6
    have hni : OwnM w1 (w.alloc (.cells #[.slice none 0 0] 97)).heap.size 2 1 nl (entP L dir 6 0 []).length (entP L dir 6 0 []) := hN.2.1
    have HT0 := H0.out.look hN.1.1 hz1 hN.1.2
    have H1 : Hid (Tl w vr w1 b rb mb L zs1 vz1 w.heap.size 0 [] (.slice none 0 0) nl (entP L dir 6 0 [])) := by
      refine ⟨HT0.1, HT0.2.1, HT0.2.2.1, OwnM.monoP hni (Nat.zero_le _), fun k hk => ?_⟩
      have h1 := OwnM.block hni k hk
      have h2 : w.heap.size + 1 ≤ k := by simpa using h1.1
      have h3 := H0.out.2.1.2.2.1
      have h4 := H0.out.1.1.2.2.2.2.2
      exact ⟨⟨h1.2, by omega, by omega, fun e => hN.2.2 k e hk⟩, ⟨h1.2, by omega, by omega, fun e => by cases e⟩⟩
    obtain ⟨no, nc, rfl⟩ := OwnM.form hni
    clear hN hz1 hni HT0 H0
    generalize hxs : entP L dir 6 0 [] = xs at H1 HBF hin hlen6 ⊢
    have HXS : Hid (entP L dir 6 0 [] = xs) := hxs
    have HIN : Hid (∀ x ∈ xs, (lookF L (kE dir x)).1 = true ∧ 0 ≤ x ∧ x ≤ 5) := hin
    clear hxs hin
    go_wp2
    go_loopw [15] (fun i wr => ∃ (k n : Nat) (v : Value) (zs : List Int) (vz : Value), k ≤ xs.length ∧ i = .int .i64 k ∧ n ≤ 3072 ∧ Hid (Tl w vr wr b rb mb L zs vz w.heap.size n (nodesX L (fun c => belowF L f c (depth + 1)) dir depth (xs.take k)) v (.slice no xs.length nc) xs)) (fun i _ => xs.length - (intOf i).toNat)
    case atStart => exact ⟨0, 0, _, zs1, vz1, Nat.zero_le _, rfl, Nat.zero_le _, H1.out⟩
    case round =>
      obtain ⟨k, n, v, zs2, vz2, hk, rfl, hnn, HS⟩ := hrel
      clear H1
      by_cases hlt : k < xs.length
      case neg =>
        obtain rfl : k = xs.length := by omega
        have HE : Hid (Tl w vr wr b rb mb L zs2 vz2 w.heap.size n (belowF L (f + 1) dir depth) v (.slice no xs.length nc) xs) := by
          have := HS.out
          rw [List.take_length] at this
          unfold Hid
          rw [HBF.out]
          exact this
        obtain ⟨x0, f0⟩ := HE.out.2.1.1
        obtain ⟨vo, vc, rfl⟩ := OwnM.form HE.out.2.1.2.1
        clear HS HIH
        go_wp2
        go_ret
        exact ⟨_, n, zs2, vz2, rfl, OwnM.monoP HE.out.2.1.2.1 (by omega), HE.out.1.1, HE.out.1.2.1, HE.out.1.2.2⟩
      have hrow := (OwnM.rowL HS.out.2.2.2.1).1
      obtain ⟨g, o, rfl, _, hg, y0⟩ := hrow.at1 hlt
      obtain ⟨x, hx⟩ : ∃ x, xs.getD k 0 = x := ⟨_, rfl⟩
      rw [hx] at y0
      have hxin := HIN.out x (hx ▸ getD_mem hlt)
      have HTK : Hid (xs.take (k + 1) = xs.take k ++ [x]) := by unfold Hid; rw [take_snocI hlt, hx]
      obtain ⟨t, htq⟩ : ∃ t, lookF L (kE dir x) = t := ⟨_, rfl⟩
      obtain ⟨th, c⟩ := t
      have hth := hxin.1
      rw [htq] at hth
      simp only at hth
      subst hth
      have HT1 : Hid (lookF L (kE dir x) = (true, c)) := htq
      have hc := hT.ino dir x HP.out.1 hxin.2 hxin.1
      have hup := hT.up dir x HP.out.1 hxin.2 hxin.1
      rw [htq] at hc hup
      simp only at hc hup
      obtain ⟨cv, hcvq⟩ : ∃ cv, (lookF L (kI c)).2 = cv := ⟨_, rfl⟩
      have HT2 : Hid ((lookF L (kI c)).2 = cv) := hcvq
      rw [hcvq] at hup
      have HNX : Hid (nodesX L (fun c => belowF L f c (depth + 1)) dir depth (xs.take (k + 1)) = nodesX L (fun c => belowF L f c (depth + 1)) dir depth (xs.take k) ++ ([c, depth, x, cv] ++ (if cv = 1000 then belowF L f c (depth + 1) else []))) := by
        unfold Hid
        rw [HTK.out, nodesX_append, nodesX, nodesX, List.append_nil]
        unfold nodeX
        rw [htq]
        simp only
        rw [hcvq]
      have hpl := take_len hT (f := f) (depth := depth) HP.out.1 (k + 1)
      rw [HXS.out, HNX.out] at hpl
      have hol := OwnM.len HS.out.2.1.2.1
      rw [List.length_append, hol] at hpl
      have hx5 : 0 ≤ x ∧ x ≤ 5 := hxin.2
      clear hx hxin htq hcvq hrow HTK
      go_wp2_with fail
      refine (entryKey_is dir x HP.out.1 hx5 _).mono ?_
      rintro e w2 ⟨rfl, q2⟩
      have HS2 := HS.out.later q2
      have HS2h : Hid (Tl w vr w2 b rb mb L zs2 vz2 w.heap.size n (nodesX L (fun c => belowF L f c (depth + 1)) dir depth (xs.take k)) v (.slice (some ⟨g, o, none⟩) xs.length nc) xs) := HS2
      clear q2 HS HS2 y0
      go_wp2_with fail
      refine (look_is L b rb mb zs2 vz2 (kE dir x) _ HS2h.out.1.1 hrs (by omega) (by have := HP.out.1; unfold kE; omega) (by have := HS2h.out.1.2.1.len; omega)).mono ?_
      rintro e w3 ⟨rfl, vz3, hl3, hk3⟩
      rw [HT1.out]
      have HS3 : Hid (Tl w vr w3 b rb mb L (addR zs2 (kE dir x)) vz3 w.heap.size n (nodesX L (fun c => belowF L f c (depth + 1)) dir depth (xs.take k)) v (.slice (some ⟨g, o, none⟩) xs.length nc) xs) := HS2h.out.look hl3 (HS2h.out.1.2.1.add (by have := HP.out.1; unfold kE; omega)) hk3
      clear hl3 hk3 HS2h
      go_wp2_with fail
      refine (lookChild_is L b rb mb _ vz3 true c _ HS3.out.1.1 hrs (by omega) hc.1 (by have := HS3.out.1.2.1.len; omega) c cv (by unfold minC; split <;> omega) HT2.out).mono ?_
      rintro e w4 ⟨rfl, vz4, hl4, hk4⟩
      have HS4 : Hid (Tl w vr w4 b rb mb L (addR (addR zs2 (kE dir x)) (kI c)) vz4 w.heap.size n (nodesX L (fun c => belowF L f c (depth + 1)) dir depth (xs.take k)) v (.slice (some ⟨g, o, none⟩) xs.length nc) xs) := HS3.out.look hl4 (HS3.out.1.2.1.add (by unfold kI; omega)) hk4
      clear hl4 hk4 HS3
      generalize addR (addR zs2 (kE dir x)) (kI c) = zs4 at HS4
      generalize nodesX L (fun c => belowF L f c (depth + 1)) dir depth (xs.take k) = acc at HS4 HNX hol
      have HS5 : Hid (Tl w vr ((w4.alloc (.cells #[.int .i64 c, .int .i64 cv] 100)).alloc (.cells #[.int .i64 c, .int .i64 depth, .int .i64 x, .int .i64 cv] 40)) b rb mb L zs4 vz4 w.heap.size n acc v (.slice (some ⟨g, o, none⟩) xs.length nc) xs ∧ Blk2 ((w4.alloc (.cells #[.int .i64 c, .int .i64 cv] 100)).alloc (.cells #[.int .i64 c, .int .i64 depth, .int .i64 x, .int .i64 cv] 40)) w4.heap.size (.int .i64 c) (.int .i64 cv) ∧ Off ((w4.alloc (.cells #[.int .i64 c, .int .i64 cv] 100)).alloc (.cells #[.int .i64 c, .int .i64 depth, .int .i64 x, .int .i64 cv] 40)) w.heap.size w.heap.size v w4.heap.size) := by
        refine ⟨HS4.out.later ((below_alloc _ _).alloc (by simp) _), (Blk2.new _ _ _ _).alloc _, by simp; omega, ?_, ?_, fun e => ?_⟩
        · exact fun e => by have := HS4.out.2.1.1.lt; omega
        · exact fun e => by have := HS4.out.2.1.1.lt; omega
        · have := (OwnM.block HS4.out.2.1.2.1 _ e).2; omega
      go_wp2_with fail
      generalize hY : (w4.alloc (.cells #[.int .i64 c, .int .i64 cv] 100)).alloc (.cells #[.int .i64 c, .int .i64 depth, .int .i64 x, .int .i64 cv] 40) = w5 at HS5 ⊢
      have hrw : Row w5 0 4 1 (fun p => [c, depth, x, cv].getD p 0) (.slice (some ⟨w4.heap.size + 1, 0, none⟩) 1 1) := by
        subst hY
        have := row_lit4 (w4.alloc (.cells #[.int .i64 c, .int .i64 cv] 100)) c depth x cv 40
        rwa [World.size_alloc] at this
      clear hY HS4
      refine (tell_is w.heap.size n acc v _ 0 1 _ _ HS5.out.1.2.1.1 HS5.out.1.2.1.2.1 hrw (by omega)).mono ?_
      rintro e w6 ⟨rfl, v6, ht6⟩
      rw [nums_four] at ht6
      have HS6 : Hid (Tl w vr w6 b rb mb L zs4 vz4 w.heap.size (n + 1) (acc ++ [c, depth, x, cv]) v6 (.slice (some ⟨g, o, none⟩) xs.length nc) xs ∧ Blk2 w6 w4.heap.size (.int .i64 c) (.int .i64 cv)) := ⟨HS5.out.1.tell ht6, HS5.out.2.1.kept (ht6.2.2.off HS5.out.2.2).2⟩
      clear hrw ht6 HS5
      obtain ⟨⟨c0, c1⟩, _⟩ := HS6.out.2
      go_wp2_with fail
      refine (childDir_t c cv _).mono ?_
      rintro e w7 ⟨rfl, q7⟩
      have HS7 : Hid (Tl w vr w7 b rb mb L zs4 vz4 w.heap.size (n + 1) (acc ++ [c, depth, x, cv]) v6 (.slice (some ⟨g, o, none⟩) xs.length nc) xs ∧ Blk2 w7 w4.heap.size (.int .i64 c) (.int .i64 cv)) := ⟨HS6.out.1.later q7, HS6.out.2.later q7⟩
      clear q7 HS6 c0 c1
      obtain ⟨⟨c0, c1⟩, _⟩ := HS7.out.2
      by_cases hcv : cv = 1000
      · have dcv : (cv == 1000) = true := beq_iff_eq.2 hcv
        have hdc := hup hcv
        rw [if_pos hcv] at hpl
        have HNX2 : Hid (nodesX L (fun c => belowF L f c (depth + 1)) dir depth (xs.take (k + 1)) = (acc ++ [c, depth, x, cv]) ++ belowF L f c (depth + 1)) := by
          unfold Hid
          rw [HNX.out, if_pos hcv, List.append_assoc]
        clear hup hcv HNX
        have hdep2 : 0 ≤ depth + 1 ∧ depth + 1 ≤ 11 := by omega
        go_wp2_with fail
        refine (HIH.out c (depth + 1) zs4 vz4 _ HS7.out.1.1.1 HS7.out.1.1.2.1 hc (by have := HP.out; omega) (by have := HP.out; omega)).mono ?_
        rintro e w8 ⟨u, m, ys8, vy8, rfl, hu, hl8, hr8, hk8⟩
        have hum := OwnM.len hu
        have hself := nums_self (l := belowF L f c (depth + 1)) hum
        have HS8 : Hid (Tl w vr w8 b rb mb L ys8 vy8 w.heap.size (n + 1) (acc ++ [c, depth, x, cv]) v6 (.slice (some ⟨g, o, none⟩) xs.length nc) xs) := HS7.out.1.look hl8 hr8 hk8
        have HU : Hid (Row w8 w7.heap.size 4 m (fun p => (belowF L f c (depth + 1)).getD p 0) u) := (OwnM.rowL hu).1
        rw [List.length_append, hum] at hpl
        simp only [List.length_cons, List.length_nil] at hpl
        clear hu hl8 hr8 hk8 HS7 c0 c1
        go_wp2_with fail
        refine (tell_is w.heap.size (n + 1) _ v6 u _ m _ _ HS8.out.2.1.1 HS8.out.2.1.2.1 HU.out (by omega)).mono ?_
        rintro e w9 ⟨rfl, v9, ht9⟩
        rw [hself] at ht9
        have HS9 : Hid (Tl w vr w9 b rb mb L ys8 vy8 w.heap.size (n + 1 + m) (nodesX L (fun c => belowF L f c (depth + 1)) dir depth (xs.take (k + 1))) v9 (.slice (some ⟨g, o, none⟩) xs.length nc) xs) := by
          unfold Hid
          rw [HNX2.out]
          exact HS8.out.tell ht9
        clear ht9 HS8 HU hself
        go_wp2
        go_roundw
        case rel => exact ⟨k + 1, n + 1 + m, v9, ys8, vy8, by omega, by go_num, by omega, HS9⟩
        case measure => simp [intOf]; omega
      · have dcv : (cv == 1000) = false := beq_eq_false_iff_ne.2 hcv
        rw [if_neg hcv] at hpl
        simp only [List.append_nil, List.length_cons, List.length_nil] at hpl
        have HS8 : Hid (Tl w vr w7 b rb mb L zs4 vz4 w.heap.size (n + 1) (nodesX L (fun c => belowF L f c (depth + 1)) dir depth (xs.take (k + 1))) v6 (.slice (some ⟨g, o, none⟩) xs.length nc) xs) := by
          unfold Hid
          rw [HNX.out, if_neg hcv, List.append_nil]
          exact HS7.out.1
        clear hup hcv HNX HIH HS7 c0 c1
        go_wp2
        go_roundw
        case rel => exact ⟨k + 1, n + 1, v6, zs4, vz4, by omega, by go_num, by omega, HS8⟩
        case measure => simp [intOf]; omega
end Go.Proofs.YtbpppaolcgibnaaGreatDoor

namespace Go.Proofs.YtbpppaolcgibnaaGreatDoor
open Go.RowKit

/-- What TreeOf answers. -/
def TreAns (n : Nat) (F : Nat → Int) (c : Int) (N : Nat) (l : List Int) : Prop := (fsF n F ≠ 0 ∧ c = fsF n F ∧ N = 0 ∧ l = []) ∨ (fsF n F = 0 ∧ c = 0 ∧ l.length = N * 4 ∧ l = belowF (listOf F n) 10 0 1)
def ResTree (w : World) (c : Int) (N : Nat) (l : List Int) (e : Ending) (w' : World) : Prop := ∃ v, e = .returned (.agg #[.int .i64 c, v]) ∧ OwnM w' w.heap.size 40 4 v N l ∧ Below w.heap.size w w'
set_option maxRecDepth 100000 in
set_option maxHeartbeats 2000000 in
theorem specTree_is (y : Value) (B n : Nat) (F : Nat → Int) (c : Int) (N : Nat) (l : List Int) (w : World) (h : Row w B 2 n F y) (hn : n ≤ 1048576) (ha : TreAns n F c N l) :
    Calls Tryz.prog 7 #[y] w (ResTree w c N l) := by
  have H : Hid (Row w B 2 n F y) := h
  clear h
  rcases ha with ⟨h1, rfl, rfl, rfl⟩ | ⟨h1, rfl, hN, hl⟩
  · obtain ⟨f, hf⟩ : ∃ f, fsF n F = f := ⟨_, rfl⟩
    have HF : Hid (fsF n F = f) := hf
    have dd : (f != 0) = true := bne_iff_ne.2 (by rw [← hf]; exact h1)
    rw [hf]
    clear h1 hf
    go_enter Tryz.func7, Tryz.ntmps7
    go_wp2_with fail
    refine (specFs_is _ B n F _ (H.out.alloc _) hn).mono ?_
    rintro e w1 ⟨rfl, q1⟩
    rw [HF.out]
    have H1 : Hid (Blk2 w1 w.heap.size (.int .i64 0) (.slice none 0 0) ∧ Below w.heap.size w w1) := ⟨(Blk2.new w _ _ _).later q1, (below_alloc _ _).trans (q1.mono (by simp))⟩
    clear q1
    obtain ⟨⟨x0, x1⟩, y0, y1⟩ := H1.out.1
    go_wp2
    refine bodyPost_ret (v := .agg #[.int .i64 f, .slice none 0 0]) (by simp [results, Tryz.results7, go_sem, x0, x1]) rfl ⟨_, rfl, OwnM.nil _ _ _ _, ?_⟩
    exact (H1.out.2.setCell (by simp) _).setCell (by simp) _
  have HF : Hid (fsF n F = 0) := h1
  have hn2 := (pairs_rise (fsF_zero h1).1).2
  have HW : Hid (Rises (listOf F n) ∧ Tree (listOf F n)) := ⟨(pairs_rise (fsF_zero h1).1).1, whole_tree (fsF_zero h1).2⟩
  clear h1
  go_enter Tryz.func7, Tryz.ntmps7
  go_wp2_with fail
  refine (specFs_is _ B n F _ (H.out.alloc _) hn).mono ?_
  rintro e w1 ⟨rfl, q1⟩
  rw [HF.out]
  have H1 : Hid (Blk2 w1 w.heap.size (.int .i64 0) (.slice none 0 0) ∧ Below w.heap.size w w1) := ⟨(Blk2.new w _ _ _).later q1, (below_alloc _ _).trans (q1.mono (by simp))⟩
  clear q1
  go_wp2_with fail
  refine (l14Below_is (listOf F n) HW.out.2 (by rw [listOf_length]; omega) 10 0 1 _ B _ (row_list (H.out.later H1.out.2)) (by omega) (by decide) (by omega)).mono ?_
  rintro e w2 ⟨u, n2, rfl, hu, q2⟩
  rw [← hl] at hu
  obtain rfl : n2 = N := by have := OwnM.len hu; omega
  have HX : Hid (Blk2 w2 w.heap.size (.int .i64 0) (.slice none 0 0) ∧ Below w.heap.size w w2 ∧ OwnM w2 w1.heap.size 40 4 u n2 l) := ⟨H1.out.1.later q2, H1.out.2.trans (q2.mono H1.out.2.size), hu⟩
  have HL : Hid (w.heap.size < w1.heap.size) := H1.out.1.lt
  clear hu q2 H1 hl
  obtain ⟨uo, uc, rfl⟩ := OwnM.form HX.out.2.2
  obtain ⟨⟨x0, x1⟩, y0, y1⟩ := HX.out.1
  have HP : Hid (_ ∧ _) := (Blk2.put HX.out.1 (.int .i64 0) (.slice uo n2 uc)).1
  go_wp2
  refine bodyPost_ret (v := .agg #[.int .i64 0, .slice uo n2 uc]) (by simp [results, Tryz.results7, go_sem, HP.out.1, HP.out.2]) rfl ⟨_, rfl, ?_, (HX.out.2.1.setCell (by simp) _).setCell (by simp) _⟩
  have hi := HX.out.2.2
  have hlo := HL.out
  exact OwnM.monoP (OwnM.keptB hi (fun k hk => (Below.heap_setCell _ ⟨w.heap.size, 1, none⟩ _ k (by have := (OwnM.block hi k hk).1; simp; omega)).trans (Below.heap_setCell _ ⟨w.heap.size, 0, none⟩ _ k (by have := (OwnM.block hi k hk).1; simp; omega)))) (by omega)
set_option maxRecDepth 100000 in
set_option maxHeartbeats 2000000 in
theorem implTree_is (y : Value) (B n : Nat) (F : Nat → Int) (c : Int) (N : Nat) (l : List Int) (w : World) (h : Row w B 2 n F y) (hn : n ≤ 1048576) (ha : TreAns n F c N l) :
    Calls Tryz.prog 6 #[y] w (ResTree w c N l) := by
  have H : Hid (Row w B 2 n F y) := h
  clear h
  rcases ha with ⟨h1, rfl, rfl, rfl⟩ | ⟨h1, rfl, hN, hl⟩
  · obtain ⟨f, hf⟩ : ∃ f, fsF n F = f := ⟨_, rfl⟩
    have HF : Hid (fsF n F = f) := hf
    have dd : (f != 0) = true := bne_iff_ne.2 (by rw [← hf]; exact h1)
    rw [hf]
    clear h1 hf
    go_enter Tryz.func6, Tryz.ntmps6
    go_wp2_with fail
    refine (implFs_is _ B n F _ (H.out.alloc _) hn).mono ?_
    rintro e w1 ⟨rfl, q1⟩
    rw [HF.out]
    have H1 : Hid (Blk2 w1 w.heap.size (.int .i64 0) (.slice none 0 0) ∧ Below w.heap.size w w1) := ⟨(Blk2.new w _ _ _).later q1, (below_alloc _ _).trans (q1.mono (by simp))⟩
    clear q1
    obtain ⟨⟨x0, x1⟩, y0, y1⟩ := H1.out.1
    go_wp2
    refine bodyPost_ret (v := .agg #[.int .i64 f, .slice none 0 0]) (by simp [results, Tryz.results6, go_sem, x0, x1]) rfl ⟨_, rfl, OwnM.nil _ _ _ _, ?_⟩
    exact (H1.out.2.setCell (by simp) _).setCell (by simp) _
  have HF : Hid (fsF n F = 0) := h1
  have hn2 := (pairs_rise (fsF_zero h1).1).2
  have HW : Hid (Rises (listOf F n) ∧ Tree (listOf F n)) := ⟨(pairs_rise (fsF_zero h1).1).1, whole_tree (fsF_zero h1).2⟩
  clear h1
  go_enter Tryz.func6, Tryz.ntmps6
  go_wp2_with fail
  refine (implFs_is _ B n F _ (H.out.alloc _) hn).mono ?_
  rintro e w1 ⟨rfl, q1⟩
  rw [HF.out]
  have H1 : Hid (Blk2 w1 w.heap.size (.int .i64 0) (.slice none 0 0) ∧ Below w.heap.size w w1) := ⟨(Blk2.new w _ _ _).later q1, (below_alloc _ _).trans (q1.mono (by simp))⟩
  clear q1
  go_wp2_with fail
  refine (lookAt_is (listOf F n) _ B _ (row_list (H.out.later H1.out.2)) HW.out.1 (by rw [listOf_length]; omega)).mono ?_
  rintro e w2 ⟨b, rb, mb, rfl, hlk, hrb, q2⟩
  have H2 : Hid (Blk2 w2 w.heap.size (.int .i64 0) (.slice none 0 0) ∧ Below w.heap.size w w2 ∧ Looks w2 b rb mb (listOf F n) [] (.slice none 0 0) ∧ w1.heap.size ≤ rb ∧ w1.heap.size ≤ w2.heap.size) := ⟨H1.out.1.later q2, H1.out.2.trans (q2.mono H1.out.2.size), hlk, hrb, q2.size⟩
  have HL1 : Hid (w.heap.size < w1.heap.size) := H1.out.1.lt
  clear hlk hrb q2 H1
  go_wp2_with fail
  refine (below_is (listOf F n) HW.out.2 HW.out.1 (by rw [listOf_length]; omega) b rb mb 10 0 1 [] _ _ H2.out.2.2.1 ReadsOk.nil (by omega) (by decide) (by omega)).mono ?_
  rintro e w3 ⟨u, n2, ys, vy, rfl, hu, hl3, hr3, hk3⟩
  rw [← hl] at hu
  obtain rfl : n2 = N := by have := OwnM.len hu; omega
  have hord := H2.out.2.2.1.2.2.2.2
  have hrb := H2.out.2.2.2.1
  have HX : Hid (Blk2 w3 w.heap.size (.int .i64 0) (.slice none 0 0) ∧ Below w.heap.size w w3 ∧ OwnM w3 w2.heap.size 40 4 u n2 l) := by
    have hL := HL1.out
    refine ⟨H2.out.1.kept (hk3.2.2.1 w.heap.size H2.out.1.lt (by omega) (by omega) (fun e => by cases e)), H2.out.2.1.trans (hk3.toBelow H2.out.2.1.size (by omega) (by omega) (fun k hk => by cases hk)), hu⟩
  have HL : Hid (w.heap.size < w2.heap.size) := H2.out.1.lt
  clear hu hl3 hr3 hk3 H2 hl hord hrb
  obtain ⟨uo, uc, rfl⟩ := OwnM.form HX.out.2.2
  obtain ⟨⟨x0, x1⟩, y0, y1⟩ := HX.out.1
  have HP : Hid (_ ∧ _) := (Blk2.put HX.out.1 (.int .i64 0) (.slice uo n2 uc)).1
  go_wp2
  refine bodyPost_ret (v := .agg #[.int .i64 0, .slice uo n2 uc]) (by simp [results, Tryz.results6, go_sem, HP.out.1, HP.out.2]) rfl ⟨_, rfl, ?_, (HX.out.2.1.setCell (by simp) _).setCell (by simp) _⟩
  have hi := HX.out.2.2
  have hlo := HL.out
  exact OwnM.monoP (OwnM.keptB hi (fun k hk => (Below.heap_setCell _ ⟨w.heap.size, 1, none⟩ _ k (by have := (OwnM.block hi k hk).1; simp; omega)).trans (Below.heap_setCell _ ⟨w.heap.size, 0, none⟩ _ k (by have := (OwnM.block hi k hk).1; simp; omega)))) (by omega)
end Go.Proofs.YtbpppaolcgibnaaGreatDoor

namespace Go.Proofs.YtbpppaolcgibnaaGreatDoor
open Go.RowKit Go.Shelf

theorem conv_oneD (v : Int) (w : World) (b : Nat) (h : w.cell? ⟨b, 0, none⟩ = some (.int .u8 v)) : (convert 22 9 (.slice (some ⟨b, 0, none⟩) 1 1)).run Tryz.prog w = .ok (.string ⟨#[UInt8.ofNat v.toNat]⟩) w := by
  rw [run_convert_bytes_string _ 22 9 5 _ 1 1 Tryz.underlying22 Tryz.underlying5 Tryz.underlying9]
  have hl := run_loadCells_list (P := Tryz.prog) w ⟨b, 0, none⟩ [.int .u8 v] (fun j x hj => by
    have hj0 : j = 0 := by
      have := (List.getElem?_eq_some_iff.1 hj).1
      simpa using this
    subst hj0
    have hx : Value.int .u8 v = x := by simpa using hj
    subst hx
    exact h)
  rw [run_bytesToString _ _ 1 1 [v] (by simpa using hl)]
  rfl
theorem wrapD_i64 (n : Int) (h0 : 0 ≤ n) (h1 : n ≤ 9223372036854775807) : IntKind.i64.wrap n = n := by
  simp [IntKind.wrap, IntKind.signed, IntKind.bits]; omega
theorem wrapD_u8 (n : Int) (h0 : 0 ≤ n) (h1 : n ≤ 255) : IntKind.u8.wrap n = n := by
  simp [IntKind.wrap, IntKind.signed, IntKind.bits]; omega
theorem cell_oneD (v : Int) (w : World) : (w.alloc (.cells #[.int .u8 v] 5)).cell? ⟨w.heap.size, 0, none⟩ = some (.int .u8 v) := World.cell?_alloc_mark w _ _ _ 0
/-- The decimal text of n. -/
def decT (n : Nat) : ByteArray := ⟨(Lib.decDigits n).toArray⟩
theorem decT_one {n : Nat} (h : n < 10) : decT n = ⟨#[UInt8.ofNat (48 + n)]⟩ := by unfold decT; rw [Lib.decDigits_one h]
theorem decT_more {n : Nat} (h : ¬ n < 10) : decT n = decT (n / 10) ++ ⟨#[UInt8.ofNat (48 + n % 10)]⟩ := by
  unfold decT
  rw [Lib.decDigits, dif_neg h]
  apply ByteArray.ext
  simp
theorem decT_size : ∀ (f n : Nat), n < 10 ^ (f + 1) → (decT n).size ≤ f + 1
  | 0, n, h => by rw [decT_one (by simpa using h)]; exact Nat.le_refl 1
  | f + 1, n, h => by
    by_cases h1 : n < 10
    · rw [decT_one h1]; show 1 ≤ _; omega
    · rw [decT_more h1, ByteArray.size_append]
      have := decT_size f (n / 10) (by rw [Nat.pow_succ] at h; omega)
      show _ + 1 ≤ _
      omega
set_option maxRecDepth 100000 in
set_option maxHeartbeats 2000000 in
theorem l1Digits_int : ∀ (f n : Nat) (z : Int) (w : World), Hid (z = n ∧ n < 10 ^ (f + 1)) → 0 ≤ z → f ≤ 17 →
    Calls Tryz.prog 67 #[.int .i64 z] w fun e w' => e = .returned (.string (decT n)) ∧ Below w.heap.size w w' := by
  intro f
  induction f with
  | zero =>
    intro n z w hz h0 hf
    have h9 : z ≤ 9 := by have := hz.out; simp at this; omega
    have HE : Hid (decT n = ⟨#[UInt8.ofNat (48 + z).toNat]⟩) := by
      have h := hz.out
      unfold Hid
      rw [decT_one (by simpa using h.2), show (48 + z).toNat = 48 + n by omega]
    have kc := fun w => conv_oneD (48 + z) _ _ (cell_oneD (48 + z) w)
    go_enter Tryz.func67, Tryz.ntmps67
    go_wp2
    go_ret
    exact ⟨by rw [HE.out]; rfl, (Below.refl _ _).alloc (Nat.le_refl _) _⟩
  | succ f ih =>
    intro n z w hz h0 hf
    by_cases h9 : z ≤ 9
    · exact ih n z w ⟨hz.out.1, by have := hz.out; exact Nat.lt_of_lt_of_le (show n < 10 by omega) (Nat.le_self_pow (by omega) 10)⟩ h0 (by omega)
    · have HI : Hid (∃ c q : Int, 0 ≤ c ∧ c ≤ 9 ∧ 0 ≤ q ∧ Int.tmod z 10 = c ∧ Int.tdiv z 10 = q ∧ (decT (n / 10)).size ≤ 20 ∧ decT n = decT (n / 10) ++ ⟨#[UInt8.ofNat (48 + c).toNat]⟩ ∧ ∀ w, Calls Tryz.prog 67 #[.int .i64 q] w fun e w' => e = .returned (.string (decT (n / 10))) ∧ Below w.heap.size w w') := by
        obtain ⟨hzn, hlt⟩ := hz.out
        have ec : (48 + ((n % 10 : Nat) : Int)).toNat = 48 + n % 10 := by omega
        rw [Nat.pow_succ] at hlt
        refine ⟨((n % 10 : Nat) : Int), ((n / 10 : Nat) : Int), by omega, by omega, by omega, ?_, ?_, ?_, ?_, fun w => ih (n / 10) _ w ⟨rfl, by omega⟩ (by omega) (by omega)⟩
        · rw [Int.tmod_eq_emod_of_nonneg (by omega)]; omega
        · rw [Int.tdiv_eq_ediv_of_nonneg (by omega)]; omega
        · exact Nat.le_trans (decT_size f (n / 10) (by omega)) (by omega)
        · rw [ec]; exact decT_more (by omega)
      obtain ⟨c, q, c0, c9, q0, e1, e2, hs, hd, hC⟩ := HI.out
      have HC : Hid (∀ w, Calls Tryz.prog 67 #[.int .i64 q] w fun e w' => e = .returned (.string (decT (n / 10))) ∧ Below w.heap.size w w') := hC
      have HD : Hid (decT n = decT (n / 10) ++ ⟨#[UInt8.ofNat (48 + c).toNat]⟩) := hd
      clear HI hC hd ih
      have q1 : q ≤ z := by have := Int.tdiv_eq_ediv_of_nonneg (b := 10) h0; omega
      have hz1 : z < 1000000000000000000 := by have := hz.out; have : 10 ^ (f + 1 + 1) ≤ 10 ^ 18 := Nat.pow_le_pow_right (by omega) (by omega); omega
      have hw1 : IntKind.i64.wrap q = q := wrapD_i64 q (by omega) (by omega)
      have hw2 : IntKind.i64.wrap (48 + c) = 48 + c := wrapD_i64 _ (by omega) (by omega)
      have hw3 : IntKind.u8.wrap (48 + c) = 48 + c := wrapD_u8 _ (by omega) (by omega)
      generalize decT (n / 10) = D at *
      have ka := fun w => run_string_add_sum (P := Tryz.prog) w D ⟨#[UInt8.ofNat (48 + c).toNat]⟩ (by show _ + 1 ≤ _; omega)
      go_enter Tryz.func67, Tryz.ntmps67
      go_wp2_with fail
      refine wp_region_held_drew (S := fun _ => True) (by kernel_rfl) trivial (fun hS => ?_)
      have HB0 : Hid (Below w.heap.size w w.drew) := (Below.refl _ w).drew
      generalize w.drew = wa at *
      refine tkH 0 ?_ hS (fun wx hx => ?_) ?_; rotate_left
      · go_simp; try with_reducible rfl
      refine tkH 1 ?_ hS (fun wx hx => ?_) ?_; rotate_left
      · go_simp; try with_reducible rfl
      refine tkH 3 ?_ hS (fun wx hx => ?_) ?_; rotate_left
      · go_simp; try with_reducible rfl
      refine tkH 4 ?_ hS (fun wx hx => ?_) ?_; rotate_left
      · go_simp; try with_reducible rfl
      refine tkH 5 ?_ hS (fun wx hx => ?_) ?_; rotate_left
      · go_simp; try with_reducible rfl
      refine tkH 6 ?_ hS (fun wx hx => ?_) ?_; rotate_left
      · go_simp; try with_reducible rfl
      refine wpAnyH_ready (rs := [2, 7]) (by kernel_rfl) (by simp) ?_
      refine AllReadyH.cons rfl (fun K hK => ?_) (AllReadyH.cons rfl (fun K hK => ?_) AllReadyH.nil)
      · go_simp
        go_wp2_with fail
        refine (HC.out _).mono ?_
        rintro e w1 ⟨rfl, b1⟩
        go_wp2_with fail
        refine hK.out _ _ trivial (fun hS => ?_)
        clear hK K
        refine rdH 7 (fun K hK => ?_)
        go_simp
        refine hK.out _ _ trivial (fun hS => ?_)
        clear hK K
        refine rdH 8 (fun K hK => ?_)
        have kc := conv_oneD (48 + c) _ _ (cell_oneD (48 + c) w1)
        go_simp
        refine hK.out _ _ trivial (fun hS => ?_)
        clear hK K
        refine tkH 9 ?_ hS (fun wx hx => ?_) ?_; rotate_left
        · go_simp; try with_reducible rfl
        refine tkH 10 ?_ hS (fun wx hx => ?_) ?_; rotate_left
        · go_simp; try with_reducible rfl
        refine wpAnyH_done (by kernel_rfl) ?_ _
        clear hS
        go_simp
        go_wp2
        go_ret
        exact ⟨by rw [HD.out]; rfl, (HB0.out.trans (b1.mono HB0.out.size)).alloc (by have := HB0.out.size; have := b1.size; omega) _⟩
      · go_simp
        refine hK.out _ _ trivial (fun hS => ?_)
        clear hK K
        refine wpAnyH_ready (rs := [2, 8]) (by kernel_rfl) (by simp) ?_
        refine AllReadyH.cons rfl (fun K hK => ?_) (AllReadyH.cons rfl (fun K hK => ?_) AllReadyH.nil)
        · go_simp
          go_wp2_with fail
          refine (HC.out _).mono ?_
          rintro e w1 ⟨rfl, b1⟩
          go_wp2_with fail
          refine hK.out _ _ trivial (fun hS => ?_)
          clear hK K
          refine rdH 8 (fun K hK => ?_)
          have kc := conv_oneD (48 + c) w1 wa.heap.size (by rw [b1.cell (by simp)]; exact cell_oneD (48 + c) wa)
          go_simp
          refine hK.out _ _ trivial (fun hS => ?_)
          clear hK K
          refine tkH 9 ?_ hS (fun wx hx => ?_) ?_; rotate_left
          · go_simp; try with_reducible rfl
          refine tkH 10 ?_ hS (fun wx hx => ?_) ?_; rotate_left
          · go_simp; try with_reducible rfl
          refine wpAnyH_done (by kernel_rfl) ?_ _
          clear hS
          go_simp
          go_wp2
          go_ret
          exact ⟨by rw [HD.out]; rfl, (HB0.out.alloc HB0.out.size _).trans (b1.mono (by have := HB0.out.size; simp; omega))⟩
        · have kc := conv_oneD (48 + c) _ _ (cell_oneD (48 + c) wa)
          go_simp
          refine hK.out _ _ trivial (fun hS => ?_)
          clear hK K
          refine rdH 2 (fun K hK => ?_)
          go_simp
          go_wp2_with fail
          refine (HC.out _).mono ?_
          rintro e w1 ⟨rfl, b1⟩
          go_wp2_with fail
          refine hK.out _ _ trivial (fun hS => ?_)
          clear hK K
          refine tkH 9 ?_ hS (fun wx hx => ?_) ?_; rotate_left
          · go_simp; try with_reducible rfl
          refine tkH 10 ?_ hS (fun wx hx => ?_) ?_; rotate_left
          · go_simp; try with_reducible rfl
          refine wpAnyH_done (by kernel_rfl) ?_ _
          clear hS
          go_simp
          go_wp2
          go_ret
          exact ⟨by rw [HD.out]; rfl, (HB0.out.alloc HB0.out.size _).trans (b1.mono (by have := HB0.out.size; simp; omega))⟩
theorem l1Digits_nat (n : Nat) (w : World) (h : n < 1000000000000000000) :
    Calls Tryz.prog 67 #[.int .i64 n] w fun e w' => e = .returned (.string (decT n)) ∧ Below w.heap.size w w' :=
  l1Digits_int 17 n n w ⟨rfl, by simpa using h⟩ (by omega) (by omega)
/-- The library's table of powers of ten, as its text lays it. -/
def Pow10 (w : World) : Prop := Lib.TabIs Tryz.prog w "internal/strconv.uint64pow10" .u64 Lib.pow10Tab
theorem belowD (w : World) (k : Nat) (os : Array Obj) : Below w.heap.size w (Go.Sort.grow (w.drewN k) os) :=
  ⟨rfl, rfl, rfl, by show w.heap.size ≤ (w.heap ++ os).size; rw [Array.size_append]; omega, fun j hj => by show (w.heap ++ os)[j]? = _; rw [Array.getElem?_append_left hj]⟩
theorem decimal_is (n : Nat) (w : World) (hT : Pow10 w) (h : n < 1000000000000000000) :
    Calls Tryz.prog 66 #[.int .i64 n] w fun e w' => e = .returned (.string (decT n)) ∧ Below w.heap.size w w' := by
  have HF : Hid (∀ w, Pow10 w → Calls Tryz.prog 89 #[.int .i64 n, .int .i64 10] w fun e w' => e = .returned (.string (decT n)) ∧ Below w.heap.size w w') := by
    intro w hT
    refine (Any.strconv_FormatInt_10 Tryz.laysFormat n (by omega) (by omega) w hT).mono ?_
    rintro e w' ⟨rfl, k, os, rfl⟩
    refine ⟨?_, belowD w k os⟩
    unfold decT
    rw [Lib.itoa_nonneg]
  have HT : Hid (Pow10 w) := hT
  clear hT
  generalize decT n = D at *
  go_enter Tryz.func66, Tryz.ntmps66
  go_wp2_with fail
  refine (HF.out _ HT.out).mono ?_
  rintro e w1 ⟨rfl, b1⟩
  have B1 : Hid (Below w.heap.size w w1) := b1
  clear b1
  go_wp2
  go_ret
  exact ⟨rfl, B1.out⟩
/-- The table stands where nothing that was there has turned. -/
theorem Pow10.later {w w' : World} (h : Pow10 w) (hb : Below w.heap.size w w') : Pow10 w' := by
  have hg : Tryz.prog.globalNamed "internal/strconv.uint64pow10" = some (Tryz.prog.globalNamed "internal/strconv.uint64pow10" |>.getD 0) := by kernel_rfl
  unfold Pow10 Lib.TabIs World.var? at h ⊢
  rw [hg] at h ⊢
  generalize (Tryz.prog.globalNamed "internal/strconv.uint64pow10" |>.getD 0) = g at h ⊢
  simp only [Option.bind_some] at h ⊢
  have hlt : g < w.heap.size := by
    rcases Nat.lt_or_ge g w.heap.size with h' | h'
    · exact h'
    · rw [Array.getElem?_eq_none h'] at h; cases h
  rw [hb.block g hlt]
  exact h
end Go.Proofs.YtbpppaolcgibnaaGreatDoor

namespace Go.Proofs.YtbpppaolcgibnaaGreatDoor
open Go.RowKit

/-- A node may be told: its inode, depth, name, value. -/
def NodeOk (i d m v : Int) : Prop := (0 ≤ i ∧ i ≤ 9999) ∧ (1 ≤ d ∧ d ≤ 20) ∧ (0 ≤ m ∧ m ≤ 9999) ∧ (0 ≤ v ∧ v ≤ 9999)
instance (i d m v : Int) : Decidable (NodeOk i d m v) := by unfold NodeOk; infer_instance
def indT (c : Nat) : ByteArray := ⟨(Lib.repeatL [32, 32] c).toArray⟩
theorem appB (a b c : ByteArray) : a ++ (b ++ c) = a ++ b ++ c := by
  apply ByteArray.ext
  simp [Array.append_assoc]
/-- The line of a node. -/
def lineT (i d m v : Nat) : ByteArray := indT (d - 1) ++ decT m ++ ⟨#[58, 32]⟩ ++ decT i ++ ⟨#[32]⟩ ++ decT v ++ ⟨#[10]⟩
theorem lineT_on (out : ByteArray) (i d m v : Nat) : out ++ lineT i d m v = out ++ indT (d - 1) ++ decT m ++ ⟨#[58, 32]⟩ ++ decT i ++ ⟨#[32]⟩ ++ decT v ++ ⟨#[10]⟩ := by
  unfold lineT
  simp only [appB]
/-- The text of the first k nodes. -/
def textT (F : Nat → Int) : Nat → ByteArray
  | 0 => ⟨#[]⟩
  | k + 1 => textT F k ++ lineT (F (k * 4)).toNat (F (k * 4 + 1)).toNat (F (k * 4 + 2)).toNat (F (k * 4 + 3)).toNat
theorem indT_zero : indT 0 = ⟨#[]⟩ := rfl
theorem indT_succ (c : Nat) : indT (c + 1) = indT c ++ ⟨#[32, 32]⟩ := by
  unfold indT
  rw [Lib.repeatL_add, Lib.repeatL_one]
  apply ByteArray.ext
  simp
theorem indT_size (c : Nat) : (indT c).size = c * 2 := by
  induction c with
  | zero => rfl
  | succ c ih => rw [indT_succ, ByteArray.size_append, ih]; show _ + 2 = _; omega
theorem nodeIn_is (v lo hi : Int) (r : Bool) (hr : decide (lo ≤ v ∧ v ≤ hi) = r) (w : World) :
    Calls Tryz.prog 36 #[.int .i64 v, .int .i64 lo, .int .i64 hi] w fun e w' => e = .returned (.bool r) ∧ w' = w := by
  by_cases h1 : lo ≤ v
  · by_cases h2 : v ≤ hi
    · have d : decide (v ≤ hi) = true := decide_eq_true h2
      rw [decide_eq_true (show lo ≤ v ∧ v ≤ hi from ⟨h1, h2⟩)] at hr
      subst hr
      go_enter Tryz.func36, Tryz.ntmps36
      go_wp2
      go_ret
      exact ⟨rfl, rfl⟩
    · have d : decide (v ≤ hi) = false := decide_eq_false h2
      rw [decide_eq_false (show ¬ (lo ≤ v ∧ v ≤ hi) from fun h => h2 h.2)] at hr
      subst hr
      go_enter Tryz.func36, Tryz.ntmps36
      go_wp2
      go_ret
      exact ⟨rfl, rfl⟩
  · have d : decide (lo ≤ v) = false := decide_eq_false h1
    rw [decide_eq_false (show ¬ (lo ≤ v ∧ v ≤ hi) from fun h => h1 h.1)] at hr
    subst hr
    go_enter Tryz.func36, Tryz.ntmps36
    go_wp2
    go_ret
    exact ⟨rfl, rfl⟩
theorem nodeVal_is (v : Int) (r : Bool) (hr : decide (0 ≤ v ∧ v ≤ 9999) = r) (w : World) :
    Calls Tryz.prog 56 #[.int .i64 v] w fun e w' => e = .returned (.bool r) ∧ w' = w := by
  by_cases h1 : 0 ≤ v
  · by_cases h2 : v ≤ 9999
    · have d : decide (v ≤ 9999) = true := decide_eq_true h2
      rw [decide_eq_true (show 0 ≤ v ∧ v ≤ 9999 from ⟨h1, h2⟩)] at hr
      subst hr
      go_enter Tryz.func56, Tryz.ntmps56
      go_wp2
      go_ret
      exact ⟨rfl, rfl⟩
    · have d : decide (v ≤ 9999) = false := decide_eq_false h2
      rw [decide_eq_false (show ¬ (0 ≤ v ∧ v ≤ 9999) from fun h => h2 h.2)] at hr
      subst hr
      go_enter Tryz.func56, Tryz.ntmps56
      go_wp2
      go_ret
      exact ⟨rfl, rfl⟩
  · have d : decide (0 ≤ v) = false := decide_eq_false h1
    rw [decide_eq_false (show ¬ (0 ≤ v ∧ v ≤ 9999) from fun h => h1 h.1)] at hr
    subst hr
    go_enter Tryz.func56, Tryz.ntmps56
    go_wp2
    go_ret
    exact ⟨rfl, rfl⟩
theorem nodeOk_and (i d m v : Int) : decide (NodeOk i d m v) = (decide (0 ≤ i ∧ i ≤ 9999) && decide (0 ≤ m ∧ m ≤ 9999) && decide (0 ≤ v ∧ v ≤ 9999) && decide (1 ≤ d ∧ d ≤ 20)) := by
  by_cases h : NodeOk i d m v
  · rw [decide_eq_true h]
    obtain ⟨h1, h2, h3, h4⟩ := h
    rw [decide_eq_true h1, decide_eq_true h2, decide_eq_true h3, decide_eq_true h4]
    rfl
  · rw [decide_eq_false h]
    cases hb : (decide (0 ≤ i ∧ i ≤ 9999) && decide (0 ≤ m ∧ m ≤ 9999) && decide (0 ≤ v ∧ v ≤ 9999) && decide (1 ≤ d ∧ d ≤ 20))
    · rfl
    · rw [Bool.and_eq_true, Bool.and_eq_true, Bool.and_eq_true, decide_eq_true_eq, decide_eq_true_eq, decide_eq_true_eq, decide_eq_true_eq] at hb
      exact absurd ⟨hb.1.1.1, hb.2, hb.1.1.2, hb.1.2⟩ h
set_option maxHeartbeats 1000000 in
theorem l16Node_is (i d m v : Int) (r : Bool) (hr : decide (NodeOk i d m v) = r) (w : World) :
    Calls Tryz.prog 32 #[.agg #[.int .i64 i, .int .i64 d, .int .i64 m, .int .i64 v]] w fun e w' => e = .returned (.bool r) ∧ Below w.heap.size w w' := by
  obtain ⟨bi, hi⟩ : ∃ b, decide (0 ≤ i ∧ i ≤ 9999) = b := ⟨_, rfl⟩
  obtain ⟨bm, hm⟩ : ∃ b, decide (0 ≤ m ∧ m ≤ 9999) = b := ⟨_, rfl⟩
  obtain ⟨bv, hv⟩ : ∃ b, decide (0 ≤ v ∧ v ≤ 9999) = b := ⟨_, rfl⟩
  obtain ⟨bd, hd⟩ : ∃ b, decide (1 ≤ d ∧ d ≤ 20) = b := ⟨_, rfl⟩
  rw [nodeOk_and, hi, hm, hv, hd] at hr
  have HI : Hid (∀ w, Calls Tryz.prog 36 #[.int .i64 i, .int .i64 0, .int .i64 9999] w fun e w' => e = .returned (.bool bi) ∧ w' = w) := fun w => nodeIn_is _ _ _ _ hi w
  have HM : Hid (∀ w, Calls Tryz.prog 36 #[.int .i64 m, .int .i64 0, .int .i64 9999] w fun e w' => e = .returned (.bool bm) ∧ w' = w) := fun w => nodeIn_is _ _ _ _ hm w
  have HV : Hid (∀ w, Calls Tryz.prog 36 #[.int .i64 v, .int .i64 0, .int .i64 9999] w fun e w' => e = .returned (.bool bv) ∧ w' = w) := fun w => nodeIn_is _ _ _ _ hv w
  have HD : Hid (∀ w, Calls Tryz.prog 36 #[.int .i64 d, .int .i64 1, .int .i64 20] w fun e w' => e = .returned (.bool bd) ∧ w' = w) := fun w => nodeIn_is _ _ _ _ hd w
  subst hr
  clear hi hm hv hd
  go_enter Tryz.func32, Tryz.ntmps32
  go_wp2_with fail
  refine (HI.out _).mono ?_
  rintro e wq ⟨rfl, rfl⟩
  cases bi
  · go_wp2
    go_ret
    exact ⟨rfl, below_alloc _ _⟩
  go_wp2_with fail
  refine (HM.out _).mono ?_
  rintro e wq ⟨rfl, rfl⟩
  cases bm
  · go_wp2
    go_ret
    exact ⟨rfl, below_alloc _ _⟩
  go_wp2_with fail
  refine (HV.out _).mono ?_
  rintro e wq ⟨rfl, rfl⟩
  cases bv
  · go_wp2
    go_ret
    exact ⟨rfl, below_alloc _ _⟩
  go_wp2_with fail
  refine (HD.out _).mono ?_
  rintro e wq ⟨rfl, rfl⟩
  go_wp2
  go_ret
  exact ⟨rfl, below_alloc _ _⟩
set_option maxHeartbeats 1000000 in
theorem nodeFits_is (i d m v : Int) (r : Bool) (hr : decide (NodeOk i d m v) = r) (w : World) :
    Calls Tryz.prog 28 #[.agg #[.int .i64 i, .int .i64 d, .int .i64 m, .int .i64 v]] w fun e w' => e = .returned (.bool r) ∧ Below w.heap.size w w' := by
  obtain ⟨bi, hi⟩ : ∃ b, decide (0 ≤ i ∧ i ≤ 9999) = b := ⟨_, rfl⟩
  obtain ⟨bm, hm⟩ : ∃ b, decide (0 ≤ m ∧ m ≤ 9999) = b := ⟨_, rfl⟩
  obtain ⟨bv, hv⟩ : ∃ b, decide (0 ≤ v ∧ v ≤ 9999) = b := ⟨_, rfl⟩
  have HI : Hid (∀ w, Calls Tryz.prog 56 #[.int .i64 i] w fun e w' => e = .returned (.bool bi) ∧ w' = w) := fun w => nodeVal_is _ _ hi w
  have HM : Hid (∀ w, Calls Tryz.prog 56 #[.int .i64 m] w fun e w' => e = .returned (.bool bm) ∧ w' = w) := fun w => nodeVal_is _ _ hm w
  have HV : Hid (∀ w, Calls Tryz.prog 56 #[.int .i64 v] w fun e w' => e = .returned (.bool bv) ∧ w' = w) := fun w => nodeVal_is _ _ hv w
  rw [nodeOk_and, hi, hm, hv] at hr
  clear hi hm hv
  by_cases h1 : 1 ≤ d
  case neg =>
    rw [decide_eq_false (show ¬ (1 ≤ d ∧ d ≤ 20) from fun h => h1 h.1), Bool.and_false] at hr
    subst hr
    have dd : decide (1 ≤ d) = false := decide_eq_false h1
    go_enter Tryz.func28, Tryz.ntmps28
    go_wp2
    go_ret
    exact ⟨rfl, below_alloc _ _⟩
  by_cases h2 : d ≤ 20
  case neg =>
    rw [decide_eq_false (show ¬ (1 ≤ d ∧ d ≤ 20) from fun h => h2 h.2), Bool.and_false] at hr
    subst hr
    have dd : decide (d ≤ 20) = false := decide_eq_false h2
    go_enter Tryz.func28, Tryz.ntmps28
    go_wp2
    go_ret
    exact ⟨rfl, below_alloc _ _⟩
  rw [decide_eq_true (show 1 ≤ d ∧ d ≤ 20 from ⟨h1, h2⟩), Bool.and_true] at hr
  subst hr
  go_enter Tryz.func28, Tryz.ntmps28
  go_wp2_with fail
  refine (HI.out _).mono ?_
  rintro e wq ⟨rfl, rfl⟩
  cases bi
  · go_wp2
    go_ret
    exact ⟨rfl, below_alloc _ _⟩
  go_wp2_with fail
  refine (HM.out _).mono ?_
  rintro e wq ⟨rfl, rfl⟩
  cases bm
  · go_wp2
    go_ret
    exact ⟨rfl, below_alloc _ _⟩
  go_wp2_with fail
  refine (HV.out _).mono ?_
  rintro e wq ⟨rfl, rfl⟩
  go_wp2
  go_ret
  exact ⟨rfl, below_alloc _ _⟩
end Go.Proofs.YtbpppaolcgibnaaGreatDoor

namespace Go.Proofs.YtbpppaolcgibnaaGreatDoor
open Go.RowKit

theorem lineT_size {i d m v : Nat} (hi : i ≤ 9999) (hd : d ≤ 20) (hm : m ≤ 9999) (hv : v ≤ 9999) : (lineT i d m v).size ≤ 60 := by
  have h1 := decT_size 3 i (by omega)
  have h2 := decT_size 3 m (by omega)
  have h3 := decT_size 3 v (by omega)
  unfold lineT
  simp only [ByteArray.size_append, indT_size]
  show (d - 1) * 2 + _ + 2 + _ + 1 + _ + 1 ≤ 60
  omega
/-- Every one of the first n nodes may be told. -/
def AllOk (F : Nat → Int) (n : Nat) : Prop := ∀ k, k < n → NodeOk (F (k * 4)) (F (k * 4 + 1)) (F (k * 4 + 2)) (F (k * 4 + 3))
theorem textT_size {F : Nat → Int} : ∀ {n : Nat}, AllOk F n → (textT F n).size ≤ 60 * n
  | 0, _ => Nat.zero_le _
  | n + 1, h => by
    rw [textT, ByteArray.size_append]
    have h0 := textT_size (n := n) (fun k hk => h k (by omega))
    obtain ⟨h1, h2, h3, h4⟩ := h n (by omega)
    have := lineT_size (i := (F (n * 4)).toNat) (d := (F (n * 4 + 1)).toNat) (m := (F (n * 4 + 2)).toNat) (v := (F (n * 4 + 3)).toNat) (by omega) (by omega) (by omega) (by omega)
    omega
/-- What the region that writes a line stands on: the node's cells. -/
def Node4 (g o : Nat) (i d m v : Int) (x : World) : Prop := x.cell? ⟨g, o, none⟩ = some (.int .i64 i) ∧ x.cell? ⟨g, o + 1, none⟩ = some (.int .i64 d) ∧ x.cell? ⟨g, o + 2, none⟩ = some (.int .i64 m) ∧ x.cell? ⟨g, o + 3, none⟩ = some (.int .i64 v)
theorem Node4.later {g o : Nat} {i d m v : Int} {x x' : World} (h : Node4 g o i d m v x) (hb : Below x.heap.size x x') : Node4 g o i d m v x' := by
  obtain ⟨h0, h1, h2, h3⟩ := h
  have hg := World.block_lt_of_cell? x _ h0
  exact ⟨(hb.cell (p := ⟨g, o, none⟩) hg).trans h0, (hb.cell (p := ⟨g, o + 1, none⟩) hg).trans h1, (hb.cell (p := ⟨g, o + 2, none⟩) hg).trans h2, (hb.cell (p := ⟨g, o + 3, none⟩) hg).trans h3⟩
set_option maxRecDepth 100000 in
set_option maxHeartbeats 4000000 in
theorem l16Tree_is (ao : Option Addr) (n cp B : Nat) (F : Nat → Int) (w : World) (h : Row w B 4 n F (.slice ao n cp)) (hn : n ≤ 60) (hF : AllOk F n) :
    Calls Tryz.prog 33 #[.slice ao n cp] w fun e w' => e = .returned (.string (textT F n)) ∧ Below w.heap.size w w' := by
  have H : Hid (Row w B 4 n F (.slice ao n cp)) := h
  have HF : Hid (AllOk F n) := hF
  clear h hF
  go_enter Tryz.func33, Tryz.ntmps33
  go_wp2
  go_loopw [3, 4] (fun out i wr => ∃ (k : Nat) (O : ByteArray), k ≤ n ∧ i = .int .i64 k ∧ out = .string O ∧ O.size ≤ 60 * k ∧ Hid (O = textT F k ∧ Below w.heap.size w wr)) (fun _ i _ => n - (intOf i).toNat)
  case atStart => exact ⟨0, _, Nat.zero_le _, rfl, rfl, Nat.le_refl _, rfl, Below.refl _ _⟩
  case round =>
    obtain ⟨k, O, hk, rfl, rfl, hO, HR⟩ := hrel
    by_cases hlt : k < n
    case neg =>
      go_wp2
      go_ret
      exact ⟨by rw [HR.out.1, show k = n by omega]; rfl, HR.out.2⟩
    obtain ⟨g, o, rfl, _, hg, x0, x1, x2, x3⟩ := (H.out.later HR.out.2).at4 hlt
    have hok := HF.out k hlt
    obtain ⟨zi, zd, zm, zv⟩ := hok
    have HL : Hid (∃ i d m v : Nat, F (k * 4) = i ∧ F (k * 4 + 1) = d ∧ F (k * 4 + 2) = m ∧ F (k * 4 + 3) = v ∧ i ≤ 9999 ∧ 1 ≤ d ∧ d ≤ 20 ∧ m ≤ 9999 ∧ v ≤ 9999 ∧ O ++ lineT i d m v = textT F (k + 1)) := by
      refine ⟨(F (k * 4)).toNat, (F (k * 4 + 1)).toNat, (F (k * 4 + 2)).toNat, (F (k * 4 + 3)).toNat, by omega, by omega, by omega, by omega, by omega, by omega, by omega, by omega, by omega, ?_⟩
      rw [textT, HR.out.1]
    obtain ⟨i, d, m, v, e0, e1, e2, e3, hi, hd1, hd2, hm, hv, hT⟩ := HL.out
    rw [e0] at x0
    rw [e1] at x1
    rw [e2] at x2
    rw [e3] at x3
    have HT : Hid (O ++ lineT i d m v = textT F (k + 1)) := hT
    have HI : Hid (∀ w, Calls Tryz.prog 67 #[.int .i64 (i : Nat)] w fun e w' => e = .returned (.string (decT i)) ∧ Below w.heap.size w w') := fun w => l1Digits_nat i w (by omega)
    have HM : Hid (∀ w, Calls Tryz.prog 67 #[.int .i64 (m : Nat)] w fun e w' => e = .returned (.string (decT m)) ∧ Below w.heap.size w w') := fun w => l1Digits_nat m w (by omega)
    have HV : Hid (∀ w, Calls Tryz.prog 67 #[.int .i64 (v : Nat)] w fun e w' => e = .returned (.string (decT v)) ∧ Below w.heap.size w w') := fun w => l1Digits_nat v w (by omega)
    have HX : Hid (Node4 g (o + k * 4) i d m v wr) := ⟨x0, x1, x2, x3⟩
    have HBw : Hid (Below w.heap.size w wr) := HR.out.2
    clear HL hT e0 e1 e2 e3 zi zd zm zv x0 x2 x3 HR
    go_wp2_with fail
    go_loopw [3, 5] (fun out j wx => ∃ (c : Nat) (P : ByteArray), 1 ≤ c ∧ c ≤ d ∧ j = .int .i64 c ∧ out = .string P ∧ P.size ≤ O.size + 2 * c ∧ wx = wr ∧ Hid (P = O ++ indT (c - 1))) (fun _ j _ => d - (intOf j).toNat)
    case atStart => exact ⟨1, _, Nat.le_refl _, hd1, rfl, rfl, by omega, rfl, by
      unfold Hid
      apply ByteArray.ext
      simp [indT_zero]⟩
    case round =>
      obtain ⟨c, P, hc1, hcd, rfl, rfl, hP, rfl, HP⟩ := hrel
      have hkn : (k : Int) < (n : Int) := by omega
      by_cases hcl : c < d
      case pos =>
        have ka := fun w => run_string_add_sum (P := Tryz.prog) w P ⟨#[32, 32]⟩ (by show _ + 2 ≤ _; omega)
        have HN : Hid (P ++ ⟨#[32, 32]⟩ = O ++ indT (c + 1 - 1)) := by
          unfold Hid
          rw [HP.out, show c + 1 - 1 = (c - 1) + 1 by omega, indT_succ, appB]
        go_wp2
        go_roundw
        case rel => exact ⟨c + 1, _, by omega, by omega, by go_num, rfl, by rw [ByteArray.size_append]; show _ + 2 ≤ _; omega, trivial, HN⟩
        case measure => simp [intOf]; omega
      have hce : c = d := by omega
      have hPs : P.size ≤ 60 * k + 40 := by omega
      have hs1 := decT_size 3 i (by omega)
      have hs2 := decT_size 3 m (by omega)
      have hs3 := decT_size 3 v (by omega)
      have HQ : Hid (P ++ decT m ++ ⟨#[58, 32]⟩ ++ decT i ++ ⟨#[32]⟩ ++ decT v ++ ⟨#[10]⟩ = textT F (k + 1) ∧ (textT F (k + 1)).size ≤ 60 * (k + 1)) := ⟨by rw [← HT.out, HP.out, lineT_on, hce], textT_size (fun j hj => HF.out j (by omega))⟩
      generalize decT i = di at *
      generalize decT m = dm at *
      generalize decT v = dv at *
      have k1 := fun w => run_string_add_sum (P := Tryz.prog) w P dm (by omega)
      have k2 := fun w => run_string_add_sum (P := Tryz.prog) w (P ++ dm) ⟨#[58, 32]⟩ (by rw [ByteArray.size_append]; show _ + 2 ≤ _; omega)
      have k3 := fun w => run_string_add_sum (P := Tryz.prog) w (P ++ dm ++ ⟨#[58, 32]⟩) di (by rw [ByteArray.size_append, ByteArray.size_append]; show _ + 2 + _ ≤ _; omega)
      have k4 := fun w => run_string_add_sum (P := Tryz.prog) w (P ++ dm ++ ⟨#[58, 32]⟩ ++ di) ⟨#[32]⟩ (by rw [ByteArray.size_append, ByteArray.size_append, ByteArray.size_append]; show _ + 2 + _ + 1 ≤ _; omega)
      have k5 := fun w => run_string_add_sum (P := Tryz.prog) w (P ++ dm ++ ⟨#[58, 32]⟩ ++ di ++ ⟨#[32]⟩) dv (by rw [ByteArray.size_append, ByteArray.size_append, ByteArray.size_append, ByteArray.size_append]; show _ + 2 + _ + 1 + _ ≤ _; omega)
      have k6 := fun w => run_string_add_sum (P := Tryz.prog) w (P ++ dm ++ ⟨#[58, 32]⟩ ++ di ++ ⟨#[32]⟩ ++ dv) ⟨#[10]⟩ (by rw [ByteArray.size_append, ByteArray.size_append, ByteArray.size_append, ByteArray.size_append, ByteArray.size_append]; show _ + 2 + _ + 1 + _ + 1 ≤ _; omega)
      clear hce hs1 hs2 hs3 HP HT hP hO hPs
      go_wp2_with fail
      refine wp_region_held_drew (S := Node4 g (o + k * 4) i d m v) (by kernel_rfl) HX.out (fun hS => ?_)
      have HB0 : Hid (Below w.heap.size w wr.drew) := HBw.out.drew
      generalize wr.drew = wa at *
      refine tkH 0 ?_ hS (fun wx hx => ?_) ?_; rotate_left
      · obtain ⟨hx0, hx1, hx2, hx3⟩ := hx; go_simp; try with_reducible rfl
      refine tkH 1 ?_ hS (fun wx hx => ?_) ?_; rotate_left
      · obtain ⟨hx0, hx1, hx2, hx3⟩ := hx; go_simp; try with_reducible rfl
      refine tkH 2 ?_ hS (fun wx hx => ?_) ?_; rotate_left
      · obtain ⟨hx0, hx1, hx2, hx3⟩ := hx; go_simp; try with_reducible rfl
      refine tkH 3 ?_ hS (fun wx hx => ?_) ?_; rotate_left
      · obtain ⟨hx0, hx1, hx2, hx3⟩ := hx; go_simp; try with_reducible rfl
      refine tkH 4 ?_ hS (fun wx hx => ?_) ?_; rotate_left
      · obtain ⟨hx0, hx1, hx2, hx3⟩ := hx; go_simp; try with_reducible rfl
      refine tkH 5 ?_ hS (fun wx hx => ?_) ?_; rotate_left
      · obtain ⟨hx0, hx1, hx2, hx3⟩ := hx; go_simp; try with_reducible rfl
      refine tkH 9 ?_ hS (fun wx hx => ?_) ?_; rotate_left
      · obtain ⟨hx0, hx1, hx2, hx3⟩ := hx; go_simp; try with_reducible rfl
      refine tkH 10 ?_ hS (fun wx hx => ?_) ?_; rotate_left
      · obtain ⟨hx0, hx1, hx2, hx3⟩ := hx; go_simp; try with_reducible rfl
      refine tkH 11 ?_ hS (fun wx hx => ?_) ?_; rotate_left
      · obtain ⟨hx0, hx1, hx2, hx3⟩ := hx; go_simp; try with_reducible rfl
      refine tkH 12 ?_ hS (fun wx hx => ?_) ?_; rotate_left
      · obtain ⟨hx0, hx1, hx2, hx3⟩ := hx; go_simp; try with_reducible rfl
      refine tkH 13 ?_ hS (fun wx hx => ?_) ?_; rotate_left
      · obtain ⟨hx0, hx1, hx2, hx3⟩ := hx; go_simp; try with_reducible rfl
      refine tkH 17 ?_ hS (fun wx hx => ?_) ?_; rotate_left
      · obtain ⟨hx0, hx1, hx2, hx3⟩ := hx; go_simp; try with_reducible rfl
      refine tkH 18 ?_ hS (fun wx hx => ?_) ?_; rotate_left
      · obtain ⟨hx0, hx1, hx2, hx3⟩ := hx; go_simp; try with_reducible rfl
      refine tkH 19 ?_ hS (fun wx hx => ?_) ?_; rotate_left
      · obtain ⟨hx0, hx1, hx2, hx3⟩ := hx; go_simp; try with_reducible rfl
      refine tkH 20 ?_ hS (fun wx hx => ?_) ?_; rotate_left
      · obtain ⟨hx0, hx1, hx2, hx3⟩ := hx; go_simp; try with_reducible rfl
      refine tkH 21 ?_ hS (fun wx hx => ?_) ?_; rotate_left
      · obtain ⟨hx0, hx1, hx2, hx3⟩ := hx; go_simp; try with_reducible rfl
      refine rdH 6 (fun K hK => ?_)
      go_simp
      go_wp2_with fail
      refine (HM.out _).mono ?_
      rintro e wn ⟨rfl, qn⟩
      have hS' := hS.later qn
      have HBn : Hid (Below w.heap.size w wn) := HB0.out.trans (qn.mono HB0.out.size)
      clear qn hS HB0
      have HB0 := HBn
      clear HBn
      go_wp2_with fail
      refine hK.out _ _ hS' (fun hS => ?_)
      clear hK K hS'
      refine tkH 7 ?_ hS (fun wx hx => ?_) ?_; rotate_left
      · obtain ⟨hx0, hx1, hx2, hx3⟩ := hx; go_simp; try with_reducible rfl
      refine tkH 8 ?_ hS (fun wx hx => ?_) ?_; rotate_left
      · obtain ⟨hx0, hx1, hx2, hx3⟩ := hx; go_simp; try with_reducible rfl
      refine rdH 14 (fun K hK => ?_)
      go_simp
      go_wp2_with fail
      refine (HI.out _).mono ?_
      rintro e wn ⟨rfl, qn⟩
      have hS' := hS.later qn
      have HBn : Hid (Below w.heap.size w wn) := HB0.out.trans (qn.mono HB0.out.size)
      clear qn hS HB0
      have HB0 := HBn
      clear HBn
      go_wp2_with fail
      refine hK.out _ _ hS' (fun hS => ?_)
      clear hK K hS'
      refine tkH 15 ?_ hS (fun wx hx => ?_) ?_; rotate_left
      · obtain ⟨hx0, hx1, hx2, hx3⟩ := hx; go_simp; try with_reducible rfl
      refine tkH 16 ?_ hS (fun wx hx => ?_) ?_; rotate_left
      · obtain ⟨hx0, hx1, hx2, hx3⟩ := hx; go_simp; try with_reducible rfl
      refine rdH 22 (fun K hK => ?_)
      go_simp
      go_wp2_with fail
      refine (HV.out _).mono ?_
      rintro e wn ⟨rfl, qn⟩
      have hS' := hS.later qn
      have HBn : Hid (Below w.heap.size w wn) := HB0.out.trans (qn.mono HB0.out.size)
      clear qn hS HB0
      have HB0 := HBn
      clear HBn
      go_wp2_with fail
      refine hK.out _ _ hS' (fun hS => ?_)
      clear hK K hS'
      refine tkH 23 ?_ hS (fun wx hx => ?_) ?_; rotate_left
      · obtain ⟨hx0, hx1, hx2, hx3⟩ := hx; go_simp; try with_reducible rfl
      refine tkH 24 ?_ hS (fun wx hx => ?_) ?_; rotate_left
      · obtain ⟨hx0, hx1, hx2, hx3⟩ := hx; go_simp; try with_reducible rfl
      refine tkH 25 ?_ hS (fun wx hx => ?_) ?_; rotate_left
      · obtain ⟨hx0, hx1, hx2, hx3⟩ := hx; go_simp; try with_reducible rfl
      refine wpAnyH_done (by kernel_rfl) ?_ _
      clear hS
      go_simp
      go_wp2
      go_roundw
      case rel => exact ⟨k + 1, _, by omega, by go_num, rfl, by rw [HQ.out.1]; exact HQ.out.2, HQ.out.1, HB0.out⟩
      case measure => simp [intOf]; omega
instance (F : Nat → Int) (n : Nat) : Decidable (AllOk F n) := by unfold AllOk; exact Nat.decidableBallLT n _
/-- What both answer of n nodes: the code and the text. -/
def treeC (F : Nat → Int) (n : Nat) : Int := if 60 < n then 2 else if AllOk F n then 0 else 3
def treeX (F : Nat → Int) (n : Nat) : ByteArray := if 60 < n then ⟨#[]⟩ else if AllOk F n then textT F n else ⟨#[]⟩
theorem allOk_no {F : Nat → Int} {n : Nat} (h : ¬ AllOk F n) : ∃ k, k < n ∧ (∀ j, j < k → NodeOk (F (j * 4)) (F (j * 4 + 1)) (F (j * 4 + 2)) (F (j * 4 + 3))) ∧ ¬ NodeOk (F (k * 4)) (F (k * 4 + 1)) (F (k * 4 + 2)) (F (k * 4 + 3)) := by
  induction n with
  | zero => exact absurd (fun k hk => absurd hk (Nat.not_lt_zero _)) h
  | succ n ih =>
    by_cases h1 : AllOk F n
    · refine ⟨n, by omega, h1, fun h2 => h fun k hk => ?_⟩
      by_cases e : k < n
      · exact h1 k e
      · rw [show k = n by omega]; exact h2
    · obtain ⟨k, hk, q⟩ := ih h1
      exact ⟨k, by omega, q⟩
set_option maxHeartbeats 4000000 in
theorem specTreeText_is (ao : Option Addr) (n cp B : Nat) (F : Nat → Int) (w : World) (h : Row w B 4 n F (.slice ao n cp)) (hmax : n ≤ 1048576) :
    Calls Tryz.prog 12 #[.slice ao n cp] w fun e w' => e = .returned (.agg #[.int .i64 (treeC F n), .string (treeX F n)]) ∧ Below w.heap.size w w' := by
  have H : Hid (Row w B 4 n F (.slice ao n cp)) := h
  have k0 := Blk2.new w (.int .i64 0) (.string ⟨#[]⟩) 42
  have K : Hid (Blk2 (w.alloc (.cells #[.int .i64 0, .string ⟨#[]⟩] 42)) w.heap.size (.int .i64 0) (.string ⟨#[]⟩)) := k0
  clear h
  by_cases h60 : 60 < n
  · have E : Hid (treeC F n = 2 ∧ treeX F n = ⟨#[]⟩) := ⟨if_pos h60, if_pos h60⟩
    rw [E.out.1, E.out.2]
    clear E K k0
    have hb : (60 : Int) < (n : Int) := by omega
    go_enter Tryz.func12, Tryz.ntmps12
    go_wp2
    refine bodyPost_ret (v := .agg #[.int .i64 2, .string ⟨#[]⟩]) (by simp [results, Tryz.results12, go_sem]) rfl ?_
    exact ⟨rfl, below_alloc _ _⟩
  by_cases hok : AllOk F n
  · have E : Hid (treeC F n = 0 ∧ treeX F n = textT F n) := by
      unfold treeC treeX
      rw [if_neg h60, if_neg h60, if_pos hok, if_pos hok]
      exact ⟨rfl, rfl⟩
    have HT : Hid (∀ w, Row w B 4 n F (.slice ao n cp) → Calls Tryz.prog 33 #[.slice ao n cp] w fun e w' => e = .returned (.string (textT F n)) ∧ Below w.heap.size w w') := fun w hw => l16Tree_is ao n cp B F w hw (by omega) hok
    have HN : Hid (∀ k, k < n → ∀ w, Calls Tryz.prog 32 #[.agg #[.int .i64 (F (k * 4)), .int .i64 (F (k * 4 + 1)), .int .i64 (F (k * 4 + 2)), .int .i64 (F (k * 4 + 3))]] w fun e w' => e = .returned (.bool true) ∧ Below w.heap.size w w') := fun k hk w => l16Node_is _ _ _ _ _ (decide_eq_true (hok k hk)) w
    rw [E.out.1, E.out.2]
    clear E hok k0
    generalize textT F n = TX at *
    go_enter Tryz.func12, Tryz.ntmps12
    go_wp2
    go_loopw [3] (fun i wr => ∃ k : Nat, k ≤ n ∧ i = .int .i64 k ∧ Hid (Below w.heap.size w wr ∧ Row wr B 4 n F (.slice ao n cp) ∧ Blk2 wr w.heap.size (.int .i64 0) (.string ⟨#[]⟩))) (fun i _ => n - (intOf i).toNat)
    case atStart => exact ⟨0, Nat.zero_le _, rfl, below_alloc _ _, H.out.alloc _, K.out⟩
    case round =>
      obtain ⟨k, hk, rfl, HR⟩ := hrel
      by_cases hlt : k < n
      · obtain ⟨g, o, rfl, _, hg, x0, x1, x2, x3⟩ := HR.out.2.1.at4 hlt
        have hc := HN.out k hlt
        generalize F (k * 4) = f0 at hc x0
        generalize F (k * 4 + 1) = f1 at hc x1
        generalize F (k * 4 + 2) = f2 at hc x2
        generalize F (k * 4 + 3) = f3 at hc x3
        have HC : Hid (∀ w, Calls Tryz.prog 32 #[.agg #[.int .i64 f0, .int .i64 f1, .int .i64 f2, .int .i64 f3]] w fun e w' => e = .returned (.bool true) ∧ Below w.heap.size w w') := hc
        clear hc
        go_wp2_with fail
        refine (HC.out _).mono ?_
        rintro e w1 ⟨rfl, q1⟩
        have HR1 : Hid (Below w.heap.size w w1 ∧ Row w1 B 4 n F (.slice (some ⟨g, o, none⟩) n cp) ∧ Blk2 w1 w.heap.size (.int .i64 0) (.string ⟨#[]⟩)) := ⟨HR.out.1.trans (q1.mono HR.out.1.size), HR.out.2.1.later q1, HR.out.2.2.later q1⟩
        clear q1 HC HR
        go_wp2
        go_roundw
        case rel => exact ⟨k + 1, by omega, by go_num, HR1.out⟩
        case measure => simp [intOf]; omega
      · go_wp2_with fail
        refine (HT.out _ HR.out.2.1).mono ?_
        rintro e w1 ⟨rfl, q1⟩
        obtain ⟨⟨b0, b1⟩, y0, y1⟩ := HR.out.2.2.later q1
        have HB : Hid (Below w.heap.size w w1) := HR.out.1.trans (q1.mono HR.out.1.size)
        clear q1 HR HT HN
        go_wp2
        refine bodyPost_ret (v := .agg #[.int .i64 0, .string TX]) (by simp [results, Tryz.results12, go_sem, b0, b1]) rfl ?_
        exact ⟨rfl, (HB.out.setCell (Nat.le_refl _) _).setCell (Nat.le_refl _) _⟩
  · have E : Hid (treeC F n = 3 ∧ treeX F n = ⟨#[]⟩) := by
      unfold treeC treeX
      rw [if_neg h60, if_neg h60, if_neg hok, if_neg hok]
      exact ⟨rfl, rfl⟩
    obtain ⟨q, hq, hbef, hbad⟩ := allOk_no hok
    have HN : Hid (∀ k, k ≤ q → ∀ w, Calls Tryz.prog 32 #[.agg #[.int .i64 (F (k * 4)), .int .i64 (F (k * 4 + 1)), .int .i64 (F (k * 4 + 2)), .int .i64 (F (k * 4 + 3))]] w fun e w' => e = .returned (.bool (decide (k < q))) ∧ Below w.heap.size w w') := by
      intro k hk w
      refine l16Node_is _ _ _ _ _ ?_ w
      by_cases e : k < q
      · rw [decide_eq_true e]; exact decide_eq_true (hbef k e)
      · rw [decide_eq_false e, show k = q by omega]; exact decide_eq_false hbad
    rw [E.out.1, E.out.2]
    clear E hok k0 hbef hbad
    go_enter Tryz.func12, Tryz.ntmps12
    go_wp2
    go_loopw [3] (fun i wr => ∃ k : Nat, k ≤ q ∧ i = .int .i64 k ∧ Hid (Below w.heap.size w wr ∧ Row wr B 4 n F (.slice ao n cp) ∧ Blk2 wr w.heap.size (.int .i64 0) (.string ⟨#[]⟩))) (fun i _ => n - (intOf i).toNat)
    case atStart => exact ⟨0, Nat.zero_le _, rfl, below_alloc _ _, H.out.alloc _, K.out⟩
    case round =>
      obtain ⟨k, hk, rfl, HR⟩ := hrel
      have hkn : k < n := by omega
      obtain ⟨g, o, rfl, _, hg, x0, x1, x2, x3⟩ := HR.out.2.1.at4 hkn
      have hc := HN.out k hk
      generalize F (k * 4) = f0 at hc x0
      generalize F (k * 4 + 1) = f1 at hc x1
      generalize F (k * 4 + 2) = f2 at hc x2
      generalize F (k * 4 + 3) = f3 at hc x3
      by_cases hlt : k < q
      · rw [decide_eq_true hlt] at hc
        have HC : Hid (∀ w, Calls Tryz.prog 32 #[.agg #[.int .i64 f0, .int .i64 f1, .int .i64 f2, .int .i64 f3]] w fun e w' => e = .returned (.bool true) ∧ Below w.heap.size w w') := hc
        clear hc
        go_wp2_with fail
        refine (HC.out _).mono ?_
        rintro e w1 ⟨rfl, q1⟩
        have HR1 : Hid (Below w.heap.size w w1 ∧ Row w1 B 4 n F (.slice (some ⟨g, o, none⟩) n cp) ∧ Blk2 w1 w.heap.size (.int .i64 0) (.string ⟨#[]⟩)) := ⟨HR.out.1.trans (q1.mono HR.out.1.size), HR.out.2.1.later q1, HR.out.2.2.later q1⟩
        clear q1 HC HR
        go_wp2
        go_roundw
        case rel => exact ⟨k + 1, by omega, by go_num, HR1.out⟩
        case measure => simp [intOf]; omega
      · rw [decide_eq_false hlt] at hc
        have HC : Hid (∀ w, Calls Tryz.prog 32 #[.agg #[.int .i64 f0, .int .i64 f1, .int .i64 f2, .int .i64 f3]] w fun e w' => e = .returned (.bool false) ∧ Below w.heap.size w w') := hc
        clear hc
        go_wp2_with fail
        refine (HC.out _).mono ?_
        rintro e w1 ⟨rfl, q1⟩
        obtain ⟨⟨b0, b1⟩, y0, y1⟩ := HR.out.2.2.later q1
        have HB : Hid (Below w.heap.size w w1) := HR.out.1.trans (q1.mono HR.out.1.size)
        clear q1 HR HN HC
        go_wp2
        refine bodyPost_ret (v := .agg #[.int .i64 3, .string ⟨#[]⟩]) (by simp [results, Tryz.results12, go_sem, b0, b1]) rfl ?_
        exact ⟨rfl, (HB.out.setCell (Nat.le_refl _) _).setCell (Nat.le_refl _) _⟩
end Go.Proofs.YtbpppaolcgibnaaGreatDoor

namespace Go.Proofs.YtbpppaolcgibnaaGreatDoor
open Go.RowKit Go.Shelf

theorem extraR : Builder.Extra Tryz.prog Tryz.laysRepeat_ren where
  sizeBuilder := by kernel_rfl
  liesBuilder := by kernel_rfl
  t5 := Tryz.underlying5
  a5 := Tryz.isAgg5
  z5 := Tryz.sizeOf5
  v5 := Tryz.zeroValue5
  infoByte := by kernel_rfl
  cellsByte := by kernel_rfl
  sizeByte := by kernel_rfl
  neB5 := by decide
theorem repeat_is (c : Nat) (w : World) (hc : c ≤ 20) :
    Calls Tryz.prog 65 #[.string ⟨#[32, 32]⟩, .int .i64 c] w fun e w' => e = .returned (.string (indT c)) ∧ Below w.heap.size w w' :=
  Any.strings_Repeat Tryz.laysRepeat extraR ⟨#[32, 32]⟩ c w (by omega) (by show 2 * c ≤ _; omega)
/-- A builder of the call's own that holds the bytes of s. -/
def Bld (B b : Nat) (s : ByteArray) (w : World) : Prop := Lib.IsBuilder 67 5 B b (Lib.byteCells s.data.toList) w
theorem Bld.new (w : World) (B : Nat) (hB : B ≤ w.heap.size) : Bld B w.heap.size ⟨#[]⟩ (w.alloc (.cells #[.pointer none, .slice none 0 0] 67)) :=
  Or.inl ⟨hB, .slice none 0 0, heap_alloc_new w _, World.ownsRow_nil _ _ _ 1, by simp [Value.ownBlock]⟩
theorem row_laterC {w w' : World} {B : Nat} {e : TypeId} {m : Nat} {v : Value} {n : Nat} {xs : List Value} (h : w.ownsRow B e m v n xs) (hb : Below w.heap.size w w') : w'.ownsRow B e m v n xs := by
  obtain ⟨h1, h2⟩ := h
  refine ⟨h1, ?_⟩
  rcases h2 with h2 | ⟨g, cap, cur, hv, hg, hh, r⟩
  · exact Or.inl h2
  · have hlt : g < w.heap.size := by
      rcases Nat.lt_or_ge g w.heap.size with h | h
      · exact h
      · rw [Array.getElem?_eq_none h] at hh; cases hh
    exact Or.inr ⟨g, cap, cur, hv, hg, (hb.block g hlt).trans hh, r⟩
theorem bldAt_later {B b : Nat} {p : Value} {bs : List Value} {w w' : World} (h : Lib.BuilderAt 67 5 B b p bs w) (hb : Below w.heap.size w w') : Lib.BuilderAt 67 5 B b p bs w' := by
  have hlt := h.lt
  obtain ⟨h1, v, h2, h3, h4⟩ := h
  exact ⟨h1, v, (hb.block b hlt).trans h2, row_laterC h3 hb, h4⟩
theorem Bld.later {B b : Nat} {s : ByteArray} {w w' : World} (h : Bld B b s w) (hb : Below w.heap.size w w') : Bld B b s w' :=
  h.elim (fun h => Or.inl (bldAt_later h hb)) (fun h => Or.inr (bldAt_later h hb))
theorem writeString_is (B b : Nat) (s x : ByteArray) (w : World) (h : Bld B b s w) (hs : s.size ≤ 10000) (hx : x.size ≤ 10000) (hB : B ≤ w.heap.size) :
    Calls Tryz.prog 29 #[.pointer (some ⟨b, 0, none⟩), .string x] w fun e w' => e = .returned (.tuple #[.int .i64 x.size, .nilIface]) ∧ Bld B b (s ++ x) w' ∧ Below B w w' := by
  have hl : (Lib.byteCells s.data.toList).length = s.size := by simp [Lib.byteCells]
  refine (Any.Builder_WriteString { Tryz.laysRepeat with } extraR B b _ x w h (by rw [hl]; omega) hB).mono ?_
  rintro e w' ⟨rfl, h1, h2⟩
  refine ⟨rfl, Or.inr ?_, h2⟩
  have e1 : (s ++ x).data.toList = s.data.toList ++ x.data.toList := by simp
  rw [e1, Lib.byteCells_append, ← Lib.strCells_eq]
  exact h1
theorem builderString_is (B b : Nat) (s : ByteArray) (w : World) (h : Bld B b s w) (hB : B ≤ w.heap.size) :
    Calls Tryz.prog 31 #[.pointer (some ⟨b, 0, none⟩)] w fun e w' => e = .returned (.string s) ∧ Below B w w' :=
  Any.Builder_String_any { Tryz.laysRepeat with } extraR B b s.data.toList w h hB
/-- The cells of a node's own copy. -/
def Box4 (g : Nat) (i d m v : Int) (x : World) : Prop := x.cell? ⟨g, 0, none⟩ = some (.int .i64 i) ∧ x.cell? ⟨g, 1, none⟩ = some (.int .i64 d) ∧ x.cell? ⟨g, 2, none⟩ = some (.int .i64 m) ∧ x.cell? ⟨g, 3, none⟩ = some (.int .i64 v)
theorem Box4.later {g : Nat} {i d m v : Int} {x x' : World} (h : Box4 g i d m v x) (hb : Below x.heap.size x x') : Box4 g i d m v x' := by
  obtain ⟨h0, h1, h2, h3⟩ := h
  have hg := World.block_lt_of_cell? x _ h0
  exact ⟨(hb.cell (p := ⟨g, 0, none⟩) hg).trans h0, (hb.cell (p := ⟨g, 1, none⟩) hg).trans h1, (hb.cell (p := ⟨g, 2, none⟩) hg).trans h2, (hb.cell (p := ⟨g, 3, none⟩) hg).trans h3⟩
theorem Box4.new (w : World) (i d m v : Int) : Box4 w.heap.size i d m v (w.alloc (.cells #[.int .i64 i, .int .i64 d, .int .i64 m, .int .i64 v] 40)) :=
  ⟨World.cell?_alloc_mark w _ _ _ 0, World.cell?_alloc_mark w _ _ _ 1, World.cell?_alloc_mark w _ _ _ 2, World.cell?_alloc_mark w _ _ _ 3⟩
set_option maxRecDepth 100000 in
set_option maxHeartbeats 4000000 in
theorem nodeLine_is (i d m v : Nat) (w : World) (hP : Pow10 w) (hi : i ≤ 9999) (hd1 : 1 ≤ d) (hd2 : d ≤ 20) (hm : m ≤ 9999) (hv : v ≤ 9999) :
    Calls Tryz.prog 30 #[.agg #[.int .i64 (i : Nat), .int .i64 (d : Nat), .int .i64 (m : Nat), .int .i64 (v : Nat)]] w fun e w' => e = .returned (.string (lineT i d m v)) ∧ Below w.heap.size w w' := by
  have HPW : Hid (Pow10 w) := hP
  clear hP
  have HI : Hid (∀ w, Pow10 w → Calls Tryz.prog 66 #[.int .i64 (i : Nat)] w fun e w' => e = .returned (.string (decT i)) ∧ Below w.heap.size w w') := fun w hT => decimal_is i w hT (by omega)
  have HM : Hid (∀ w, Pow10 w → Calls Tryz.prog 66 #[.int .i64 (m : Nat)] w fun e w' => e = .returned (.string (decT m)) ∧ Below w.heap.size w w') := fun w hT => decimal_is m w hT (by omega)
  have HV : Hid (∀ w, Pow10 w → Calls Tryz.prog 66 #[.int .i64 (v : Nat)] w fun e w' => e = .returned (.string (decT v)) ∧ Below w.heap.size w w') := fun w hT => decimal_is v w hT (by omega)
  obtain ⟨c, hc⟩ : ∃ c, d = c + 1 := ⟨d - 1, by omega⟩
  subst hc
  have HR : Hid (∀ w, Calls Tryz.prog 65 #[.string ⟨#[32, 32]⟩, .int .i64 (c : Nat)] w fun e w' => e = .returned (.string (indT c)) ∧ Below w.heap.size w w') := fun w => repeat_is c w (by omega)
  have hs0 := indT_size c
  have hs1 := decT_size 3 i (by omega)
  have hs2 := decT_size 3 m (by omega)
  have hs3 := decT_size 3 v (by omega)
  have HQ : Hid (indT c ++ decT m ++ ⟨#[58, 32]⟩ ++ decT i ++ ⟨#[32]⟩ ++ decT v ++ ⟨#[10]⟩ = lineT i (c + 1) m v) := rfl
  generalize lineT i (c + 1) m v = TX at *
  generalize decT i = di at *
  generalize decT m = dm at *
  generalize decT v = dv at *
  generalize indT c = P at *
  have k1 := fun w => run_string_add_sum (P := Tryz.prog) w P dm (by omega)
  have k2 := fun w => run_string_add_sum (P := Tryz.prog) w (P ++ dm) ⟨#[58, 32]⟩ (by rw [ByteArray.size_append]; show _ + 2 ≤ _; omega)
  have k3 := fun w => run_string_add_sum (P := Tryz.prog) w (P ++ dm ++ ⟨#[58, 32]⟩) di (by rw [ByteArray.size_append, ByteArray.size_append]; show _ + 2 + _ ≤ _; omega)
  have k4 := fun w => run_string_add_sum (P := Tryz.prog) w (P ++ dm ++ ⟨#[58, 32]⟩ ++ di) ⟨#[32]⟩ (by rw [ByteArray.size_append, ByteArray.size_append, ByteArray.size_append]; show _ + 2 + _ + 1 ≤ _; omega)
  have k5 := fun w => run_string_add_sum (P := Tryz.prog) w (P ++ dm ++ ⟨#[58, 32]⟩ ++ di ++ ⟨#[32]⟩) dv (by rw [ByteArray.size_append, ByteArray.size_append, ByteArray.size_append, ByteArray.size_append]; show _ + 2 + _ + 1 + _ ≤ _; omega)
  have k6 := fun w => run_string_add_sum (P := Tryz.prog) w (P ++ dm ++ ⟨#[58, 32]⟩ ++ di ++ ⟨#[32]⟩ ++ dv) ⟨#[10]⟩ (by rw [ByteArray.size_append, ByteArray.size_append, ByteArray.size_append, ByteArray.size_append, ByteArray.size_append]; show _ + 2 + _ + 1 + _ + 1 ≤ _; omega)
  have kb := Box4.new w (i : Nat) ((c + 1 : Nat) : Int) (m : Nat) (v : Nat)
  have HK : Hid (Box4 w.heap.size (i : Nat) ((c + 1 : Nat) : Int) (m : Nat) (v : Nat) (w.alloc (.cells #[.int .i64 (i : Nat), .int .i64 ((c + 1 : Nat) : Int), .int .i64 (m : Nat), .int .i64 (v : Nat)] 40))) := kb
  obtain ⟨z0, z1, z2, z3⟩ := kb
  clear hs0 hs1 hs2 hs3
  go_enter Tryz.func30, Tryz.ntmps30
  go_wp2_with fail
  refine (HR.out _).mono ?_
  rintro e w1 ⟨rfl, q1⟩
  have hS1 : Box4 w.heap.size (i : Nat) ((c + 1 : Nat) : Int) (m : Nat) (v : Nat) w1.drew := (HK.out.later q1).later (Below.refl _ w1).drew
  have HB0 : Hid (Below w.heap.size w w1.drew) := ((below_alloc _ _).trans (q1.mono (by simp))).drew
  clear q1 z0 z1 z2 z3 HK HR
  go_wp2_with fail
  refine wp_region_held_drew (S := Box4 w.heap.size (i : Nat) ((c + 1 : Nat) : Int) (m : Nat) (v : Nat)) (by kernel_rfl) hS1 (fun hS => ?_)
  clear hS1
  generalize w1.drew = wa at *
  refine tkH 0 ?_ hS (fun wx hx => ?_) ?_; rotate_left
  · obtain ⟨hx0, hx1, hx2, hx3⟩ := hx; go_simp; try with_reducible rfl
  refine tkH 1 ?_ hS (fun wx hx => ?_) ?_; rotate_left
  · obtain ⟨hx0, hx1, hx2, hx3⟩ := hx; go_simp; try with_reducible rfl
  refine tkH 2 ?_ hS (fun wx hx => ?_) ?_; rotate_left
  · obtain ⟨hx0, hx1, hx2, hx3⟩ := hx; go_simp; try with_reducible rfl
  refine tkH 6 ?_ hS (fun wx hx => ?_) ?_; rotate_left
  · obtain ⟨hx0, hx1, hx2, hx3⟩ := hx; go_simp; try with_reducible rfl
  refine tkH 7 ?_ hS (fun wx hx => ?_) ?_; rotate_left
  · obtain ⟨hx0, hx1, hx2, hx3⟩ := hx; go_simp; try with_reducible rfl
  refine tkH 11 ?_ hS (fun wx hx => ?_) ?_; rotate_left
  · obtain ⟨hx0, hx1, hx2, hx3⟩ := hx; go_simp; try with_reducible rfl
  refine tkH 12 ?_ hS (fun wx hx => ?_) ?_; rotate_left
  · obtain ⟨hx0, hx1, hx2, hx3⟩ := hx; go_simp; try with_reducible rfl
  refine rdH 3 (fun K hK => ?_)
  go_simp
  go_wp2_with fail
  refine (HM.out _ (HPW.out.later HB0.out)).mono ?_
  rintro e wn ⟨rfl, qn⟩
  have hS' := hS.later qn
  have HBn : Hid (Below w.heap.size w wn) := HB0.out.trans (qn.mono HB0.out.size)
  clear qn hS HB0
  have HB0 := HBn
  clear HBn
  go_wp2_with fail
  refine hK.out _ _ hS' (fun hS => ?_)
  clear hK K hS'
  refine tkH 4 ?_ hS (fun wx hx => ?_) ?_; rotate_left
  · obtain ⟨hx0, hx1, hx2, hx3⟩ := hx; go_simp; try with_reducible rfl
  refine tkH 5 ?_ hS (fun wx hx => ?_) ?_; rotate_left
  · obtain ⟨hx0, hx1, hx2, hx3⟩ := hx; go_simp; try with_reducible rfl
  refine rdH 8 (fun K hK => ?_)
  go_simp
  go_wp2_with fail
  refine (HI.out _ (HPW.out.later HB0.out)).mono ?_
  rintro e wn ⟨rfl, qn⟩
  have hS' := hS.later qn
  have HBn : Hid (Below w.heap.size w wn) := HB0.out.trans (qn.mono HB0.out.size)
  clear qn hS HB0
  have HB0 := HBn
  clear HBn
  go_wp2_with fail
  refine hK.out _ _ hS' (fun hS => ?_)
  clear hK K hS'
  refine tkH 9 ?_ hS (fun wx hx => ?_) ?_; rotate_left
  · obtain ⟨hx0, hx1, hx2, hx3⟩ := hx; go_simp; try with_reducible rfl
  refine tkH 10 ?_ hS (fun wx hx => ?_) ?_; rotate_left
  · obtain ⟨hx0, hx1, hx2, hx3⟩ := hx; go_simp; try with_reducible rfl
  refine rdH 13 (fun K hK => ?_)
  go_simp
  go_wp2_with fail
  refine (HV.out _ (HPW.out.later HB0.out)).mono ?_
  rintro e wn ⟨rfl, qn⟩
  have hS' := hS.later qn
  have HBn : Hid (Below w.heap.size w wn) := HB0.out.trans (qn.mono HB0.out.size)
  clear qn hS HB0
  have HB0 := HBn
  clear HBn
  go_wp2_with fail
  refine hK.out _ _ hS' (fun hS => ?_)
  clear hK K hS'
  refine tkH 14 ?_ hS (fun wx hx => ?_) ?_; rotate_left
  · obtain ⟨hx0, hx1, hx2, hx3⟩ := hx; go_simp; try with_reducible rfl
  refine tkH 15 ?_ hS (fun wx hx => ?_) ?_; rotate_left
  · obtain ⟨hx0, hx1, hx2, hx3⟩ := hx; go_simp; try with_reducible rfl
  refine tkH 16 ?_ hS (fun wx hx => ?_) ?_; rotate_left
  · obtain ⟨hx0, hx1, hx2, hx3⟩ := hx; go_simp; try with_reducible rfl
  refine wpAnyH_done (by kernel_rfl) ?_ _
  clear hS
  go_simp
  go_wp2
  go_ret
  exact ⟨by rw [← HQ.out]; rfl, HB0.out⟩
set_option maxRecDepth 100000 in
set_option maxHeartbeats 4000000 in
theorem implTreeText_is (ao : Option Addr) (n cp B : Nat) (F : Nat → Int) (w : World) (h : Row w B 4 n F (.slice ao n cp)) (hmax : n ≤ 1048576) (hP : Pow10 w) :
    Calls Tryz.prog 11 #[.slice ao n cp] w fun e w' => e = .returned (.agg #[.int .i64 (treeC F n), .string (treeX F n)]) ∧ Below w.heap.size w w' := by
  have H : Hid (Row (w.alloc (.cells #[.int .i64 0, .string ⟨#[]⟩] 42)) B 4 n F (.slice ao n cp) ∧ Pow10 (w.alloc (.cells #[.int .i64 0, .string ⟨#[]⟩] 42))) := ⟨h.alloc _, hP.later (below_alloc _ _)⟩
  have k0 := Blk2.new w (.int .i64 0) (.string ⟨#[]⟩) 42
  have K : Hid (Blk2 (w.alloc (.cells #[.int .i64 0, .string ⟨#[]⟩] 42)) w.heap.size (.int .i64 0) (.string ⟨#[]⟩) ∧ Below w.heap.size w (w.alloc (.cells #[.int .i64 0, .string ⟨#[]⟩] 42)) ∧ w.heap.size < (w.alloc (.cells #[.int .i64 0, .string ⟨#[]⟩] 42)).heap.size) := ⟨k0, below_alloc _ _, by simp⟩
  clear h hP
  by_cases h60 : 60 < n
  · have E : Hid (treeC F n = 2 ∧ treeX F n = ⟨#[]⟩) := ⟨if_pos h60, if_pos h60⟩
    rw [E.out.1, E.out.2]
    clear E K k0 H
    have hb : (60 : Int) < (n : Int) := by omega
    go_enter Tryz.func11, Tryz.ntmps11
    go_wp2
    refine bodyPost_ret (v := .agg #[.int .i64 2, .string ⟨#[]⟩]) (by simp [results, Tryz.results11, go_sem]) rfl ?_
    exact ⟨rfl, below_alloc _ _⟩
  have KB : Hid (Bld (w.alloc (.cells #[.int .i64 0, .string ⟨#[]⟩] 42)).heap.size (w.alloc (.cells #[.int .i64 0, .string ⟨#[]⟩] 42)).heap.size (⟨#[]⟩ : ByteArray) ((w.alloc (.cells #[.int .i64 0, .string ⟨#[]⟩] 42)).alloc (.cells #[.pointer none, .slice none 0 0] 67)) ∧ (⟨#[]⟩ : ByteArray) = textT F 0 ∧ Below (w.alloc (.cells #[.int .i64 0, .string ⟨#[]⟩] 42)).heap.size (w.alloc (.cells #[.int .i64 0, .string ⟨#[]⟩] 42)) ((w.alloc (.cells #[.int .i64 0, .string ⟨#[]⟩] 42)).alloc (.cells #[.pointer none, .slice none 0 0] 67))) := ⟨Bld.new _ _ (Nat.le_refl _), rfl, below_alloc _ _⟩
  by_cases hok : AllOk F n
  · have E : Hid (treeC F n = 0 ∧ treeX F n = textT F n) := by
      unfold treeC treeX
      rw [if_neg h60, if_neg h60, if_pos hok, if_pos hok]
      exact ⟨rfl, rfl⟩
    rw [E.out.1, E.out.2]
    have HOK : Hid (AllOk F n) := hok
    clear E hok k0
    obtain ⟨TX, HTX⟩ : ∃ TX, Hid (textT F n = TX) := ⟨_, rfl⟩
    rw [HTX.out]
    go_enter Tryz.func11, Tryz.ntmps11
    go_wp2
    go_loopw [12] (fun i wr => ∃ (k : Nat) (O : ByteArray), k ≤ n ∧ i = .int .i64 k ∧ O.size ≤ 60 * k ∧ Hid (Bld (w.alloc (.cells #[.int .i64 0, .string ⟨#[]⟩] 42)).heap.size (w.alloc (.cells #[.int .i64 0, .string ⟨#[]⟩] 42)).heap.size O wr ∧ O = textT F k ∧ Below (w.alloc (.cells #[.int .i64 0, .string ⟨#[]⟩] 42)).heap.size (w.alloc (.cells #[.int .i64 0, .string ⟨#[]⟩] 42)) wr)) (fun i _ => n - (intOf i).toNat)
    case atStart => exact ⟨0, _, Nat.zero_le _, rfl, Nat.le_refl _, KB.out⟩
    case round =>
      obtain ⟨k, O, hk, rfl, hO, HR⟩ := hrel
      by_cases hlt : k < n
      · obtain ⟨g, o, rfl, _, hg, x0, x1, x2, x3⟩ := (H.out.1.later HR.out.2.2).at4 hlt
        have HE : Hid (∃ i d m v : Nat, F (k * 4) = i ∧ F (k * 4 + 1) = d ∧ F (k * 4 + 2) = m ∧ F (k * 4 + 3) = v ∧ i ≤ 9999 ∧ 1 ≤ d ∧ d ≤ 20 ∧ m ≤ 9999 ∧ v ≤ 9999) := by
          obtain ⟨zi, zd, zm, zv⟩ := HOK.out k hlt
          exact ⟨(F (k * 4)).toNat, (F (k * 4 + 1)).toNat, (F (k * 4 + 2)).toNat, (F (k * 4 + 3)).toNat, by omega, by omega, by omega, by omega, by omega, by omega, by omega, by omega, by omega⟩
        obtain ⟨i, d, m, v, e0, e1, e2, e3, hi, hd1, hd2, hm, hv⟩ := HE.out
        clear HE
        have HL : Hid (O ++ lineT i d m v = textT F (k + 1) ∧ (textT F (k + 1)).size ≤ 60 * (k + 1)) := ⟨by rw [textT, HR.out.2.1, e0, e1, e2, e3]; rfl, textT_size (fun j hj => HOK.out j (by omega))⟩
        have HF1 : Hid (∀ w, Calls Tryz.prog 28 #[.agg #[.int .i64 (i : Nat), .int .i64 (d : Nat), .int .i64 (m : Nat), .int .i64 (v : Nat)]] w fun e w' => e = .returned (.bool true) ∧ Below w.heap.size w w') := fun w => nodeFits_is _ _ _ _ _ (decide_eq_true ⟨⟨by omega, by omega⟩, ⟨by omega, by omega⟩, ⟨by omega, by omega⟩, by omega, by omega⟩) w
        have HNL : Hid (∀ w, Pow10 w → Calls Tryz.prog 30 #[.agg #[.int .i64 (i : Nat), .int .i64 (d : Nat), .int .i64 (m : Nat), .int .i64 (v : Nat)]] w fun e w' => e = .returned (.string (lineT i d m v)) ∧ Below w.heap.size w w') := fun w hT => nodeLine_is i d m v w hT hi hd1 hd2 hm hv
        have hls := lineT_size hi hd2 hm hv
        rw [e0] at x0
        rw [e1] at x1
        rw [e2] at x2
        rw [e3] at x3
        clear e0 e1 e2 e3
        generalize lineT i d m v = LT at *
        have kb := Box4.new wr (i : Nat) (d : Nat) (m : Nat) (v : Nat)
        have HK : Hid (Box4 wr.heap.size (i : Nat) (d : Nat) (m : Nat) (v : Nat) (wr.alloc (.cells #[.int .i64 (i : Nat), .int .i64 (d : Nat), .int .i64 (m : Nat), .int .i64 (v : Nat)] 40))) := kb
        obtain ⟨z0, z1, z2, z3⟩ := kb
        go_wp2_with fail
        refine (HF1.out _).mono ?_
        rintro e w1 ⟨rfl, q1⟩
        have HR1 : Hid (Bld (w.alloc (.cells #[.int .i64 0, .string ⟨#[]⟩] 42)).heap.size (w.alloc (.cells #[.int .i64 0, .string ⟨#[]⟩] 42)).heap.size O w1 ∧ Below (w.alloc (.cells #[.int .i64 0, .string ⟨#[]⟩] 42)).heap.size (w.alloc (.cells #[.int .i64 0, .string ⟨#[]⟩] 42)) w1 ∧ Box4 wr.heap.size (i : Nat) (d : Nat) (m : Nat) (v : Nat) w1) := ⟨(HR.out.1.later (below_alloc _ _)).later q1, (HR.out.2.2.alloc HR.out.2.2.size _).trans (q1.mono (by have := HR.out.2.2.size; simp at this ⊢; omega)), HK.out.later q1⟩
        clear q1 HK HF1 z0 z1 z2 z3 x0 x1 x2 x3 HR hg
        obtain ⟨z0, z1, z2, z3⟩ := HR1.out.2.2
        go_wp2_with fail
        refine (HNL.out _ (H.out.2.later HR1.out.2.1)).mono ?_
        rintro e w2 ⟨rfl, q2⟩
        have HR2 : Hid (Bld (w.alloc (.cells #[.int .i64 0, .string ⟨#[]⟩] 42)).heap.size (w.alloc (.cells #[.int .i64 0, .string ⟨#[]⟩] 42)).heap.size O w2 ∧ Below (w.alloc (.cells #[.int .i64 0, .string ⟨#[]⟩] 42)).heap.size (w.alloc (.cells #[.int .i64 0, .string ⟨#[]⟩] 42)) w2) := ⟨HR1.out.1.later q2, HR1.out.2.1.trans (q2.mono HR1.out.2.1.size)⟩
        clear q2 HNL z0 z1 z2 z3 HR1
        have hbs : (w.alloc (.cells #[.int .i64 0, .string ⟨#[]⟩] 42)).heap.size = w.heap.size + 1 := World.size_alloc _ _
        go_wp2_with fail
        refine (writeString_is _ _ O LT _ (by rw [hbs] at HR2; exact HR2.out.1) (by omega) (by omega) (by have := HR2.out.2.size; rw [hbs] at this; exact this)).mono ?_
        rintro e w3 ⟨rfl, r3, q3⟩
        have HR3 : Hid (Bld (w.alloc (.cells #[.int .i64 0, .string ⟨#[]⟩] 42)).heap.size (w.alloc (.cells #[.int .i64 0, .string ⟨#[]⟩] 42)).heap.size (O ++ LT) w3 ∧ (O ++ LT) = textT F (k + 1) ∧ Below (w.alloc (.cells #[.int .i64 0, .string ⟨#[]⟩] 42)).heap.size (w.alloc (.cells #[.int .i64 0, .string ⟨#[]⟩] 42)) w3) := by
          have hb2 := HR2.out.2
          unfold Hid
          rw [hbs] at hb2 ⊢
          exact ⟨r3, HL.out.1, hb2.trans q3⟩
        clear r3 q3 HR2 hbs
        go_wp2_with fail
        go_roundw
        case rel => exact ⟨k + 1, _, by omega, by go_num, by rw [HL.out.1]; exact HL.out.2, HR3⟩
        case measure => simp [intOf]; omega
      · have hbs : (w.alloc (.cells #[.int .i64 0, .string ⟨#[]⟩] 42)).heap.size = w.heap.size + 1 := World.size_alloc _ _
        have HOT : Hid (O = TX) := by rw [← HTX.out, HR.out.2.1, show k = n by omega]; rfl
        go_wp2_with fail
        refine (builderString_is _ _ O _ (by have := HR.out.1; rw [hbs] at this; exact this) (by have := HR.out.2.2.size; rw [hbs] at this; exact this)).mono ?_
        rintro e w1 ⟨rfl, q1⟩
        have hb2 := HR.out.2.2
        rw [hbs] at hb2
        have HB2 : Hid (Below (w.heap.size + 1) (w.alloc (.cells #[.int .i64 0, .string ⟨#[]⟩] 42)) w1) := hb2.trans q1
        have hq : w.heap.size < w.heap.size + 1 := by omega
        obtain ⟨⟨b0, b1⟩, y0, y1⟩ := K.out.1.kept (x' := w1) (HB2.out.block _ hq)
        have HB : Hid (Below w.heap.size w w1) := K.out.2.1.trans (HB2.out.mono (by omega))
        clear q1 HR hb2 HB2
        go_wp2
        refine bodyPost_ret (v := .agg #[.int .i64 0, .string O]) (by simp [results, Tryz.results11, go_sem, b0, b1]) rfl ?_
        exact ⟨by rw [HOT.out], (HB.out.setCell (Nat.le_refl _) _).setCell (Nat.le_refl _) _⟩
  · have E : Hid (treeC F n = 3 ∧ treeX F n = ⟨#[]⟩) := by
      unfold treeC treeX
      rw [if_neg h60, if_neg h60, if_neg hok, if_neg hok]
      exact ⟨rfl, rfl⟩
    obtain ⟨q, hq, hbef, hbad⟩ := allOk_no hok
    have HOK : Hid (AllOk F q) := hbef
    have HBAD : Hid (∀ w, Calls Tryz.prog 28 #[.agg #[.int .i64 (F (q * 4)), .int .i64 (F (q * 4 + 1)), .int .i64 (F (q * 4 + 2)), .int .i64 (F (q * 4 + 3))]] w fun e w' => e = .returned (.bool false) ∧ Below w.heap.size w w') := fun w => nodeFits_is _ _ _ _ _ (decide_eq_false hbad) w
    rw [E.out.1, E.out.2]
    clear E hok k0 hbef hbad
    go_enter Tryz.func11, Tryz.ntmps11
    go_wp2
    go_loopw [12] (fun i wr => ∃ (k : Nat) (O : ByteArray), k ≤ q ∧ i = .int .i64 k ∧ O.size ≤ 60 * k ∧ Hid (Bld (w.alloc (.cells #[.int .i64 0, .string ⟨#[]⟩] 42)).heap.size (w.alloc (.cells #[.int .i64 0, .string ⟨#[]⟩] 42)).heap.size O wr ∧ O = textT F k ∧ Below (w.alloc (.cells #[.int .i64 0, .string ⟨#[]⟩] 42)).heap.size (w.alloc (.cells #[.int .i64 0, .string ⟨#[]⟩] 42)) wr)) (fun i _ => n - (intOf i).toNat)
    case atStart => exact ⟨0, _, Nat.zero_le _, rfl, Nat.le_refl _, KB.out⟩
    case round =>
      obtain ⟨k, O, hk, rfl, hO, HR⟩ := hrel
      have hkn : k < n := by omega
      by_cases hlt : k < q
      · obtain ⟨g, o, rfl, _, hg, x0, x1, x2, x3⟩ := (H.out.1.later HR.out.2.2).at4 hkn
        have HE : Hid (∃ i d m v : Nat, F (k * 4) = i ∧ F (k * 4 + 1) = d ∧ F (k * 4 + 2) = m ∧ F (k * 4 + 3) = v ∧ i ≤ 9999 ∧ 1 ≤ d ∧ d ≤ 20 ∧ m ≤ 9999 ∧ v ≤ 9999) := by
          obtain ⟨zi, zd, zm, zv⟩ := HOK.out k hlt
          exact ⟨(F (k * 4)).toNat, (F (k * 4 + 1)).toNat, (F (k * 4 + 2)).toNat, (F (k * 4 + 3)).toNat, by omega, by omega, by omega, by omega, by omega, by omega, by omega, by omega, by omega⟩
        obtain ⟨i, d, m, v, e0, e1, e2, e3, hi, hd1, hd2, hm, hv⟩ := HE.out
        clear HE
        have HL : Hid (O ++ lineT i d m v = textT F (k + 1) ∧ (textT F (k + 1)).size ≤ 60 * (k + 1)) := ⟨by rw [textT, HR.out.2.1, e0, e1, e2, e3]; rfl, textT_size (fun j hj => HOK.out j (by omega))⟩
        have HF1 : Hid (∀ w, Calls Tryz.prog 28 #[.agg #[.int .i64 (i : Nat), .int .i64 (d : Nat), .int .i64 (m : Nat), .int .i64 (v : Nat)]] w fun e w' => e = .returned (.bool true) ∧ Below w.heap.size w w') := fun w => nodeFits_is _ _ _ _ _ (decide_eq_true ⟨⟨by omega, by omega⟩, ⟨by omega, by omega⟩, ⟨by omega, by omega⟩, by omega, by omega⟩) w
        have HNL : Hid (∀ w, Pow10 w → Calls Tryz.prog 30 #[.agg #[.int .i64 (i : Nat), .int .i64 (d : Nat), .int .i64 (m : Nat), .int .i64 (v : Nat)]] w fun e w' => e = .returned (.string (lineT i d m v)) ∧ Below w.heap.size w w') := fun w hT => nodeLine_is i d m v w hT hi hd1 hd2 hm hv
        have hls := lineT_size hi hd2 hm hv
        rw [e0] at x0
        rw [e1] at x1
        rw [e2] at x2
        rw [e3] at x3
        clear e0 e1 e2 e3
        generalize lineT i d m v = LT at *
        have kb := Box4.new wr (i : Nat) (d : Nat) (m : Nat) (v : Nat)
        have HK : Hid (Box4 wr.heap.size (i : Nat) (d : Nat) (m : Nat) (v : Nat) (wr.alloc (.cells #[.int .i64 (i : Nat), .int .i64 (d : Nat), .int .i64 (m : Nat), .int .i64 (v : Nat)] 40))) := kb
        obtain ⟨z0, z1, z2, z3⟩ := kb
        go_wp2_with fail
        refine (HF1.out _).mono ?_
        rintro e w1 ⟨rfl, q1⟩
        have HR1 : Hid (Bld (w.alloc (.cells #[.int .i64 0, .string ⟨#[]⟩] 42)).heap.size (w.alloc (.cells #[.int .i64 0, .string ⟨#[]⟩] 42)).heap.size O w1 ∧ Below (w.alloc (.cells #[.int .i64 0, .string ⟨#[]⟩] 42)).heap.size (w.alloc (.cells #[.int .i64 0, .string ⟨#[]⟩] 42)) w1 ∧ Box4 wr.heap.size (i : Nat) (d : Nat) (m : Nat) (v : Nat) w1) := ⟨(HR.out.1.later (below_alloc _ _)).later q1, (HR.out.2.2.alloc HR.out.2.2.size _).trans (q1.mono (by have := HR.out.2.2.size; simp at this ⊢; omega)), HK.out.later q1⟩
        clear q1 HK HF1 z0 z1 z2 z3 x0 x1 x2 x3 HR hg
        obtain ⟨z0, z1, z2, z3⟩ := HR1.out.2.2
        go_wp2_with fail
        refine (HNL.out _ (H.out.2.later HR1.out.2.1)).mono ?_
        rintro e w2 ⟨rfl, q2⟩
        have HR2 : Hid (Bld (w.alloc (.cells #[.int .i64 0, .string ⟨#[]⟩] 42)).heap.size (w.alloc (.cells #[.int .i64 0, .string ⟨#[]⟩] 42)).heap.size O w2 ∧ Below (w.alloc (.cells #[.int .i64 0, .string ⟨#[]⟩] 42)).heap.size (w.alloc (.cells #[.int .i64 0, .string ⟨#[]⟩] 42)) w2) := ⟨HR1.out.1.later q2, HR1.out.2.1.trans (q2.mono HR1.out.2.1.size)⟩
        clear q2 HNL z0 z1 z2 z3 HR1
        have hbs : (w.alloc (.cells #[.int .i64 0, .string ⟨#[]⟩] 42)).heap.size = w.heap.size + 1 := World.size_alloc _ _
        go_wp2_with fail
        refine (writeString_is _ _ O LT _ (by rw [hbs] at HR2; exact HR2.out.1) (by omega) (by omega) (by have := HR2.out.2.size; rw [hbs] at this; exact this)).mono ?_
        rintro e w3 ⟨rfl, r3, q3⟩
        have HR3 : Hid (Bld (w.alloc (.cells #[.int .i64 0, .string ⟨#[]⟩] 42)).heap.size (w.alloc (.cells #[.int .i64 0, .string ⟨#[]⟩] 42)).heap.size (O ++ LT) w3 ∧ (O ++ LT) = textT F (k + 1) ∧ Below (w.alloc (.cells #[.int .i64 0, .string ⟨#[]⟩] 42)).heap.size (w.alloc (.cells #[.int .i64 0, .string ⟨#[]⟩] 42)) w3) := by
          have hb2 := HR2.out.2
          unfold Hid
          rw [hbs] at hb2 ⊢
          exact ⟨r3, HL.out.1, hb2.trans q3⟩
        clear r3 q3 HR2 hbs
        go_wp2_with fail
        go_roundw
        case rel => exact ⟨k + 1, _, by omega, by go_num, by rw [HL.out.1]; exact HL.out.2, HR3⟩
        case measure => simp [intOf]; omega
      · obtain rfl : k = q := by omega
        obtain ⟨g, o, rfl, _, hg, x0, x1, x2, x3⟩ := (H.out.1.later HR.out.2.2).at4 hkn
        generalize F (k * 4) = f0 at HBAD x0
        generalize F (k * 4 + 1) = f1 at HBAD x1
        generalize F (k * 4 + 2) = f2 at HBAD x2
        generalize F (k * 4 + 3) = f3 at HBAD x3
        have kb := Box4.new wr f0 f1 f2 f3
        obtain ⟨z0, z1, z2, z3⟩ := kb
        have HX : Hid (Below (w.alloc (.cells #[.int .i64 0, .string ⟨#[]⟩] 42)).heap.size (w.alloc (.cells #[.int .i64 0, .string ⟨#[]⟩] 42)) wr) := HR.out.2.2
        go_wp2_with fail
        refine (HBAD.out _).mono ?_
        rintro e w1 ⟨rfl, q1⟩
        have HX1 : Hid (Below (w.alloc (.cells #[.int .i64 0, .string ⟨#[]⟩] 42)).heap.size (w.alloc (.cells #[.int .i64 0, .string ⟨#[]⟩] 42)) w1) := (HX.out.alloc HX.out.size _).trans (q1.mono (by have := HX.out.size; simp at this ⊢; omega))
        obtain ⟨⟨b0, b1⟩, y0, y1⟩ := K.out.1.later HX1.out
        have HB : Hid (Below w.heap.size w w1) := K.out.2.1.trans (HX1.out.mono (by have := K.out.2.2; omega))
        clear q1 HR HX HX1 HBAD z0 z1 z2 z3 x0 x1 x2 x3
        go_wp2
        refine bodyPost_ret (v := .agg #[.int .i64 3, .string ⟨#[]⟩]) (by simp [results, Tryz.results11, go_sem, b0, b1]) rfl ?_
        exact ⟨rfl, (HB.out.setCell (Nat.le_refl _) _).setCell (Nat.le_refl _) _⟩
end Go.Proofs.YtbpppaolcgibnaaGreatDoor

