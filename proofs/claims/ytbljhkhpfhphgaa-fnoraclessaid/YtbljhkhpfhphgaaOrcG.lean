/-
  Own text. Chapter 5: impl.GrantMany answers by the plain list of its grants, in new memory: no condition.
-/
import Derived.Test.YtbljhkhpfhphgaaOrcE
import Derived.Test.YtbljhkhpfhphgaaOrcF
namespace Go.Proofs.Ytbljhkhpfhphgaa
open Go.RowKit Go.Shelf
attribute [local go_sem] Oper.semAt_some

set_option maxHeartbeats 1000000 in
theorem implMany_bad (a b n : Int) (w : World) (h : oFault a b ≠ 0) :
    Calls Try.prog 11 #[.agg #[.int .i64 a, .int .i64 b], .int .i64 n] w fun e w' => e = .returned (.agg #[.int .i64 (oFault a b), .slice none 0 0, .int .i64 0, .int .i64 0]) ∧ Below w.heap.size w w' := by
  have d0 : (oFault a b != 0) = true := by rw [bne_iff_ne]; exact h
  obtain ⟨c, hc⟩ : ∃ c, oFault a b = c := ⟨_, rfl⟩
  rw [hc] at d0 ⊢
  have HC : Hid (oFault a b = c) := hc
  clear h hc
  go_enter Try.func11, Try.ntmps11
  go_wp2_with fail
  refine (implOracleFault_any a b _).mono ?_
  rintro e w1 ⟨rfl, rfl⟩
  rw [HC.out]
  go_wp2
  exact bodyPost_ret (v := .agg #[.int .i64 c, .slice none 0 0, .int .i64 0, .int .i64 0]) (by simp [results, Try.results11, go_sem]) rfl ⟨rfl, by repeat (first | exact Below.refl _ _ | refine below_drewN ?_ _ | refine Below.setCell ?_ (by first | omega | (simp <;> omega)) _ | refine Below.alloc ?_ (by first | omega | (simp <;> omega)) _)⟩
set_option maxHeartbeats 1000000 in
theorem implMany_range (a b n : Int) (w : World) (h : oFault a b = 0) (hn : n < 0 ∨ 100 < n) :
    Calls Try.prog 11 #[.agg #[.int .i64 a, .int .i64 b], .int .i64 n] w fun e w' => e = .returned (.agg #[.int .i64 3, .slice none 0 0, .int .i64 0, .int .i64 0]) ∧ Below w.heap.size w w' := by
  have HC : Hid (oFault a b = 0) := h
  clear h
  by_cases hlo : n < 0
  · clear hn
    go_enter Try.func11, Try.ntmps11
    go_wp2_with fail
    refine (implOracleFault_any a b _).mono ?_
    rintro e w1 ⟨rfl, rfl⟩
    rw [HC.out]
    go_wp2
    exact bodyPost_ret (v := .agg #[.int .i64 3, .slice none 0 0, .int .i64 0, .int .i64 0]) (by simp [results, Try.results11, go_sem]) rfl ⟨rfl, by repeat (first | exact Below.refl _ _ | refine below_drewN ?_ _ | refine Below.setCell ?_ (by first | omega | (simp <;> omega)) _ | refine Below.alloc ?_ (by first | omega | (simp <;> omega)) _)⟩
  · have hhi : 100 < n := by omega
    clear hn
    go_enter Try.func11, Try.ntmps11
    go_wp2_with fail
    refine (implOracleFault_any a b _).mono ?_
    rintro e w1 ⟨rfl, rfl⟩
    rw [HC.out]
    go_wp2
    exact bodyPost_ret (v := .agg #[.int .i64 3, .slice none 0 0, .int .i64 0, .int .i64 0]) (by simp [results, Try.results11, go_sem]) rfl ⟨rfl, by repeat (first | exact Below.refl _ _ | refine below_drewN ?_ _ | refine Below.setCell ?_ (by first | omega | (simp <;> omega)) _ | refine Below.alloc ?_ (by first | omega | (simp <;> omega)) _)⟩

theorem gl_stop : ∀ (n : Nat) (a b : Int) (pre : List Q4), pre <+: gl n a b → ansC pre ≠ 0 → pre = gl n a b
  | 0, _, _, pre, h, hc => by
    rw [gl] at h ⊢
    exact List.prefix_nil.1 h
  | n + 1, a, b, [], _, hc => (hc rfl).elim
  | n + 1, a, b, q :: p, h, hc => by
    by_cases hg : grantC a b = 0
    · rw [gl_good hg] at h ⊢
      obtain ⟨hq, hp⟩ := List.cons_prefix_cons.1 h
      subst hq
      cases p with
      | nil => exact (hc hg).elim
      | cons r p =>
        rw [gl_stop n _ _ (r :: p) hp (by simpa [ansC] using hc)]
    · rw [gl_bad hg] at h ⊢
      obtain ⟨hq, hp⟩ := List.cons_prefix_cons.1 h
      rw [hq, List.prefix_nil.1 hp]
theorem row_obj {W : World} {base : Nat} {e : TypeId} {size : Nat} {v : Value} {n : Nat} {xs : List Value} (h : W.ownsRow base e size v n xs) {r : Nat} (hr : v.ownBlock = some r) : ∃ cs m, W.heap[r]? = some (.cells cs e m) := by
  rcases h.2 with ⟨rfl, _⟩ | ⟨g, cap, cur, rfl, _, hgb, _⟩
  · simp [Value.ownBlock] at hr
  · obtain rfl : g = r := by simpa [Value.ownBlock] using hr
    exact ⟨_, _, hgb⟩
theorem row_stands {W W' : World} {base : Nat} {e : TypeId} {size : Nat} {v : Value} {n : Nat} {xs : List Value} (h : W.ownsRow base e size v n xs) {row : Option Nat} (hg : W.grownBy W' row) (hr : ∀ r, row = some r → ∃ o : Obj, W.heap[r]? = some o ∧ (o.isCells = false ∨ OfT 25 o)) (he : e ≠ 25) : W'.ownsRow base e size v n xs := by
  refine h.kept hg ?_
  cases hv : v.ownBlock with
  | none => exact .inl rfl
  | some g =>
    refine .inr fun e' => ?_
    obtain ⟨cs, m, h1⟩ := row_obj h hv
    obtain ⟨o, h2, h3⟩ := hr g (by rw [← e'])
    rw [h1] at h2
    cases h2
    rcases h3 with h3 | ⟨cs', m', h3⟩
    · cases h3
    · cases h3; exact he rfl
theorem Keep.refl (W : World) : Keep W W := fun _ _ _ _ h => h
theorem Keep.alloc (W : World) (o : Obj) : Keep W (W.alloc o) := fun _ _ _ _ h => h.alloc o
theorem Keep.grown {W W' : World} {row : Option Nat} (hg : W.grownBy W' row) (hr : ∀ r, row = some r → ∃ cs t m, W.heap[r]? = some (.cells cs t m) ∧ t ≠ 25 ∧ t ≠ 33) : Keep W W' := fun k cs t ht hb =>
  hb.kept hg (fun e => by
    obtain ⟨cs', t', m, h1, h2, h3⟩ := hr k e.symm
    rw [show W.heap[k]? = _ from hb] at h1
    cases h1
    rcases ht with rfl | rfl
    · exact h2 rfl
    · exact h3 rfl)
theorem Keep.set {W : World} {g : Nat} {cs : Array Value} (hb : Blok W g 30 cs) (k : Nat) (v : Value) : Keep W (W.setCell ⟨g, k, none⟩ v) :=
  Keep.grown (grown_set W g k v) (fun r e => by cases e; exact ⟨_, _, _, hb, by decide, by decide⟩)

/-- Between two rounds: what the result, the answer that grows and its row hold. -/
def Mid (w : World) (a b : Int) (pre : List Q4) (W : World) : Prop :=
  ∃ v, Blok W (w.heap.size + 1 + 1 + 1) 30 #[.int .i64 0, v, .int .i64 (orA a pre), .int .i64 (orB b pre)] ∧ Blok W (w.heap.size + 1) 30 #[.int .i64 0, .slice none 0 0, .int .i64 0, .int .i64 0] ∧
    W.ownsRow (w.heap.size + 6) 2 1 v (tms pre).length ((tms pre).map (Value.int .i64)) ∧ ansC pre = 0 ∧ Below w.heap.size w W ∧ w.heap.size + 6 ≤ W.heap.size
def Left (w : World) (pre : List Q4) (W : World) : Prop :=
  ∃ c : Int, Blok W (w.heap.size + 1) 30 #[.int .i64 c, .slice none 0 0, .int .i64 0, .int .i64 0] ∧ c ≠ 0 ∧ ansC pre = c ∧ Below w.heap.size w W
theorem mid_stands (w : World) (a b : Int) : Stands (fun o => o.isCells = false ∨ OfT 25 o) (w.heap.size + 6) (Mid w a b) := by
  rintro s W W' row ⟨v, h1, h2, h3, h4, h5, h6⟩ hg hr
  refine ⟨v, h1.kept hg (fun e => ?_), h2.kept hg (fun e => ?_), row_stands h3 hg (fun r e => (hr r e).2) (by decide), h4, h5.grown hg h5.size (fun r e => by have := (hr r e).1; omega), Nat.le_trans h6 hg.size⟩
  · have := (hr _ e.symm).1; omega
  · have := (hr _ e.symm).1; omega
theorem left_stands (w : World) : Stands (fun o => o.isCells = false) (w.heap.size + 6) (Left w) := by
  rintro s W W' row ⟨c, h1, h2, h3, h4⟩ hg hr
  exact ⟨c, h1.kept hg (fun e => by have := (hr _ e.symm).1; omega), h2, h3, h4.grown hg h4.size (fun r e => by have := (hr r e).1; omega)⟩

set_option maxRecDepth 100000 in
set_option maxHeartbeats 4000000 in
theorem implMany_ok (a b : Int) (N : Nat) (w : World) (h : oFault a b = 0) (hN : N ≤ 100) :
    Calls Try.prog 11 #[.agg #[.int .i64 a, .int .i64 b], .int .i64 N] w fun e w' => ∃ v, e = .returned (.agg #[.int .i64 (ansC (gl N a b)), v, .int .i64 (ansA a (gl N a b)), .int .i64 (ansB b (gl N a b))]) ∧ Ints w' w.heap.size v (ansL (gl N a b)) ∧ Below w.heap.size w w' := by
  obtain ⟨i0, hi, hz0, hz1, hz2⟩ := info_parts info_i64
  have HC : Hid (oFault a b = 0) := h
  clear h
  refine (callsIn_wide (n := 5)).1 ?_
  refine callsIn_of_wp_marks Try.func11 rfl trivial ?_ rfl
  simp only [Try.ntmps11, List.size_toArray, List.length_cons, List.length_nil, Nat.reduceAdd, Nat.reduceSub, Array.replicate_succ, Array.replicate_zero, List.push_toArray, List.append_toArray, List.nil_append, List.cons_append]
  gi_wp2_with fail
  refine ⟨trivial, (callsIn_wide.2 (implOracleFault_any a b _)).mono ?_⟩
  rintro e w1 ⟨rfl, rfl⟩
  rw [HC.out]
  gi_wp2_with fail
  refine ⟨trivial, (grants_any a b N _ _).mono ?_⟩
  rintro e w1 ⟨rfl, rfl⟩
  gi_wp2_with fail
  obtain ⟨W0, hW0⟩ : ∃ W0, ((((((w.alloc (.cells #[.int .i64 a, .int .i64 b] 25)).alloc (.cells #[.int .i64 0, .slice none 0 0, .int .i64 0, .int .i64 0] 30)).alloc (.cells #[.int .i64 a, .int .i64 b] 25)).alloc (.cells #[.int .i64 0, .slice none 0 0, .int .i64 a, .int .i64 b] 30)).alloc (.cells #[.int .i64 a, .int .i64 b] 25)).alloc (.cells #[.int .i64 N] 2)) = W0 := ⟨_, rfl⟩
  rw [hW0]
  have hsz : W0.heap.size = w.heap.size + 6 := by rw [← hW0]; simp
  have bR : Blok W0 (w.heap.size + 1) 30 #[.int .i64 0, .slice none 0 0, .int .i64 0, .int .i64 0] := by
    rw [← hW0]
    have k := Blok.new (w.alloc (.cells #[.int .i64 a, .int .i64 b] 25)) 30 #[.int .i64 0, .slice none 0 0, .int .i64 0, .int .i64 0]
    rw [World.size_alloc] at k
    exact (((k.alloc _).alloc _).alloc _).alloc _
  have bT : Blok W0 (w.heap.size + 1 + 1 + 1) 30 #[.int .i64 0, .slice none 0 0, .int .i64 a, .int .i64 b] := by
    rw [← hW0]
    have k := Blok.new (((w.alloc (.cells #[.int .i64 a, .int .i64 b] 25)).alloc (.cells #[.int .i64 0, .slice none 0 0, .int .i64 0, .int .i64 0] 30)).alloc (.cells #[.int .i64 a, .int .i64 b] 25)) 30 #[.int .i64 0, .slice none 0 0, .int .i64 a, .int .i64 b]
    rw [World.size_alloc, World.size_alloc, World.size_alloc] at k
    exact (k.alloc _).alloc _
  have bO : Blok W0 (w.heap.size + 1 + 1 + 1 + 1) 25 #[.int .i64 a, .int .i64 b] := by
    rw [← hW0]
    have k := Blok.new ((((w.alloc (.cells #[.int .i64 a, .int .i64 b] 25)).alloc (.cells #[.int .i64 0, .slice none 0 0, .int .i64 0, .int .i64 0] 30)).alloc (.cells #[.int .i64 a, .int .i64 b] 25)).alloc (.cells #[.int .i64 0, .slice none 0 0, .int .i64 a, .int .i64 b] 30)) 25 #[.int .i64 a, .int .i64 b]
    rw [World.size_alloc, World.size_alloc, World.size_alloc, World.size_alloc] at k
    exact k.alloc _
  have bN : Blok W0 (w.heap.size + 1 + 1 + 1 + 1 + 1) 2 #[.int .i64 N] := by
    rw [← hW0]
    have k := Blok.new (((((w.alloc (.cells #[.int .i64 a, .int .i64 b] 25)).alloc (.cells #[.int .i64 0, .slice none 0 0, .int .i64 0, .int .i64 0] 30)).alloc (.cells #[.int .i64 a, .int .i64 b] 25)).alloc (.cells #[.int .i64 0, .slice none 0 0, .int .i64 a, .int .i64 b] 30)).alloc (.cells #[.int .i64 a, .int .i64 b] 25)) 2 #[.int .i64 N]
    rw [World.size_alloc, World.size_alloc, World.size_alloc, World.size_alloc, World.size_alloc] at k
    exact k
  have hB0 : Below w.heap.size w W0 := by
    rw [← hW0]
    repeat (first | exact Below.refl _ _ | refine Below.alloc ?_ (by first | omega | (simp <;> omega)) _)
  clear hW0
  refine wpIn_range_told (by omega) (gf := 41) (lb := #[.pointer (some ⟨w.heap.size + 1 + 1 + 1 + 1, 0, none⟩), .pointer (some ⟨w.heap.size + 1 + 1 + 1 + 1 + 1, 0, none⟩)]) rfl (enters_of Try.func41 (by kernel_rfl) rfl)
    (grants1_tells a b N _ (w.heap.size + 1 + 1 + 1 + 1) (w.heap.size + 1 + 1 + 1 + 1 + 1) W0 (by omega) HC.out hN (by omega) (by omega) (bO.cell rfl) (bO.cell rfl) (bN.cell rfl)) (fun h k => h.trans k) (fun W l o o' => Keep.put W l o o') (Below.refl _ _)
    (Mid w a b) (Left w) (by rw [hsz]; exact mid_stands w a b) (by rw [hsz]; exact left_stands w) ⟨_, bT, bR, World.ownsRow_nil _ _ _ _, rfl, hB0, by omega⟩
    (fun x a' W => ∃ g, w.heap.size + 6 ≤ g ∧ Blok W g 33 #[.int .i64 x.1, .int .i64 x.2.1, .int .i64 x.2.2.1, .int .i64 x.2.2.2] ∧ a' = { tmps := #[.agg #[.int .i64 a, .int .i64 b], .int .i64 N, .pointer (some ⟨w.heap.size, 0, none⟩), undef, .pointer (some ⟨w.heap.size + 1, 0, none⟩), .int .i64 0, .pointer (some ⟨w.heap.size + 1 + 1 + 1, 0, none⟩), .pointer (some ⟨g, 0, none⟩), .agg #[.int .i64 a, .int .i64 b], .int .i64 0, .int .i64 0, .bool false, undef, undef, .int .i64 N, .bool (decide ((N : Int) < 0)), .bool (decide ((N : Int) < 0)), .int .i64 N, .bool (decide (100 < (N : Int))), .bool (decide ((N : Int) < 0) || decide (100 < (N : Int))), undef, .agg #[.int .i64 a, .int .i64 b], .agg #[.int .i64 0, .slice none 0 0, .int .i64 a, .int .i64 b], .agg #[.int .i64 a, .int .i64 b], .int .i64 N, .func (.func 41) #[] #[.pointer (some ⟨w.heap.size + 1 + 1 + 1 + 1, 0, none⟩), .pointer (some ⟨w.heap.size + 1 + 1 + 1 + 1 + 1, 0, none⟩)], encQ x, undef, undef, undef, undef, undef, undef, undef, undef, undef, undef, undef, undef, undef, undef, undef, undef, undef], defers := [] }) ?ax ?assign ?body ?done ?stop
  case ax =>
    rintro x a' _ W W' row ⟨g, h1, h2, h3⟩ hg hr
    exact ⟨g, h1, h2.kept hg (fun e => by obtain ⟨_, o, h4, h5⟩ := hr g e.symm; rw [show W.heap[g]? = _ from h2] at h4; cases h4; cases h5), h3⟩
  case assign =>
    rintro l pre ⟨q0, q1, q2, q3⟩ W K hi hK
    dsimp only [encQ]
    gi_wp2
    exact hK _ _ ((KeepsOthers.alloc _ _).from _) (Keep.alloc _ _) ((mid_stands w a b).alloc _ hi) ⟨W.heap.size, hi.choose_spec.2.2.2.2.2, Blok.new _ _ _, rfl⟩
  case body =>
    rintro l pre ⟨q0, q1, q2, q3⟩ a' W ⟨v, bT, bR, hown, hc, hB, hz⟩ ⟨g, hg, bQ, rfl⟩ hlen
    dsimp only [encQ] at bQ ⊢
    obtain ⟨ao, cp, hv⟩ := ownsRow_form hown
    subst hv
    have HT : Hid (Blok W (w.heap.size + 1 + 1 + 1) 30 #[.int .i64 0, .slice ao (tms pre).length cp, .int .i64 (orA a pre), .int .i64 (orB b pre)]) := bT
    have HR : Hid (Blok W (w.heap.size + 1) 30 #[.int .i64 0, .slice none 0 0, .int .i64 0, .int .i64 0]) := bR
    have HB : Hid (Below w.heap.size w W) := hB
    have k0 : W.cell? ⟨g, 0, none⟩ = some (.int .i64 q0) := bQ.cell rfl
    have k1 : W.cell? ⟨g, 1, none⟩ = some (.int .i64 q1) := bQ.cell rfl
    have k2 : W.cell? ⟨g, 2, none⟩ = some (.int .i64 q2) := bQ.cell rfl
    have k3 : W.cell? ⟨g, 3, none⟩ = some (.int .i64 q3) := bQ.cell rfl
    have hgl : g < W.heap.size := bQ.lt
    have HQ : Hid (Blok W g 33 #[.int .i64 q0, .int .i64 q1, .int .i64 q2, .int .i64 q3]) := bQ
    have HC0 : Hid (ansC pre = 0) := hc
    clear bT bR hB hc bQ HC hB0 bO bN hsz
    by_cases hq : q0 = 0
    · subst hq
      have t1 : W.cell? ⟨w.heap.size + 1 + 1 + 1, 1, none⟩ = some (.slice ao (tms pre).length cp) := HT.out.cell rfl
      have htl : Hid ((tms pre).length + 1 ≤ 100) := by have := tms_length pre; unfold Hid; omega
      gi_wp2_with (gi_at_builtin; refine wpListIn_append_own _ rfl _ _ 28 rfl (w.heap.size + 6) 2 i0 (.int .i64 0) 1 8 Try.underlying28 hi hz0 hz1 hz2 rfl (by decide) _ _ _ rfl (hown.alloc _) ⟨W.heap.size, 0, none⟩ 1 1 [.int .i64 q1] rfl rfl (cell_one_new _ _ _) (by simp [Value.oneCell']) ?b1 ?b2 ?b3 ?_)
      case b1 => have := htl.out; unfold maxLen; omega
      case b2 => have := htl.out; omega
      case b3 => simp; omega
      intro v' w1 hown' hgrow _
      have hsep : ∀ r, (Value.slice ao (tms pre).length cp).ownBlock = some r → ∃ cs t m, (W.alloc (.cells #[.int .i64 q1] 2)).heap[r]? = some (.cells cs t m) ∧ t = 2 := fun r hr => by
        obtain ⟨cs, m, hh⟩ := row_obj (hown.alloc (.cells #[.int .i64 q1] 2)) hr
        exact ⟨cs, _, m, hh, rfl⟩
      have hne : ∀ {k cs t}, t ≠ 2 → Blok W k t cs → Blok w1 k t cs := fun {k cs t} ht hb =>
        (hb.alloc _).kept hgrow (fun e => by
          obtain ⟨cs', t', m, h1, rfl⟩ := hsep k e.symm
          rw [show (W.alloc (.cells #[.int .i64 q1] 2)).heap[k]? = _ from hb.alloc _] at h1
          cases h1
          exact ht rfl)
      have T1 := hne (by decide) HT.out
      have R1 := hne (by decide) HR.out
      have Q1 := hne (by decide) HQ.out
      have K1 : KeepsFrom W0.heap.size W w1 := ((KeepsOthers.alloc W (.cells #[.int .i64 q1] 2)).trans (KeepsOthers.of_grownBy hgrow (fun j o hj ho => by
        obtain ⟨cs', t', m, h1, _⟩ := hsep j hj
        rw [ho] at h1; cases h1; rfl))).from _
      have P1 : Keep W w1 := (Keep.alloc W _).trans (Keep.grown hgrow (fun r hr => by
        obtain ⟨cs', t', m, h1, rfl⟩ := hsep r hr
        exact ⟨cs', _, m, h1, by decide, by decide⟩))
      have B1 : Below w.heap.size w w1 := (HB.out.alloc HB.out.size _).grown hgrow (by have := HB.out.size; simp; omega) (fun k hk => by have := (hown.lt k hk).1; omega)
      have Z1 : w.heap.size + 6 ≤ w1.heap.size := Nat.le_trans (by simp; omega) hgrow.size
      obtain ⟨ao', cp', hv'⟩ := ownsRow_form hown'
      subst hv'
      have O1 : w1.ownsRow (w.heap.size + 6) 2 1 (.slice ao' ((tms pre).length + 1) cp') (tms (pre ++ [(0, q1, q2, q3)])).length ((tms (pre ++ [(0, q1, q2, q3)])).map (Value.int .i64)) := by rw [tms_snoc]; simpa using hown'
      have HALL : Hid (Blok w1 (w.heap.size + 1 + 1 + 1) 30 #[.int .i64 0, .slice ao (tms pre).length cp, .int .i64 (orA a pre), .int .i64 (orB b pre)] ∧ Blok w1 (w.heap.size + 1) 30 #[.int .i64 0, .slice none 0 0, .int .i64 0, .int .i64 0] ∧ KeepsFrom W0.heap.size W w1 ∧ Keep W w1 ∧ Below w.heap.size w w1 ∧ w.heap.size + 6 ≤ w1.heap.size ∧ w1.ownsRow (w.heap.size + 6) 2 1 (.slice ao' ((tms pre).length + 1) cp') (tms (pre ++ [(0, q1, q2, q3)])).length ((tms (pre ++ [(0, q1, q2, q3)])).map (Value.int .i64))) := ⟨T1, R1, K1, P1, B1, Z1, O1⟩
      clear t1 k0 k1 k2 k3
      have t1 : w1.cell? ⟨w.heap.size + 1 + 1 + 1, 1, none⟩ = some (.slice ao (tms pre).length cp) := T1.cell rfl
      have t2 : w1.cell? ⟨w.heap.size + 1 + 1 + 1, 2, none⟩ = some (.int .i64 (orA a pre)) := T1.cell rfl
      have t3 : w1.cell? ⟨w.heap.size + 1 + 1 + 1, 3, none⟩ = some (.int .i64 (orB b pre)) := T1.cell rfl
      have f1 := T1.frozen 1
      have f2 := T1.frozen 2
      have f3 := T1.frozen 3
      have k2 : w1.cell? ⟨g, 2, none⟩ = some (.int .i64 q2) := Q1.cell rfl
      have k3 : w1.cell? ⟨g, 3, none⟩ = some (.int .i64 q3) := Q1.cell rfl
      have hgn : ¬ g = w.heap.size + 1 + 1 + 1 := by omega
      have hgn' : ¬ w.heap.size + 1 + 1 + 1 = g := by omega
      clear hown hown' hgrow hsep hne T1 R1 Q1 K1 P1 B1 Z1 O1 HT HR HQ
      gi_wp2
      obtain ⟨T1, R1, K1, P1, B1, Z1, O1⟩ := HALL.out
      have T2 := (T1.set 1 (.slice ao' ((tms pre).length + 1) cp')).set 2 (.int .i64 q2)
      refine ⟨?_, ?_, ?_⟩
      · exact ((K1.trans ((KeepsOthers.setCell _ _ _).from _)).trans ((KeepsOthers.setCell _ _ _).from _)).trans ((KeepsOthers.setCell _ _ _).from _)
      · exact ((P1.trans (Keep.set T1 _ _)).trans (Keep.set (T1.set 1 _) _ _)).trans (Keep.set T2 _ _)
      · refine ⟨.slice ao' ((tms pre).length + 1) cp', ?_, ?_, ?_, ?_, ?_, ?_⟩
        · rw [orA_snoc, orB_snoc]; exact T2.set 3 (.int .i64 q3)
        · exact ((R1.other (by omega) _ _).other (by omega) _ _).other (by omega) _ _
        · exact ownsRow_setCell_below (ownsRow_setCell_below (ownsRow_setCell_below O1 (by simp) _) (by simp) _) (by simp) _
        · exact ansC_snoc _ _
        · exact ((B1.setCell (by simp; omega) _).setCell (by simp; omega) _).setCell (by simp; omega) _
        · simpa [World.setCell] using Z1
    · have d0 : (q0 != 0) = true := by rw [bne_iff_ne]; exact hq
      have HQ0 : Hid (q0 ≠ 0) := hq
      have r0 : W.cell? ⟨w.heap.size + 1, 0, none⟩ = some (.int .i64 0) := HR.out.cell rfl
      have r1 : W.cell? ⟨w.heap.size + 1, 1, none⟩ = some (.slice none 0 0) := HR.out.cell rfl
      have r2 : W.cell? ⟨w.heap.size + 1, 2, none⟩ = some (.int .i64 0) := HR.out.cell rfl
      have r3 : W.cell? ⟨w.heap.size + 1, 3, none⟩ = some (.int .i64 0) := HR.out.cell rfl
      have f0 := HR.out.frozen 0
      have f1 := HR.out.frozen 1
      have f2 := HR.out.frozen 2
      have f3 := HR.out.frozen 3
      clear hq hown
      gi_wp2
      refine ⟨?_, q0, ?_, HQ0.out, ansC_snoc _ _, ?_⟩
      · exact ((((KeepsOthers.setCell _ _ _).trans (KeepsOthers.setCell _ _ _)).trans (KeepsOthers.setCell _ _ _)).trans (KeepsOthers.setCell _ _ _)).from _
      · exact (((HR.out.set 0 (.int .i64 q0)).set 1 (.slice none 0 0)).set 2 (.int .i64 0)).set 3 (.int .i64 0)
      · exact (((HB.out.setCell (by simp) _).setCell (by simp) _).setCell (by simp) _).setCell (by simp) _
  case done =>
    rintro D ys W hD rfl ⟨v, bT, bR, hown, hc, hB, hz⟩ hK
    obtain ⟨ao, cp, hv⟩ := ownsRow_form hown
    subst hv
    have r0 : W.cell? ⟨w.heap.size + 1, 0, none⟩ = some (.int .i64 0) := bR.cell rfl
    have r1 : W.cell? ⟨w.heap.size + 1, 1, none⟩ = some (.slice none 0 0) := bR.cell rfl
    have r2 : W.cell? ⟨w.heap.size + 1, 2, none⟩ = some (.int .i64 0) := bR.cell rfl
    have r3 : W.cell? ⟨w.heap.size + 1, 3, none⟩ = some (.int .i64 0) := bR.cell rfl
    have f0 := bR.frozen 0
    have f1 := bR.frozen 1
    have f2 := bR.frozen 2
    have f3 := bR.frozen 3
    have t0 : W.cell? ⟨w.heap.size + 1 + 1 + 1, 0, none⟩ = some (.int .i64 0) := bT.cell rfl
    have t1 : W.cell? ⟨w.heap.size + 1 + 1 + 1, 1, none⟩ = some (.slice ao (tms (gl N a b)).length cp) := bT.cell rfl
    have t2 : W.cell? ⟨w.heap.size + 1 + 1 + 1, 2, none⟩ = some (.int .i64 (orA a (gl N a b))) := bT.cell rfl
    have t3 : W.cell? ⟨w.heap.size + 1 + 1 + 1, 3, none⟩ = some (.int .i64 (orB b (gl N a b))) := bT.cell rfl
    gi_wp2
    have hK' := ((((KeepsOthers.setCell W ⟨w.heap.size + 1, 0, none⟩ (.int .i64 0)).trans (KeepsOthers.setCell _ ⟨w.heap.size + 1, 1, none⟩ (.slice ao (tms (gl N a b)).length cp))).trans (KeepsOthers.setCell _ ⟨w.heap.size + 1, 2, none⟩ (.int .i64 (orA a (gl N a b))))).trans (KeepsOthers.setCell _ ⟨w.heap.size + 1, 3, none⟩ (.int .i64 (orB b (gl N a b))))).same D _ hK rfl
    have R2 := (((bR.set 0 (.int .i64 0)).set 1 (.slice ao (tms (gl N a b)).length cp)).set 2 (.int .i64 (orA a (gl N a b)))).set 3 (.int .i64 (orB b (gl N a b)))
    refine ⟨by simp, .inl ⟨_, _, rfl, run_takeDeferred hK', ?_⟩⟩
    have R3 := R2.kept (grownBy_putObj' _ D (.deferred none)) (fun e => by cases e; omega)
    have B3 := (((hB.setCell (p := ⟨w.heap.size + 1, 0, none⟩) (by simp) (.int .i64 0)).setCell (p := ⟨w.heap.size + 1, 1, none⟩) (by simp) (.slice ao (tms (gl N a b)).length cp)).setCell (p := ⟨w.heap.size + 1, 2, none⟩) (by simp) (.int .i64 (orA a (gl N a b)))).setCell (p := ⟨w.heap.size + 1, 3, none⟩) (by simp) (.int .i64 (orB b (gl N a b)))
    have z0 := R3.cell (k := 0) (v := .int .i64 0) rfl
    have z1 := R3.cell (k := 1) (v := .slice ao (tms (gl N a b)).length cp) rfl
    have z2 := R3.cell (k := 2) (v := .int .i64 (orA a (gl N a b))) rfl
    have z3 := R3.cell (k := 3) (v := .int .i64 (orB b (gl N a b))) rfl
    refine ⟨.agg #[.int .i64 0, .slice ao (tms (gl N a b)).length cp, .int .i64 (orA a (gl N a b)), .int .i64 (orB b (gl N a b))], ?_, ?_⟩
    · simp [results, Try.results11, go_sem, z0, z1, z2, z3]
    · refine ⟨.slice ao (tms (gl N a b)).length cp, ?_, ?_, ?_⟩
      · unfold ansA ansB
        rw [if_pos hc, if_pos hc, hc]
      · unfold ansL
        rw [if_pos hc]
        exact (ownsRow_putObj (ownsRow_setCell_below (ownsRow_setCell_below (ownsRow_setCell_below (ownsRow_setCell_below hown (by simp) _) (by simp) _) (by simp) _) (by simp) _) _ hK' rfl).mono (by omega)
      · exact B3.trans (belowK_b (w := w) (Nat.le_refl _) _ D _ _ (by omega) hK' rfl rfl)
  case stop =>
    rintro D pre W hD hp ⟨c, bR, hc, ha, hB⟩ hK
    gi_wp2
    refine ⟨by simp, .inl ⟨_, _, rfl, run_takeDeferred hK, ?_⟩⟩
    have R3 := bR.kept (grownBy_putObj' _ D (.deferred none)) (fun e => by cases e; omega)
    have z0 := R3.cell (k := 0) (v := .int .i64 c) rfl
    have z1 := R3.cell (k := 1) (v := .slice none 0 0) rfl
    have z2 := R3.cell (k := 2) (v := .int .i64 0) rfl
    have z3 := R3.cell (k := 3) (v := .int .i64 0) rfl
    refine ⟨.agg #[.int .i64 c, .slice none 0 0, .int .i64 0, .int .i64 0], ?_, ?_⟩
    · simp [results, Try.results11, go_sem, z0, z1, z2, z3]
    · obtain rfl := gl_stop N a b pre hp (by rw [ha]; exact hc)
      have hc' : ansC (gl N a b) ≠ 0 := by rw [ha]; exact hc
      refine ⟨.slice none 0 0, ?_, ?_, ?_⟩
      · unfold ansA ansB
        rw [if_neg hc', if_neg hc', ha]
      · unfold ansL
        rw [if_neg hc']
        exact Ints.nil _ _
      · exact hB.trans (belowK_b (w := w) (Nat.le_refl _) _ D _ _ (by omega) hK rfl rfl)
end Go.Proofs.Ytbljhkhpfhphgaa
