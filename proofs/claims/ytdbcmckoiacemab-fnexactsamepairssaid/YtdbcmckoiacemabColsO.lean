/-
  Own text. A slice of structs of whole numbers that came in, opened: how many there are, and all their numbers.
-/
import Derived.Test.YtdbcmckoiacemabColsA
namespace Go.Proofs.Ytdbcmckoiacemab
open Go.RowKit Go.Deep

theorem open_row {H : Type} {enc : TypeId × Value → H} {P : Program} {w : World} {base : Nat} {spare : Nat → Bool} {held : Bool} {t e : TypeId} {fs : Array Field} {fuel m : Nat} {v : Value} {x : DataW H × List MemPlace}
    (ht : P.underlying t = some (.slice e)) (he : P.underlying e = some (.struct fs)) (hce : P.cellsOf e = m) (hm0 : 0 < m) (hfm : fs.size = m)
    (hfs : ∀ (j : Nat) (f : Field), fs[j]? = some f → f.offset = j ∧ P.cellsOf f.type = 1 ∧ P.underlying f.type = some (.int .i64))
    (h : DataW.trod enc P w base spare held fuel t [v] = some x) :
    ∃ n F, Row w base m n F v ∧ n ≤ maxLen ∧ ∀ p, (Lit.int .i64 (F p)).wf = true := by
  rcases open_slice ht h with ⟨h0, _⟩ | ⟨a, len, cap, q, n, D, Pl, hv, hb, hl, hm, hmm, rfl, hx⟩
  · simp only [List.cons.injEq, and_true] at h0
    subst h0
    exact ⟨0, fun _ => 0, ⟨_, _, rfl, fun h => absurd h (Nat.lt_irrefl 0)⟩, Nat.zero_le _, fun _ => (by decide : (Lit.int .i64 0).wf = true)⟩
  simp only [List.cons.injEq, and_true] at hv
  subst hv
  have hlq : len ≤ q := by rw [hmm]; split <;> omega
  have each : ∀ p, p < len * m → ∃ z : Int, w.cell? (a.add p) = some (.int .i64 z) ∧ (Lit.int .i64 z).wf = true := by
    intro p hp
    have hi : p / m < len := (Nat.div_lt_iff_lt_mul hm0).2 hp
    have hj : p % m < m := Nat.mod_lt _ hm0
    obtain ⟨cs', h1, h2⟩ := hx (p / m) (by omega)
    rw [hce] at h1
    obtain ⟨_, hlen, hcell⟩ := World.cells?_some h1
    obtain ⟨xs, k, hk, hxy, _, hxl, hf⟩ := DataW.trod_struct he h2
    obtain ⟨f, hff⟩ : ∃ f, fs[p % m]? = some f := ⟨fs[p % m]'(by omega), by simp⟩
    obtain ⟨h3, h4, h5⟩ := hfs _ f hff
    have h6 := hf _ f hff
    rw [h3, h4, List.getElem?_eq_getElem (by omega)] at h6
    obtain ⟨z, hz, _, hwf⟩ := DataW.trod_int h5 h6
    refine ⟨z, ?_, hwf⟩
    have e0 := hcell (p % m) hj
    rw [List.drop_eq_getElem_cons (by omega)] at hz
    simp only [List.take_succ_cons, List.take_zero, List.cons.injEq, and_true] at hz
    rw [List.getElem?_eq_getElem (by omega), hz, add_add, Nat.mul_comm, Nat.div_add_mod] at e0
    exact e0
  obtain ⟨F, hF⟩ := choose_lt each
  refine ⟨len, fun p => if p < len * m then F p else 0, ⟨_, _, rfl, fun hn => ?_⟩, Nat.le_trans hl hm, fun p => ?_⟩
  · have e : 0 < m := hm0
    obtain ⟨b, o, s⟩ := a
    have h0 := (hF 0 (Nat.mul_pos hn e)).1
    obtain rfl : s = none := by simpa [Addr.add] using World.cell?_spot h0
    refine ⟨b, o, rfl, hb, World.block_lt_of_cell? w _ h0, fun p hp => ?_⟩
    show w.cell? ⟨b, o + p, none⟩ = some (.int .i64 (if p < len * m then F p else 0))
    rw [if_pos hp]
    have e1 := (hF p hp).1
    rw [WideShapes.add_plain] at e1
    exact e1
  · show (Lit.int .i64 (if p < len * m then F p else 0)).wf = true
    split
    · exact (hF p (by assumption)).2
    · decide
end Go.Proofs.Ytdbcmckoiacemab
