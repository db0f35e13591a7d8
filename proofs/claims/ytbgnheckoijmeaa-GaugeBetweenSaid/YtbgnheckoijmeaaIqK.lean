/- Slices of integers of whatever kind, as a walk reads them. -/
import Derived.Test.YtbgnheckoijmeaaIqS
namespace Go.Iq
open Go.RowKit Go.Sort Go.Lib

/-- A slice of integers of kind k that can be read: how many, where, and which. -/
def IsKInts (k : IntKind) (w : World) (a : Option Addr) (len : Nat) (zs : List Int) : Prop :=
  zs.length = len ∧ (0 < len → ∃ b off, a = some ⟨b, off, none⟩ ∧ ∀ i, i < len → w.cell? ⟨b, off + i, none⟩ = some (.int k (zs.getD i 0)))
theorem IsKInts.below {k : IntKind} {w w' : World} {a : Option Addr} {len : Nat} {zs : List Int} (h : IsKInts k w a len zs) (hb : Below w.heap.size w w') : IsKInts k w' a len zs := by
  refine ⟨h.1, fun hp => ?_⟩
  obtain ⟨b, off, ha, hc⟩ := h.2 hp
  refine ⟨b, off, ha, fun i hi => ?_⟩
  have := hc i hi
  rw [← this]
  exact hb.cell (p := ⟨b, off + i, none⟩) (block_lt this)
theorem isKInts_nil (k : IntKind) (w : World) (a : Option Addr) : IsKInts k w a 0 [] := ⟨rfl, fun h => absurd h (by omega)⟩

/-- .. of an argument. -/
theorem open_intsK {H : Type} {enc : TypeId × Value → H} {P : Program} {w : World} {base : Nat} {spare : Nat → Bool} {held : Bool} {t e : TypeId} {k : IntKind} {a : Option Addr} {len cap : Nat} {d : DataW H} {ps : List MemPlace}
    (ht : P.underlying t = some (.slice e)) (he : P.underlying e = some (.int k)) (hc : P.cellsOf e = 1) (h : DataW.Trod enc P w base spare held t (.slice a len cap) d ps) :
    ∃ zs, (IsKInts k w a len zs ∧ (∀ z ∈ zs, (Lit.int k z).wf = true) ∧ (a = none → cap = 0)) ∧ (len = 0 ∨ ∃ el sp, d = .slice el sp ∧ len = el.length) := by
  obtain ⟨fuel, hf⟩ := h
  rcases Go.ChangeShapes.open_ints ht he hc hf with ⟨hcs, _⟩ | ⟨x, l, c, zs, hcs, _, hl, hm, hz, hx, hcell, hwf⟩
  · simp [Value.cells] at hcs
    obtain ⟨rfl, rfl, rfl⟩ := hcs
    exact ⟨[], ⟨isKInts_nil _ _ _, by simp, fun _ => rfl⟩, .inl rfl⟩
  · simp [Value.cells] at hcs
    obtain ⟨rfl, rfl, rfl⟩ := hcs
    have hlm : len ≤ zs.length := by rw [hz]; split <;> omega
    refine ⟨zs.take len, ⟨⟨by simp; omega, fun hp => ?_⟩, fun z hzm => hwf z (List.mem_of_mem_take hzm), fun h => by cases h⟩, .inr ⟨_, _, (Prod.mk.inj hx).1, by simp [Go.ChangeShapes.lits]; omega⟩⟩
    obtain ⟨b, off, spot⟩ := x
    have h0 := hcell 0 (by omega)
    have hspot : spot = none := by simpa [Addr.add] using World.cell?_spot h0
    subst hspot
    refine ⟨b, off, rfl, fun i hi => ?_⟩
    have h1 := hcell i (by omega)
    have ha : (⟨b, off, none⟩ : Addr).add i = ⟨b, off + i, none⟩ := by
      unfold Addr.add
      split
      · rename_i h; subst h; rfl
      · rfl
    rw [ha] at h1
    rw [h1]
    simp [List.getD, hi]
end Go.Iq
