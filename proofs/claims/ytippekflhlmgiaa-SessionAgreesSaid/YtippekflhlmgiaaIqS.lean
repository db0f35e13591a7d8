/- Slices of integers, as a walk reads them. -/
import Derived.Test.YtippekflhlmgiaaFqA
import Derived.Below
import Derived.Lib.OwnBridge
import Derived.Sort.Grow
import Derived.Deep.Slices
import Derived.Laws.Cover2
import Derived.SizedLaws
import Derived.ProofKit
namespace Go.Iq
open Go.RowKit Go.Sort Go.Lib

/-- A slice of integers that can be read: how many, where, and which. -/
def IsInts (w : World) (a : Option Addr) (len : Nat) (zs : List Int) : Prop :=
  zs.length = len ∧ (0 < len → ∃ b off, a = some ⟨b, off, none⟩ ∧ ∀ i, i < len → w.cell? ⟨b, off + i, none⟩ = some (.int .i64 (zs.getD i 0)))

theorem block_lt {w : World} {p : Addr} {v : Value} (h : w.cell? p = some v) : p.block < w.heap.size := by
  rcases Nat.lt_or_ge p.block w.heap.size with g | g
  · exact g
  · have : w.heap[p.block]? = none := by simp [g]
    simp [World.cell?, this] at h
theorem IsInts.below {w w' : World} {a : Option Addr} {len : Nat} {zs : List Int} (h : IsInts w a len zs) (hb : Below w.heap.size w w') : IsInts w' a len zs := by
  refine ⟨h.1, fun hp => ?_⟩
  obtain ⟨b, off, ha, hc⟩ := h.2 hp
  refine ⟨b, off, ha, fun i hi => ?_⟩
  have := hc i hi
  rw [← this]
  exact hb.cell (p := ⟨b, off + i, none⟩) (block_lt this)
theorem IsInts.drewN {w : World} {a : Option Addr} {len : Nat} {zs : List Int} (h : IsInts w a len zs) (n : Nat) : IsInts (w.drewN n) a len zs := h
theorem isInts_nil (w : World) (a : Option Addr) : IsInts w a 0 [] := ⟨rfl, fun h => absurd h (by omega)⟩
theorem below_grow {B : Nat} {a w : World} (h : Below B a w) (os : Array Obj) (hB : B ≤ w.heap.size) : Below B a (Sort.grow w os) :=
  h.trans ⟨rfl, rfl, rfl, by simp [Sort.grow], fun k hk => by simp [Sort.grow, Array.getElem?_append_left (show k < w.heap.size by omega)]⟩
theorem below_drewN {B : Nat} {a w : World} (h : Below B a w) (n : Nat) : Below B a (w.drewN n) := h.trans ⟨rfl, rfl, rfl, Nat.le_refl _, fun _ _ => rfl⟩
theorem below_size {B : Nat} {w w' : World} (h : Below B w w') : w.heap.size ≤ w'.heap.size := h.size
/-- From call to call. -/
theorem below_next {W w w' : World} (h : Below W.heap.size W w) (k : Below w.heap.size w w') : Below W.heap.size W w' := h.trans (k.mono h.size)

/-- A slice that the call owns, as it is read. -/
theorem ints_of_own {w : World} {base : Nat} {e : TypeId} {v : Value} {n : Nat} {zs : List Int} (h : w.ownsRow base e 1 v n (zs.map (Value.int .i64))) :
    ∃ a cap, v = .slice a n cap ∧ n ≤ cap ∧ IsInts w a n zs := by
  have hl : zs.length = n := by simpa using h.1
  by_cases hv : v = .slice none 0 0
  · rcases h.2 with ⟨_, h0⟩ | ⟨g, cap, cur, e0, _⟩
    · subst h0
      exact ⟨none, 0, hv, Nat.le_refl _, hl, fun h => absurd h (by omega)⟩
    · rw [hv] at e0; cases e0
  · obtain ⟨g, cap, rfl, _, _, h1, _, _, hH⟩ := holds_of_ownsRow h hv
    refine ⟨_, cap, rfl, h1, hl, fun _ => ⟨g, 0, rfl, fun i hi => ?_⟩⟩
    have := (hH i (by simpa [hl] using hi)).1
    rw [this]
    have hi' : i < zs.length := by omega
    simp [getElem!_pos, hi', List.getD]
/-- What slices.Sort leaves of a slice that the call owns. -/
theorem ints_sorted {w : World} {base : Nat} {e : TypeId} {g n cap q : Nat} {zs ys : List Int} (os : Array Obj) (h : w.ownsRow base e 1 (.slice (some ⟨g, 0, none⟩) n cap) n (zs.map (Value.int .i64))) (hy : ys.length = n) (hg : base ≤ g) :
    IsInts (Sort.grow (putRow (Value.int .i64) (Sort.ahead w q) g 0 ys.toArray) os) (some ⟨g, 0, none⟩) n ys ∧ (base ≤ w.heap.size → Below base w (Sort.grow (putRow (Value.int .i64) (Sort.ahead w q) g 0 ys.toArray) os)) := by
  have h1 := ownsRow_putRow (q := q) h hy (Nat.le_refl n)
  rw [List.take_of_length_le (by omega)] at h1
  obtain ⟨a, c, hv, _, hI⟩ := ints_of_own h1
  obtain ⟨rfl, _, rfl⟩ := Value.slice.inj hv
  refine ⟨hI.below (below_grow (Below.refl _ _) os (Nat.le_refl _)), fun hb => ?_⟩
  have h2 := below_putRow (enc := Value.int .i64) (q := q) (d := ys.toArray) (Below.refl base w) hg
  exact below_grow h2 os (Nat.le_trans hb h2.size)

/-- .. of an argument. -/
theorem open_intsV {H : Type} {enc : TypeId × Value → H} {P : Program} {w : World} {base : Nat} {spare : Nat → Bool} {held : Bool} {t e : TypeId} {a : Option Addr} {len cap : Nat} {d : DataW H} {ps : List MemPlace}
    (ht : P.underlying t = some (.slice e)) (he : P.underlying e = some (.int .i64)) (hc : P.cellsOf e = 1) (h : DataW.Trod enc P w base spare held t (.slice a len cap) d ps) :
    ∃ zs, (IsInts w a len zs ∧ (∀ z ∈ zs, (Lit.int .i64 z).wf = true) ∧ (a = none → cap = 0)) ∧ (len = 0 ∨ ∃ el sp, d = .slice el sp ∧ len = el.length) := by
  obtain ⟨fuel, hf⟩ := h
  rcases Go.ChangeShapes.open_ints ht he hc hf with ⟨hcs, _⟩ | ⟨x, l, c, zs, hcs, _, hl, hm, hz, hx, hcell, hwf⟩
  · simp [Value.cells] at hcs
    obtain ⟨rfl, rfl, rfl⟩ := hcs
    exact ⟨[], ⟨isInts_nil _ _, by simp, fun _ => rfl⟩, .inl rfl⟩
  · simp [Value.cells] at hcs
    obtain ⟨rfl, rfl, rfl⟩ := hcs
    have hlm : len ≤ zs.length := by rw [hz]; split <;> omega
    refine ⟨zs.take len, ⟨⟨by simp; omega, fun hp => ?_⟩, fun z hzm => hwf z (List.mem_of_mem_take hzm), fun h => by cases h⟩, .inr ⟨_, _, (Prod.mk.inj hx).1, by simp [Go.ChangeShapes.lits]; omega⟩⟩
    obtain ⟨b, off, spot⟩ := x
    have h0 := hcell 0 (by omega)
    have hspot : spot = none := by simpa [Addr.add] using World.cell?_spot h0
    subst hspot
    refine ⟨b, off, rfl, fun i hi => ?_⟩
    have h1 := hcell i (by omega)
    have ha : (⟨b, off, none⟩ : Addr).add i = ⟨b, off + i, none⟩ := by
      unfold Addr.add
      split
      · rename_i h; subst h; rfl
      · rfl
    rw [ha] at h1
    rw [h1]
    simp [List.getD, hi]
end Go.Iq
