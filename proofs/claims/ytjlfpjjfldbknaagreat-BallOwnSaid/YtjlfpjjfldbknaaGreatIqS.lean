/- Slices of integers, as a walk reads them. -/
import Derived.Test.YtjlfpjjfldbknaaGreatFqA
import Derived.Below
import Derived.Lib.OwnBridge
import Derived.Sort.Grow
import Derived.Deep.Slices
import Derived.Laws.Cover2
import Derived.SizedLaws
import Derived.ProofKit
namespace Go.Iq
open Go.RowKit Go.Sort Go.Lib

/-- A slice of integers that can be read: how many, where, and which. -/
def IsInts (w : World) (a : Option Addr) (len : Nat) (zs : List Int) : Prop :=
  zs.length = len ∧ (0 < len → ∃ b off, a = some ⟨b, off, none⟩ ∧ ∀ i, i < len → w.cell? ⟨b, off + i, none⟩ = some (.int .i64 (zs.getD i 0)))

theorem block_lt {w : World} {p : Addr} {v : Value} (h : w.cell? p = some v) : p.block < w.heap.size := by
  rcases Nat.lt_or_ge p.block w.heap.size with g | g
  · exact g
  · have : w.heap[p.block]? = none := by simp [g]
    simp [World.cell?, this] at h
theorem IsInts.below {w w' : World} {a : Option Addr} {len : Nat} {zs : List Int} (h : IsInts w a len zs) (hb : Below w.heap.size w w') : IsInts w' a len zs := by
  refine ⟨h.1, fun hp => ?_⟩
  obtain ⟨b, off, ha, hc⟩ := h.2 hp
  refine ⟨b, off, ha, fun i hi => ?_⟩
  have := hc i hi
  rw [← this]
  exact hb.cell (p := ⟨b, off + i, none⟩) (block_lt this)
theorem IsInts.drewN {w : World} {a : Option Addr} {len : Nat} {zs : List Int} (h : IsInts w a len zs) (n : Nat) : IsInts (w.drewN n) a len zs := h
theorem below_drewN {B : Nat} {a w : World} (h : Below B a w) (n : Nat) : Below B a (w.drewN n) := h.trans ⟨rfl, rfl, rfl, Nat.le_refl _, fun _ _ => rfl⟩
end Go.Iq
