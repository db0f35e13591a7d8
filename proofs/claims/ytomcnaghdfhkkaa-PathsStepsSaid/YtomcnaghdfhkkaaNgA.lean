/- Graphs: routers in memory; comparing numbers; the search for a router. -/
import Derived.Test.YtomcnaghdfhkkaaProg
import Derived.Test.YtomcnaghdfhkkaaNqA
import Derived.WalkKit
import Derived.ProofKit
import Derived.Lib.Hide
import Derived.LoopTactic
import Derived.Outline
import Derived.IntWalk
import Derived.Below
import Derived.Laws.Bits64
namespace Go.Proofs.Ytomcnaghdfhkkaa
open Go.RowKit Go.Lib Go.Nq
set_option linter.unusedVariables false
set_option linter.unusedSimpArgs false
set_option maxRecDepth 100000

/-- A router's cells. -/
structure NdAt (w : World) (b o : Nat) (n : Nd) : Prop where
  c0 : w.cell? ⟨b, o, none⟩ = some (.int .i64 n.id)
  c1 : w.cell? ⟨b, o + 1, none⟩ = some (.bool n.up)
  c2 : w.cell? ⟨b, o + 2, none⟩ = some (.bool n.mark)
theorem NdAt.kept {w w' : World} {b o : Nat} {n : Nd} (h : NdAt w b o n) (k : w'.heap[b]? = w.heap[b]?) : NdAt w' b o n :=
  ⟨(World.cell?_of_block k).trans h.c0, (World.cell?_of_block k).trans h.c1, (World.cell?_of_block k).trans h.c2⟩
/-- What a []api.Node holds. -/
def NodesIn (w : World) (B : Nat) (l : List Nd) (a : Option Addr) : Prop := l = [] ∨ ∃ b o, a = some ⟨b, o, none⟩ ∧ b < B ∧ ∀ k (h : k < l.length), NdAt w b (o + k * 3) l[k]
theorem NodesIn.kept {w w' : World} {B B' : Nat} {l : List Nd} {a : Option Addr} (h : NodesIn w B l a) (k : ∀ i, i < B → w'.heap[i]? = w.heap[i]?) (hB : B ≤ B') : NodesIn w' B' l a := by
  rcases h with h | ⟨b, o, ha, hb, hc⟩
  · exact Or.inl h
  · exact Or.inr ⟨b, o, ha, Nat.lt_of_lt_of_le hb hB, fun i hi => (hc i hi).kept (k b hb)⟩
theorem NodesIn.at {w : World} {B : Nat} {l : List Nd} {a : Option Addr} (h : NodesIn w B l a) (k : Nat) (hk : k < l.length) : ∃ b o, a = some ⟨b, o, none⟩ ∧ b < B ∧ ∀ k (h : k < l.length), NdAt w b (o + k * 3) l[k] := by
  rcases h with h | h
  · subst h; simp at hk
  · exact h
theorem gAl (W : World) (o : Obj) : Below W.heap.size W (W.alloc o) := (Below.refl _ _).alloc (Nat.le_refl _) _
theorem gNx {W w w' : World} (h : Below W.heap.size W w) (k : Below w.heap.size w w') : Below W.heap.size W w' := h.trans (k.mono h.size)
def cmpI (x y : Int) : Int := if x < y then -1 else if y < x then 1 else 0
theorem gNaN_any (x : Int) (w : World) : Calls Try.prog 81 #[.int .i64 x] w fun e w' => e = .returned (.bool false) ∧ w = w' := by
  have hx : (x != x) = false := by simp
  go_enter Try.func81, Try.ntmps81
  go_wp2_with fail
  go_ret
  exact ⟨rfl, rfl⟩
theorem gCmp_any (x y : Int) (w : World) : Calls Try.prog 62 #[.int .i64 x, .int .i64 y] w fun e w' => e = .returned (.int .i64 (cmpI x y)) ∧ w = w' := by
  unfold cmpI
  by_cases h1 : x < y
  · rw [if_pos h1]
    go_enter Try.func62, Try.ntmps62
    go_wp2_with (go_at_call 81; refine (gNaN_any _ _).mono ?_; rintro e w' ⟨rfl, rfl⟩)
    go_ret
    exact ⟨rfl, rfl⟩
  · rw [if_neg h1]
    by_cases h2 : y < x
    · rw [if_pos h2]
      go_enter Try.func62, Try.ntmps62
      go_wp2_with (go_at_call 81; refine (gNaN_any _ _).mono ?_; rintro e w' ⟨rfl, rfl⟩)
      go_ret
      exact ⟨rfl, rfl⟩
    · rw [if_neg h2]
      go_enter Try.func62, Try.ntmps62
      go_wp2_with (go_at_call 81; refine (gNaN_any _ _).mono ?_; rintro e w' ⟨rfl, rfl⟩)
      go_ret
      exact ⟨rfl, rfl⟩
theorem gFind1_any (n : Nd) (x : Int) (w : World) : Calls Try.prog 101 #[.agg #[.int .i64 n.id, .bool n.up, .bool n.mark], .int .i64 x] w fun e w' => e = .returned (.int .i64 (cmpI n.id x)) ∧ Below w.heap.size w w' := by
  go_enter Try.func101, Try.ntmps101
  go_wp2_with (go_at_call 62; refine (gCmp_any _ _ _).mono ?_; rintro e w' ⟨rfl, rfl⟩)
  go_ret
  exact ⟨rfl, gAl _ _⟩
end Go.Proofs.Ytomcnaghdfhkkaa
