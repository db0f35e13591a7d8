/- Graphs: graphs of a call's own, changes that come in. -/
import Derived.Test.YtjlfpjjfldbknaaGreatNgL
import Derived.Test.YtjlfpjjfldbknaaGreatNqA
namespace Go.Proofs.YtjlfpjjfldbknaaGreat
open Go.RowKit Go.Lib Go.Fq Go.Iq Go.Nq Go.Ow
set_option linter.unusedVariables false
set_option linter.unusedSimpArgs false
set_option maxRecDepth 100000

/-- A graph that a call tells: its rows are the call's own. -/
structure GrV (w : World) (base : Nat) (vn vl : Value) (G : Gr) : Prop where
  nodes : Own w base 60 3 vn G.nodes.length (ndRow G.nodes)
  links : Own w base 62 4 vl G.links.length (lkRow G.links)
  wts : ∀ y ∈ G.links, y.w < 2 ^ 64
theorem GrAt.v {w : World} {base bg : Nat} {vn vl : Value} {G : Gr} (h : GrAt w base bg vn vl G) : GrV w base vn vl G := ⟨h.nodes, h.links, h.wts⟩
theorem GrV.below {w w' : World} {base : Nat} {vn vl : Value} {G : Gr} (h : GrV w base vn vl G) (hb : Below w.heap.size w w') : GrV w' base vn vl G := ⟨h.nodes.below hb, h.links.below hb, h.wts⟩
theorem GrV.mono {w : World} {base b2 : Nat} {vn vl : Value} {G : Gr} (h : GrV w base vn vl G) (hb : b2 ≤ base) : GrV w b2 vn vl G := ⟨h.nodes.mono hb, h.links.mono hb, h.wts⟩
theorem grv_0 (w : World) (base : Nat) : GrV w base (.slice none 0 0) (.slice none 0 0) gr0 := ⟨Or.inl ⟨rfl, rfl, none, rfl⟩, Or.inl ⟨rfl, rfl, none, rfl⟩, fun y hy => by cases hy⟩
/-- Rows stay where a block of a graph's struct is written. -/
theorem GrV.set {w : World} {base b o : Nat} {vn vl u : Value} {G : Gr} {cs : Array Value} (h : GrV w base vn vl G) (hg : w.heap[b]? = some (.cells cs 25 (0, 0))) : GrV (w.setCell ⟨b, o, none⟩ u) base vn vl G :=
  ⟨h.nodes.keep (fun j cur hj => Below.heap_setCell _ _ _ _ (heap_ne hj hg (by decide))), h.links.keep (fun j cur hj => Below.heap_setCell _ _ _ _ (heap_ne hj hg (by decide))), h.wts⟩
/-- What a []api.Change holds. -/
structure ChAt (w : World) (b o : Nat) (c : Ch) : Prop where
  c0 : w.cell? ⟨b, o, none⟩ = some (.int .i64 c.kind)
  c1 : w.cell? ⟨b, o + 1, none⟩ = some (.int .i64 c.a)
  c2 : w.cell? ⟨b, o + 2, none⟩ = some (.int .i64 c.b)
  c3 : w.cell? ⟨b, o + 3, none⟩ = some (.float .f64 c.w)
theorem ChAt.kept {w w' : World} {b o : Nat} {n : Ch} (h : ChAt w b o n) (k : w'.heap[b]? = w.heap[b]?) : ChAt w' b o n :=
  ⟨(World.cell?_of_block k).trans h.c0, (World.cell?_of_block k).trans h.c1, (World.cell?_of_block k).trans h.c2, (World.cell?_of_block k).trans h.c3⟩
def ChsIn (w : World) (B : Nat) (l : List Ch) (a : Option Addr) : Prop := l = [] ∨ ∃ b o, a = some ⟨b, o, none⟩ ∧ b < B ∧ ∀ k (h : k < l.length), ChAt w b (o + k * 4) l[k]
theorem ChsIn.kept {w w' : World} {B B' : Nat} {l : List Ch} {a : Option Addr} (h : ChsIn w B l a) (k : ∀ i, i < B → w'.heap[i]? = w.heap[i]?) (hB : B ≤ B') : ChsIn w' B' l a := by
  rcases h with h | ⟨b, o, ha, hb, hc⟩
  · exact Or.inl h
  · exact Or.inr ⟨b, o, ha, Nat.lt_of_lt_of_le hb hB, fun i hi => (hc i hi).kept (k b hb)⟩
theorem ChsIn.at {w : World} {B : Nat} {l : List Ch} {a : Option Addr} (h : ChsIn w B l a) (k : Nat) (hk : k < l.length) : ∃ b o, a = some ⟨b, o, none⟩ ∧ b < B ∧ ∀ k (h : k < l.length), ChAt w b (o + k * 4) l[k] := by
  rcases h with h | h
  · subst h; simp at hk
  · exact h
end Go.Proofs.YtjlfpjjfldbknaaGreat
