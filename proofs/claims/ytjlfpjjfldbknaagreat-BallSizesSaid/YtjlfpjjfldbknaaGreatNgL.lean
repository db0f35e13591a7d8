/- Graphs: a graph that a call owns. -/
import Derived.Test.YtjlfpjjfldbknaaGreatNgK
import Derived.Test.YtjlfpjjfldbknaaGreatNqA
namespace Go.Proofs.YtjlfpjjfldbknaaGreat
open Go.RowKit Go.Lib Go.Fq Go.Iq Go.Nq Go.Ow
set_option linter.unusedVariables false
set_option linter.unusedSimpArgs false
set_option maxRecDepth 100000

/-- A graph that a call owns: its struct in block bg, its rows in blocks from 'base' on. -/
structure GrAt (w : World) (base bg : Nat) (vn vl : Value) (G : Gr) : Prop where
  hb : base ≤ bg
  gb : w.heap[bg]? = some (.cells #[vn, vl] 25 (0, 0))
  nodes : Own w base 60 3 vn G.nodes.length (ndRow G.nodes)
  links : Own w base 62 4 vl G.links.length (lkRow G.links)
  wts : ∀ y ∈ G.links, y.w < 2 ^ 64
theorem ndRow_get (l : List Nd) (k : Nat) (hk : k < l.length) : (ndRow l)[k * 3]? = some (.int .i64 l[k].id) ∧ (ndRow l)[k * 3 + 1]? = some (.bool l[k].up) ∧ (ndRow l)[k * 3 + 2]? = some (.bool l[k].mark) := by
  have hd : (ndRow l).drop (k * 3) = ndC l[k] ++ ndRow (l.drop (k + 1)) := by
    rw [← ndRow_drop, List.drop_eq_getElem_cons hk]; rfl
  have h0 : ∀ j, (ndRow l)[k * 3 + j]? = (ndC l[k] ++ ndRow (l.drop (k + 1)))[j]? := fun j => by rw [← hd, List.getElem?_drop]
  exact ⟨(h0 0).trans rfl, (h0 1).trans rfl, (h0 2).trans rfl⟩
theorem lkRow_get (l : List Lk) (k : Nat) (hk : k < l.length) : (lkRow l)[k * 4]? = some (.int .i64 l[k].a) ∧ (lkRow l)[k * 4 + 1]? = some (.int .i64 l[k].b) ∧ (lkRow l)[k * 4 + 2]? = some (.float .f64 l[k].w) ∧ (lkRow l)[k * 4 + 3]? = some (.bool l[k].up) := by
  have hd : (lkRow l).drop (k * 4) = lkC l[k] ++ lkRow (l.drop (k + 1)) := by
    rw [← lkRow_drop, List.drop_eq_getElem_cons hk]; rfl
  have h0 : ∀ j, (lkRow l)[k * 4 + j]? = (lkC l[k] ++ lkRow (l.drop (k + 1)))[j]? := fun j => by rw [← hd, List.getElem?_drop]
  exact ⟨(h0 0).trans rfl, (h0 1).trans rfl, (h0 2).trans rfl, (h0 3).trans rfl⟩
theorem ownN_in {w : World} {base : Nat} {v : Value} {l : List Nd} (h : Own w base 60 3 v l.length (ndRow l)) : ∃ a c, v = .slice a l.length c ∧ NodesIn w w.heap.size l a ∧ (0 < l.length → ∃ g, a = some ⟨g, 0, none⟩ ∧ base ≤ g) := by
  by_cases hn : 0 < l.length
  · obtain ⟨g, cap, rfl, hg, hbg, hr, ht⟩ := h.range hn
    refine ⟨_, cap, rfl, Or.inr ⟨g, 0, rfl, hg, fun k hk => ?_⟩, fun _ => ⟨g, rfl, hbg⟩⟩
    obtain ⟨a0, a1, a2⟩ := ndRow_get l k hk
    exact ⟨by simpa using hr _ _ a0, by simpa [Nat.add_assoc] using hr _ _ a1, by simpa [Nat.add_assoc] using hr _ _ a2⟩
  · obtain ⟨a, c, rfl⟩ := h.slice
    exact ⟨a, c, rfl, Or.inl (List.length_eq_zero_iff.1 (by omega)), fun h0 => absurd h0 hn⟩
theorem ownL_in {w : World} {base : Nat} {v : Value} {l : List Lk} (h : Own w base 62 4 v l.length (lkRow l)) : ∃ a c, v = .slice a l.length c ∧ LinksIn w w.heap.size l a ∧ (0 < l.length → ∃ g, a = some ⟨g, 0, none⟩ ∧ base ≤ g) := by
  by_cases hn : 0 < l.length
  · obtain ⟨g, cap, rfl, hg, hbg, hr, ht⟩ := h.range hn
    refine ⟨_, cap, rfl, Or.inr ⟨g, 0, rfl, hg, fun k hk => ?_⟩, fun _ => ⟨g, rfl, hbg⟩⟩
    obtain ⟨a0, a1, a2, a3⟩ := lkRow_get l k hk
    exact ⟨by simpa using hr _ _ a0, by simpa [Nat.add_assoc] using hr _ _ a1, by simpa [Nat.add_assoc] using hr _ _ a2, by simpa [Nat.add_assoc] using hr _ _ a3⟩
  · obtain ⟨a, c, rfl⟩ := h.slice
    exact ⟨a, c, rfl, Or.inl (List.length_eq_zero_iff.1 (by omega)), fun h0 => absurd h0 hn⟩
theorem GrAt.below {w w' : World} {base bg : Nat} {vn vl : Value} {G : Gr} (h : GrAt w base bg vn vl G) (hb : Below w.heap.size w w') : GrAt w' base bg vn vl G :=
  ⟨h.hb, (hb.block bg (Array.getElem?_eq_some_iff.1 h.gb).1).trans h.gb, h.nodes.below hb, h.links.below hb, h.wts⟩
theorem GrAt.lt {w : World} {base bg : Nat} {vn vl : Value} {G : Gr} (h : GrAt w base bg vn vl G) : bg < w.heap.size := (Array.getElem?_eq_some_iff.1 h.gb).1
theorem GrAt.cells {w : World} {base bg : Nat} {vn vl : Value} {G : Gr} (h : GrAt w base bg vn vl G) : w.cell? ⟨bg, 0, none⟩ = some vn ∧ w.cell? ⟨bg, 1, none⟩ = some vl ∧ w.frozen? ⟨bg, 0, none⟩ = false ∧ w.frozen? ⟨bg, 1, none⟩ = false :=
  ⟨by rw [cell_of_row w bg 0 _ _ (0, 0) h.gb]; rfl, by rw [cell_of_row w bg 1 _ _ (0, 0) h.gb]; rfl, frozen_of_row w bg 0 _ _ h.gb, frozen_of_row w bg 1 _ _ h.gb⟩
theorem heap_ne {w : World} {i j : Nat} {c d : Array Value} {s t : TypeId} {f g : Nat × Nat} (hi : w.heap[i]? = some (.cells c s f)) (hj : w.heap[j]? = some (.cells d t g)) (hst : s ≠ t) : i ≠ j := fun e => by subst e; rw [hi] at hj; cases hj; exact hst rfl
/-- The graph's routers are laid anew. -/
theorem GrAt.putN {w w' : World} {base bg : Nat} {vn vl v' : Value} {G : Gr} {l' : List Nd} (h : GrAt w base bg vn vl G) (hw : Wr base 60 w w') (ho : Own w' base 60 3 v' l'.length (ndRow l')) :
    GrAt (w'.setCell ⟨bg, 0, none⟩ v') base bg v' vl { G with nodes := l' } := by
  have hg := hw.kept h.gb (by decide)
  have hk : ∀ (t : TypeId) (j : Nat) (cur : Array Value), t ≠ 25 → w'.heap[j]? = some (Obj.cells cur t (0, 0)) → (w'.setCell ⟨bg, 0, none⟩ v').heap[j]? = w'.heap[j]? := fun t j cur ht hj => Below.heap_setCell _ _ _ _ (heap_ne hj hg ht)
  refine ⟨h.hb, by simpa using heap_setCell_same w' bg 0 _ _ v' hg, ho.keep (fun j cur hj => hk _ j cur (by decide) hj), (h.links.wr hw (by decide)).keep (fun j cur hj => hk _ j cur (by decide) hj), h.wts⟩
theorem GrAt.putL {w w' : World} {base bg : Nat} {vn vl v' : Value} {G : Gr} {l' : List Lk} (h : GrAt w base bg vn vl G) (hw : Wr base 62 w w') (ho : Own w' base 62 4 v' l'.length (lkRow l')) (hl : ∀ y ∈ l', y.w < 2 ^ 64) :
    GrAt (w'.setCell ⟨bg, 1, none⟩ v') base bg vn v' { G with links := l' } := by
  have hg := hw.kept h.gb (by decide)
  have hk : ∀ (t : TypeId) (j : Nat) (cur : Array Value), t ≠ 25 → w'.heap[j]? = some (Obj.cells cur t (0, 0)) → (w'.setCell ⟨bg, 1, none⟩ v').heap[j]? = w'.heap[j]? := fun t j cur ht hj => Below.heap_setCell _ _ _ _ (heap_ne hj hg ht)
  refine ⟨h.hb, by simpa using heap_setCell_same w' bg 1 _ _ v' hg, (h.nodes.wr hw (by decide)).keep (fun j cur hj => hk _ j cur (by decide) hj), ho.keep (fun j cur hj => hk _ j cur (by decide) hj), hl⟩
/-- One cell of an own row is set. -/
theorem own_set {w : World} {base : Nat} {e : TypeId} {k n cap g j : Nat} {xs : List Value} (h : Own w base e k (.slice (some ⟨g, 0, none⟩) n cap) n xs) (hn : 0 < n) (u : Value) :
    Own (w.setCell ⟨g, j, none⟩ u) base e k (.slice (some ⟨g, 0, none⟩) n cap) n (xs.set j u) ∧ Wr base e w (w.setCell ⟨g, j, none⟩ u) ∧ ∃ cur, w.heap[g]? = some (.cells cur e (0, 0)) := by
  rcases h with ⟨rfl, _⟩ | ⟨g', cap', cur, hv, hb, hg, hc, hm, hs, rfl⟩
  · omega
  · simp only [Value.slice.injEq, Option.some.injEq, Addr.mk.injEq, and_true, true_and] at hv
    obtain ⟨rfl, rfl⟩ := hv
    refine ⟨Or.inr ⟨g, cap, cur.setIfInBounds j u, rfl, hb, heap_setCell_same w g j cur e u hg, hc, hm, by simpa using hs, ?_⟩, ⟨rfl, rfl, rfl, by simp [World.setCell], fun i hi hne => ?_⟩, cur, hg⟩
    · rw [Array.toList_setIfInBounds, List.take_set]
    · exact Below.heap_setCell _ _ _ _ (fun e2 => by have e3 : i = g := e2; subst e3; have := hne cur (0, 0) hg; omega)
end Go.Proofs.YtjlfpjjfldbknaaGreat
