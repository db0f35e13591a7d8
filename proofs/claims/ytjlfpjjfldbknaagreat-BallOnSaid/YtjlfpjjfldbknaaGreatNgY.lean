/- Graphs that come in: what a graph argument holds. -/
import Derived.Test.YtjlfpjjfldbknaaGreatNgT0
import Derived.Test.YtjlfpjjfldbknaaGreatNqP
import Derived.SizedLaws
import Derived.OpenShut
namespace Go.Proofs.YtjlfpjjfldbknaaGreat
open Go.RowKit Go.Lib Go.Fq Go.Iq Go.Nq Go.Ow Go.ChangeShapes Go.WideShapes
set_option linter.unusedVariables false
set_option linter.unusedSimpArgs false
set_option maxRecDepth 100000

theorem stNode : Go.Np.St Tryz.prog 60 [(3, 0), (4, 1), (4, 2)] := ⟨_, Tryz.underlying60, by kernel_rfl⟩
theorem stLink : Go.Np.St Tryz.prog 62 [(3, 0), (3, 1), (26, 2), (4, 3)] := ⟨_, Tryz.underlying62, by kernel_rfl⟩
theorem stGraph : Go.Np.St Tryz.prog 25 [(22, 0), (23, 1)] := ⟨_, Tryz.underlying25, by kernel_rfl⟩
theorem gcInt : Tryz.prog.cellsOf 3 = 1 := by kernel_rfl
theorem gcBool : Tryz.prog.cellsOf 4 = 1 := by kernel_rfl
theorem gcF64 : Tryz.prog.cellsOf 26 = 1 := by kernel_rfl
theorem gcNdS : Tryz.prog.cellsOf 22 = 1 := by kernel_rfl
theorem gcLkS : Tryz.prog.cellsOf 23 = 1 := by kernel_rfl
theorem gcNd : Tryz.prog.cellsOf 60 = 3 := by kernel_rfl
theorem gcLk : Tryz.prog.cellsOf 62 = 4 := by kernel_rfl
theorem gcGr : Tryz.prog.cellsOf 25 = 2 := by kernel_rfl
theorem gbNd : Tryz.prog.bytesOf 60 = 16 := by kernel_rfl
theorem gbLk : Tryz.prog.bytesOf 62 = 32 := by kernel_rfl
section
variable {H : Type} {enc : TypeId × Value → H} {w : World} {spare : Nat → Bool} {held : Bool}
theorem gin_int {n : Nat} {v : Value} {x : DataW H × List MemPlace} (h : DataW.trod enc Tryz.prog w 0 spare held n 3 [v] = some x) : ∃ z : Int, v = .int .i64 z ∧ -9223372036854775808 ≤ z ∧ z ≤ 9223372036854775807 := by
  obtain ⟨u, hu, -, wu⟩ := DataW.trod_int Tryz.underlying3 h
  simp only [List.cons.injEq, and_true] at hu
  have := bounds_i64 wu
  exact ⟨u, hu, this⟩
theorem gin_bool {n : Nat} {v : Value} {x : DataW H × List MemPlace} (h : DataW.trod enc Tryz.prog w 0 spare held n 4 [v] = some x) : ∃ z : Bool, v = .bool z := by
  obtain ⟨u, hu, -⟩ := DataW.trod_bool Tryz.underlying4 h
  simp only [List.cons.injEq, and_true] at hu
  exact ⟨u, hu⟩
theorem gin_f64 {n : Nat} {v : Value} {x : DataW H × List MemPlace} (h : DataW.trod enc Tryz.prog w 0 spare held n 26 [v] = some x) : ∃ z : Nat, v = .float .f64 z ∧ z < 2 ^ 64 := by
  obtain ⟨u, hu, -, wu⟩ := Go.Np.trod_float Tryz.underlying26 h
  simp only [List.cons.injEq, and_true] at hu
  exact ⟨u, hu, of_decide_eq_true wu⟩
theorem gin_slice {n t e : Nat} {v : Value} {x : DataW H × List MemPlace} (ht : Tryz.prog.underlying t = some (.slice e)) (h : DataW.trod enc Tryz.prog w 0 spare held n t [v] = some x) : ∃ (a : Option Addr) (k c : Nat), v = .slice a k c := by
  rcases DataW.trod_slice ht h with ⟨h1, -⟩ | ⟨x0', len, cap, elems, rest, m', -, h1, -⟩
  · simp at h1; exact ⟨_, _, _, h1⟩
  · simp at h1; exact ⟨_, _, _, h1⟩
theorem gin_node {n : Nat} {cs : List Value} {d : DataW H} {q : List MemPlace} (h : DataW.trod enc Tryz.prog w 0 spare held n 60 cs = some (d, q)) : ∃ nd : Nd, cs = [.int .i64 nd.id, .bool nd.up, .bool nd.mark] := by
  obtain ⟨xs, m, -, -, hcl, hxl, hat, -⟩ := stNode.opens h
  rw [gcNd] at hcl
  match cs, hcl, xs, hxl with
  | [v0, v1, v2], _, [x0, x1, x2], _ =>
    have e0 := hat 0 (by simp)
    have e1 := hat 1 (by simp)
    have e2 := hat 2 (by simp)
    simp [gcInt, gcBool] at e0 e1 e2
    obtain ⟨a0, rfl, -⟩ := gin_int e0
    obtain ⟨a1, rfl⟩ := gin_bool e1
    obtain ⟨a2, rfl⟩ := gin_bool e2
    exact ⟨⟨a0, a1, a2⟩, rfl⟩
theorem gin_link {n : Nat} {cs : List Value} {d : DataW H} {q : List MemPlace} (h : DataW.trod enc Tryz.prog w 0 spare held n 62 cs = some (d, q)) : ∃ y : Lk, cs = [.int .i64 y.a, .int .i64 y.b, .float .f64 y.w, .bool y.up] ∧ y.w < 2 ^ 64 := by
  obtain ⟨xs, m, -, -, hcl, hxl, hat, -⟩ := stLink.opens h
  rw [gcLk] at hcl
  match cs, hcl, xs, hxl with
  | [v0, v1, v2, v3], _, [x0, x1, x2, x3], _ =>
    have e0 := hat 0 (by simp)
    have e1 := hat 1 (by simp)
    have e2 := hat 2 (by simp)
    have e3 := hat 3 (by simp)
    simp [gcInt, gcBool, gcF64] at e0 e1 e2 e3
    obtain ⟨a0, rfl, -⟩ := gin_int e0
    obtain ⟨a1, rfl, -⟩ := gin_int e1
    obtain ⟨a2, rfl, p2⟩ := gin_f64 e2
    obtain ⟨a3, rfl⟩ := gin_bool e3
    exact ⟨⟨a0, a1, a2, a3⟩, rfl, p2⟩
theorem gin_nodes {n : Nat} {a : Option Addr} {k c : Nat} {x : DataW H × List MemPlace} (h : DataW.trod enc Tryz.prog w 0 spare held n 22 [.slice a k c] = some x) (hw : ∀ z ∈ x.1.weights Tryz.prog 22, z ≤ reachBytes) :
    ∃ l : List Nd, k = l.length ∧ NodesIn w w.heap.size l a ∧ l.length * 16 ≤ reachBytes := by
  rcases Go.Np.open_slice (k := 3) Tryz.underlying22 gcNd (by omega) h with h0 | ⟨m, b, o, el, sp, rfl, rfl, hb, he, hel, hel2⟩
  · exact ⟨[], by simpa using h0, Or.inl rfl, by simp⟩
  · rw [he] at hw
    obtain ⟨hq, hq2⟩ := Go.Np.weights_elem Tryz.underlying22 hw
    rw [gbNd] at hq
    obtain ⟨l, hl, hl2⟩ := Go.Np.list_of (Q := fun i (y : Nd) => NdAt w b (o + i * 3) y) el.length (fun i hi => by
      obtain ⟨cs, ps', hcl, hcc, htr⟩ := hel2 i hi
      obtain ⟨nd, rfl⟩ := gin_node htr
      have g := fun j hj => hcc j hj
      exact ⟨nd, g 0 (by simp), g 1 (by simp), g 2 (by simp)⟩)
    exact ⟨l, by omega, Or.inr ⟨b, o, rfl, hb, fun i hi => hl2 i hi⟩, by have := Nat.mul_le_mul_right 16 (Nat.le_add_right el.length sp.length); omega⟩
theorem gin_links {n : Nat} {a : Option Addr} {k c : Nat} {x : DataW H × List MemPlace} (h : DataW.trod enc Tryz.prog w 0 spare held n 23 [.slice a k c] = some x) (hw : ∀ z ∈ x.1.weights Tryz.prog 23, z ≤ reachBytes) :
    ∃ l : List Lk, k = l.length ∧ LinksIn w w.heap.size l a ∧ (∀ y ∈ l, y.w < 2 ^ 64) ∧ l.length * 32 ≤ reachBytes := by
  rcases Go.Np.open_slice (k := 4) Tryz.underlying23 gcLk (by omega) h with h0 | ⟨m, b, o, el, sp, rfl, rfl, hb, he, hel, hel2⟩
  · exact ⟨[], by simpa using h0, Or.inl rfl, by simp, by simp⟩
  · rw [he] at hw
    obtain ⟨hq, hq2⟩ := Go.Np.weights_elem Tryz.underlying23 hw
    rw [gbLk] at hq
    obtain ⟨l, hl, hl2⟩ := Go.Np.list_of (Q := fun i (y : Lk) => LkAt w b (o + i * 4) y ∧ y.w < 2 ^ 64) el.length (fun i hi => by
      obtain ⟨cs, ps', hcl, hcc, htr⟩ := hel2 i hi
      obtain ⟨nd, rfl, hf⟩ := gin_link htr
      have g := fun j hj => hcc j hj
      exact ⟨nd, ⟨g 0 (by simp), g 1 (by simp), g 2 (by simp), g 3 (by simp)⟩, hf⟩)
    refine ⟨l, by omega, Or.inr ⟨b, o, rfl, hb, fun i hi => (hl2 i hi).1⟩, fun y hy => ?_, by have := Nat.mul_le_mul_right 32 (Nat.le_add_right el.length sp.length); omega⟩
    obtain ⟨i, hi, rfl⟩ := List.getElem_of_mem hy
    exact (hl2 i hi).2
/-- What a graph argument is: rows that lie in memory, no greater than a machine may hold. -/
structure GrIn (w : World) (G : Gr) (na la : Option Addr) : Prop where
  nodes : NodesIn w w.heap.size G.nodes na
  links : LinksIn w w.heap.size G.links la
  wts : ∀ y ∈ G.links, y.w < 2 ^ 64
  n1 : G.nodes.length * 16 ≤ 140737488351232
  l1 : G.links.length * 32 ≤ 140737488351232
theorem GrIn.below {w w' : World} {G : Gr} {na la : Option Addr} (h : GrIn w G na la) (hb : Below w.heap.size w w') : GrIn w' G na la :=
  ⟨h.nodes.kept (fun i hi => hb.block i hi) hb.size, h.links.kept (fun i hi => hb.block i hi) hb.size, h.wts, h.n1, h.l1⟩
theorem gin_graph {n : Nat} {cs : List Value} {d : DataW H} {q : List MemPlace} (h : DataW.trod enc Tryz.prog w 0 spare held n 25 cs = some (d, q)) (hw : ∀ z ∈ d.weights Tryz.prog 25, z ≤ reachBytes) :
    ∃ (G : Gr) (na : Option Addr) (nc : Nat) (la : Option Addr) (lc : Nat), cs = [.slice na G.nodes.length nc, .slice la G.links.length lc] ∧ GrIn w G na la := by
  obtain ⟨xs, m, -, -, hcl, hxl, hat, hwt⟩ := stGraph.opens h
  have hR : reachBytes = 140737488351232 := rfl
  rw [gcGr] at hcl
  match cs, hcl, xs, hxl with
  | [v0, v1], _, [x0, x1], _ =>
    have e0 := hat 0 (by simp)
    have e1 := hat 1 (by simp)
    simp [gcNdS, gcLkS] at e0 e1
    have w0 := hwt _ hw 0 (by simp) x0 rfl
    have w1 := hwt _ hw 1 (by simp) x1 rfl
    obtain ⟨na, k0, nc, rfl⟩ := gin_slice Tryz.underlying22 e0
    obtain ⟨la, k1, lc, rfl⟩ := gin_slice Tryz.underlying23 e1
    obtain ⟨ln, rfl, hn, hns⟩ := gin_nodes e0 w0
    obtain ⟨ll, rfl, hl, hlw, hls⟩ := gin_links e1 w1
    exact ⟨⟨ln, ll⟩, na, nc, la, lc, rfl, hn, hl, hlw, by rw [← hR]; exact hns, by rw [← hR]; exact hls⟩
end
end Go.Proofs.YtjlfpjjfldbknaaGreat
