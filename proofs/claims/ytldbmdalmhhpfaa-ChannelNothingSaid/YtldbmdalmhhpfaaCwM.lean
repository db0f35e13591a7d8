/- Channel: a []Act that is handed in. -/
import Derived.Test.YtldbmdalmhhpfaaCwB
import Derived.Test.YtldbmdalmhhpfaaNqP
namespace Go.Proofs.Ytldbmdalmhhpfaa
open Go.RowKit Go.Lib Go.Ow Go.Cw Go.Cq
set_option linter.unusedVariables false
set_option linter.unusedSimpArgs false
set_option maxRecDepth 100000

/-- One thing that is done. -/
structure Ac where
  put : Bool
  g : Gm
  kd : Int
  i : Int
  k : Int
def AcAt (w : World) (b o : Nat) (a : Ac) : Prop := w.cell? ⟨b, o, none⟩ = some (.bool a.put) ∧ w.cell? ⟨b, o + 1, none⟩ = some (.int .i64 a.g.fr) ∧ w.cell? ⟨b, o + 2, none⟩ = some (.int .i64 a.g.to) ∧ w.cell? ⟨b, o + 3, none⟩ = some (.string a.g.bs) ∧ w.cell? ⟨b, o + 4, none⟩ = some (.int .i64 a.g.wt) ∧ w.cell? ⟨b, o + 5, none⟩ = some (.int .i64 a.kd) ∧ w.cell? ⟨b, o + 6, none⟩ = some (.int .i64 a.i) ∧ w.cell? ⟨b, o + 7, none⟩ = some (.int .i64 a.k)
/-- A []Act in memory. -/
def ActsIn (w : World) (l : List Ac) (a : Option Addr) : Prop := l = [] ∨ ∃ b o, a = some ⟨b, o, none⟩ ∧ b < w.heap.size ∧ ∀ i (hi : i < l.length), AcAt w b (o + i * 8) l[i]
theorem ActsIn.keep {w w' : World} {l : List Ac} {a : Option Addr} {B : Nat} (h : ActsIn w l a) (hB : B = w.heap.size) (k : Below B w w') : ActsIn w' l a := by
  subst hB
  rcases h with h | ⟨b, o, rfl, hb, hc⟩
  · exact Or.inl h
  · refine Or.inr ⟨b, o, rfl, Nat.lt_of_lt_of_le hb k.size, fun i hi => ?_⟩
    have e := fun q => World.cell?_of_block (a := ⟨b, q, none⟩) (k.block b hb)
    obtain ⟨a0, a1, a2, a3, a4, a5, a6, a7⟩ := hc i hi
    exact ⟨(e _).trans a0, (e _).trans a1, (e _).trans a2, (e _).trans a3, (e _).trans a4, (e _).trans a5, (e _).trans a6, (e _).trans a7⟩
theorem stGram : Go.Np.St Try.prog 35 [(3, 0), (3, 1), (9, 2), (3, 3)] := ⟨_, Try.underlying35, by kernel_rfl⟩
theorem stFate : Go.Np.St Try.prog 37 [(3, 0), (3, 1), (3, 2)] := ⟨_, Try.underlying37, by kernel_rfl⟩
theorem stAct : Go.Np.St Try.prog 39 [(4, 0), (35, 1), (37, 5)] := ⟨_, Try.underlying39, by kernel_rfl⟩
theorem gcInt : Try.prog.cellsOf 3 = 1 := by kernel_rfl
theorem gcBool : Try.prog.cellsOf 4 = 1 := by kernel_rfl
theorem gcStr : Try.prog.cellsOf 9 = 1 := by kernel_rfl
theorem gcGram : Try.prog.cellsOf 35 = 4 := by kernel_rfl
theorem gcFate : Try.prog.cellsOf 37 = 3 := by kernel_rfl
theorem gcAct : Try.prog.cellsOf 39 = 8 := by kernel_rfl
theorem gbAct : Try.prog.bytesOf 39 = 72 := by kernel_rfl
section
variable {H : Type} {enc : TypeId × Value → H} {w : World} {spare : Nat → Bool} {held : Bool}
theorem gin_int {n : Nat} {v : Value} {x : DataW H × List MemPlace} (h : DataW.trod enc Try.prog w 0 spare held n 3 [v] = some x) : ∃ z : Int, v = .int .i64 z ∧ -9223372036854775808 ≤ z ∧ z ≤ 9223372036854775807 := by
  obtain ⟨u, hu, -, wu⟩ := DataW.trod_int Try.underlying3 h
  simp only [List.cons.injEq, and_true] at hu
  have := bounds_i64 wu
  exact ⟨u, hu, this⟩
theorem gin_bool {n : Nat} {v : Value} {x : DataW H × List MemPlace} (h : DataW.trod enc Try.prog w 0 spare held n 4 [v] = some x) : ∃ z : Bool, v = .bool z := by
  obtain ⟨u, hu, -⟩ := DataW.trod_bool Try.underlying4 h
  simp only [List.cons.injEq, and_true] at hu
  exact ⟨u, hu⟩
theorem gin_str {n : Nat} {v : Value} {x : DataW H × List MemPlace} (h : DataW.trod enc Try.prog w 0 spare held n 9 [v] = some x) : ∃ z : ByteArray, v = .string z ∧ z.size ≤ maxLen := by
  obtain ⟨u, hu, -, wu⟩ := DataW.trod_string Try.underlying9 h
  simp only [List.cons.injEq, and_true] at hu
  exact ⟨u, hu, wu⟩
/-- What a datagram that is handed in is. -/
def GmOk (g : Gm) : Prop := (-9223372036854775808 ≤ g.fr ∧ g.fr ≤ 9223372036854775807) ∧ (-9223372036854775808 ≤ g.to ∧ g.to ≤ 9223372036854775807) ∧ (-9223372036854775808 ≤ g.wt ∧ g.wt ≤ 9223372036854775807) ∧ g.bs.size ≤ maxLen
theorem gin_gram {n : Nat} {cs : List Value} {x : DataW H × List MemPlace} (h : DataW.trod enc Try.prog w 0 spare held n 35 cs = some x) : ∃ g : Gm, cs = gmC g ∧ GmOk g := by
  obtain ⟨d, p⟩ := x
  obtain ⟨xs, m, -, -, hcl, hxl, hat, -⟩ := stGram.opens h
  rw [gcGram] at hcl
  match cs, hcl, xs, hxl with
  | [v0, v1, v2, v3], _, [x0, x1, x2, x3], _ =>
    have e0 := hat 0 (by simp)
    have e1 := hat 1 (by simp)
    have e2 := hat 2 (by simp)
    have e3 := hat 3 (by simp)
    simp [gcInt, gcStr] at e0 e1 e2 e3
    obtain ⟨a0, rfl, p0⟩ := gin_int e0
    obtain ⟨a1, rfl, p1⟩ := gin_int e1
    obtain ⟨a2, rfl, p2⟩ := gin_str e2
    obtain ⟨a3, rfl, p3⟩ := gin_int e3
    exact ⟨⟨a0, a1, a2, a3⟩, rfl, p0, p1, p3, p2⟩
theorem gin_fate {n : Nat} {cs : List Value} {x : DataW H × List MemPlace} (h : DataW.trod enc Try.prog w 0 spare held n 37 cs = some x) : ∃ a b c : Int, cs = [.int .i64 a, .int .i64 b, .int .i64 c] ∧ (-9223372036854775808 ≤ b ∧ b ≤ 9223372036854775807) ∧ (-9223372036854775808 ≤ c ∧ c ≤ 9223372036854775807) := by
  obtain ⟨d, p⟩ := x
  obtain ⟨xs, m, -, -, hcl, hxl, hat, -⟩ := stFate.opens h
  rw [gcFate] at hcl
  match cs, hcl, xs, hxl with
  | [v0, v1, v2], _, [x0, x1, x2], _ =>
    have e0 := hat 0 (by simp)
    have e1 := hat 1 (by simp)
    have e2 := hat 2 (by simp)
    simp [gcInt] at e0 e1 e2
    obtain ⟨a0, rfl, p0⟩ := gin_int e0
    obtain ⟨a1, rfl, p1⟩ := gin_int e1
    obtain ⟨a2, rfl, p2⟩ := gin_int e2
    exact ⟨a0, a1, a2, rfl, p1, p2⟩
def AcOk (a : Ac) : Prop := GmOk a.g ∧ (-9223372036854775808 ≤ a.i ∧ a.i ≤ 9223372036854775807) ∧ (-9223372036854775808 ≤ a.k ∧ a.k ≤ 9223372036854775807)
theorem gin_act {n : Nat} {cs : List Value} {x : DataW H × List MemPlace} (h : DataW.trod enc Try.prog w 0 spare held n 39 cs = some x) : ∃ a : Ac, cs = [.bool a.put] ++ gmC a.g ++ [.int .i64 a.kd, .int .i64 a.i, .int .i64 a.k] ∧ AcOk a := by
  obtain ⟨d, p⟩ := x
  obtain ⟨xs, m, -, -, hcl, hxl, hat, -⟩ := stAct.opens h
  rw [gcAct] at hcl
  match cs, hcl, xs, hxl with
  | [v0, v1, v2, v3, v4, v5, v6, v7], _, [x0, x1, x2], _ =>
    have e0 := hat 0 (by simp)
    have e1 := hat 1 (by simp)
    have e2 := hat 2 (by simp)
    simp [gcBool, gcGram, gcFate] at e0 e1 e2
    obtain ⟨a0, rfl⟩ := gin_bool e0
    obtain ⟨g, hg, pg⟩ := gin_gram e1
    obtain ⟨a5, a6, a7, hf, p5, p6⟩ := gin_fate e2
    obtain ⟨ga, gb, gs, gt⟩ := g
    simp only [gmC, List.cons.injEq, and_true] at hg hf
    obtain ⟨rfl, rfl, rfl, rfl⟩ := hg
    obtain ⟨rfl, rfl, rfl⟩ := hf
    exact ⟨⟨a0, ⟨ga, gb, gs, gt⟩, a5, a6, a7⟩, rfl, pg, p5, p6⟩
/-- What a []Act that is handed in is. -/
structure ActsOk (w : World) (l : List Ac) (a : Option Addr) : Prop where
  rows : ActsIn w l a
  ok : ∀ x ∈ l, AcOk x
  n1 : l.length * 72 ≤ 140737488351232
theorem gin_acts {n : Nat} {a : Option Addr} {k c : Nat} {x : DataW H × List MemPlace} (h : DataW.trod enc Try.prog w 0 spare held n 23 [.slice a k c] = some x) (hw : ∀ z ∈ x.1.weights Try.prog 23, z ≤ reachBytes) :
    ∃ l : List Ac, k = l.length ∧ ActsOk w l a := by
  have hR : reachBytes = 140737488351232 := rfl
  rcases Go.Np.open_slice (k := 8) Try.underlying23 gcAct (by omega) h with h0 | ⟨m, b, o, el, sp, rfl, rfl, hb, he, hel, hel2⟩
  · exact ⟨[], by simpa using h0, Or.inl rfl, by simp, by simp⟩
  · rw [he] at hw
    obtain ⟨hq, hq2⟩ := Go.Np.weights_elem Try.underlying23 hw
    rw [gbAct] at hq
    obtain ⟨l, hl, hl2⟩ := Go.Np.list_of (Q := fun i (y : Ac) => AcAt w b (o + i * 8) y ∧ AcOk y) el.length (fun i hi => by
      obtain ⟨cs, ps', hcl, hcc, htr⟩ := hel2 i hi
      obtain ⟨y, hy, hok⟩ := gin_act htr
      have g := fun j (hj : j < cs.length) => hcc j hj
      subst hy
      exact ⟨y, ⟨g 0 (by simp [gmC]), g 1 (by simp [gmC]), g 2 (by simp [gmC]), g 3 (by simp [gmC]), g 4 (by simp [gmC]), g 5 (by simp [gmC]), g 6 (by simp [gmC]), g 7 (by simp [gmC])⟩, hok⟩)
    refine ⟨l, by omega, Or.inr ⟨b, o, rfl, hb, fun i hi => (hl2 i hi).1⟩, fun y hy => ?_, by have := Nat.mul_le_mul_right 72 (Nat.le_add_right el.length sp.length); omega⟩
    obtain ⟨i, hi, rfl⟩ := List.getElem_of_mem hy
    exact (hl2 i hi).2
end
end Go.Proofs.Ytldbmdalmhhpfaa
