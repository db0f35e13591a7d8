/- Sessions: what the laws' arguments are. -/
import Derived.Test.YtippekflhlmgiaaSwA
import Derived.Test.YtippekflhlmgiaaNqP
import Derived.Test.YtippekflhlmgiaaFqS
namespace Go.Proofs.Ytippekflhlmgiaa
open Go.RowKit Go.Lib Go.Sq
set_option linter.unusedVariables false
set_option linter.unusedSimpArgs false
set_option maxRecDepth 100000

theorem gc_int : Try.prog.cellsOf 3 = 1 := by kernel_rfl
theorem gc_u64 : Try.prog.cellsOf 25 = 1 := by kernel_rfl
theorem gc_bool : Try.prog.cellsOf 4 = 1 := by kernel_rfl
theorem gc_f64 : Try.prog.cellsOf 22 = 1 := by kernel_rfl
section
variable {H : Type} {enc : TypeId × Value → H} {w : World} {spare : Nat → Bool} {held : Bool}
theorem gin_int {n : Nat} {v : Value} {x : DataW H × List MemPlace} (h : DataW.trod enc Try.prog w 0 spare held n 3 [v] = some x) : ∃ z : Int, v = .int .i64 z ∧ -9223372036854775808 ≤ z ∧ z ≤ 9223372036854775807 := by
  obtain ⟨u, hu, -, wu⟩ := DataW.trod_int Try.underlying3 h
  simp only [List.cons.injEq, and_true] at hu
  have := bounds_i64 wu
  exact ⟨u, hu, this⟩
theorem gin_u64 {n : Nat} {v : Value} {x : DataW H × List MemPlace} (h : DataW.trod enc Try.prog w 0 spare held n 25 [v] = some x) : ∃ z : Int, v = .int .u64 z ∧ 0 ≤ z ∧ z ≤ 18446744073709551615 := by
  obtain ⟨u, hu, -, wu⟩ := DataW.trod_int Try.underlying25 h
  simp only [List.cons.injEq, and_true] at hu
  have := bounds_u64 wu
  exact ⟨u, hu, by omega, by omega⟩
theorem gin_bool {n : Nat} {v : Value} {x : DataW H × List MemPlace} (h : DataW.trod enc Try.prog w 0 spare held n 4 [v] = some x) : ∃ z : Bool, v = .bool z := by
  obtain ⟨u, hu, -⟩ := DataW.trod_bool Try.underlying4 h
  simp only [List.cons.injEq, and_true] at hu
  exact ⟨u, hu⟩
theorem gin_f64 {n : Nat} {v : Value} {x : DataW H × List MemPlace} (h : DataW.trod enc Try.prog w 0 spare held n 22 [v] = some x) : ∃ z : Nat, v = .float .f64 z ∧ z < 2 ^ 64 := by
  obtain ⟨u, hu, wu⟩ := Go.Fq.trod_float Try.underlying22 h
  simp only [List.cons.injEq, and_true] at hu
  exact ⟨u, hu, by simpa [Lit.wf] using wu⟩
end
theorem st_sess : Go.Np.St Try.prog 28 [(25, 0), (25, 1), (4, 2), (3, 3)] := ⟨_, Try.underlying28, by kernel_rfl⟩
theorem gc_sess : Try.prog.cellsOf 28 = 4 := by kernel_rfl
theorem gin_sess {H : Type} {enc : TypeId × Value → H} {w : World} {spare : Nat → Bool} {held : Bool} {n : Nat} {cs : List Value} {x : DataW H × List MemPlace} (h : DataW.trod enc Try.prog w 0 spare held n 28 cs = some x) : ∃ (m : Int) (p : Int) (u : Bool) (s : Int), cs = [.int .u64 m, .int .u64 p, .bool u, .int .i64 s] ∧ (0 ≤ m ∧ m ≤ 18446744073709551615) ∧ (0 ≤ p ∧ p ≤ 18446744073709551615) ∧ True ∧ (-9223372036854775808 ≤ s ∧ s ≤ 9223372036854775807) := by
  obtain ⟨d, p⟩ := x
  obtain ⟨xs, m, -, -, hcl, hxl, hat, -⟩ := st_sess.opens h
  rw [gc_sess] at hcl
  match cs, hcl, xs, hxl with
  | [v0, v1, v2, v3], _, [x0, x1, x2, x3], _ =>
    have e0 := hat 0 (by simp)
    have e1 := hat 1 (by simp)
    have e2 := hat 2 (by simp)
    have e3 := hat 3 (by simp)
    simp [gc_u64, gc_bool, gc_int] at e0 e1 e2 e3
    obtain ⟨a0, rfl, p0⟩ := gin_u64 e0
    obtain ⟨a1, rfl, p1⟩ := gin_u64 e1
    obtain ⟨a2, rfl⟩ := gin_bool e2
    obtain ⟨a3, rfl, p3⟩ := gin_int e3
    exact ⟨a0, a1, a2, a3, rfl, p0, p1, trivial, p3⟩
theorem st_conf : Go.Np.St Try.prog 24 [(22, 0), (3, 1), (3, 2), (3, 3), (3, 4), (3, 5), (3, 6)] := ⟨_, Try.underlying24, by kernel_rfl⟩
theorem gc_conf : Try.prog.cellsOf 24 = 7 := by kernel_rfl
theorem gin_conf {H : Type} {enc : TypeId × Value → H} {w : World} {spare : Nat → Bool} {held : Bool} {n : Nat} {cs : List Value} {x : DataW H × List MemPlace} (h : DataW.trod enc Try.prog w 0 spare held n 24 cs = some x) : ∃ (f : Nat) (t : Int) (n : Int) (h : Int) (r : Int) (d : Int) (q : Int), cs = [.float .f64 f, .int .i64 t, .int .i64 n, .int .i64 h, .int .i64 r, .int .i64 d, .int .i64 q] ∧ f < 2 ^ 64 ∧ (-9223372036854775808 ≤ t ∧ t ≤ 9223372036854775807) ∧ (-9223372036854775808 ≤ n ∧ n ≤ 9223372036854775807) ∧ (-9223372036854775808 ≤ h ∧ h ≤ 9223372036854775807) ∧ (-9223372036854775808 ≤ r ∧ r ≤ 9223372036854775807) ∧ (-9223372036854775808 ≤ d ∧ d ≤ 9223372036854775807) ∧ (-9223372036854775808 ≤ q ∧ q ≤ 9223372036854775807) := by
  obtain ⟨d, p⟩ := x
  obtain ⟨xs, m, -, -, hcl, hxl, hat, -⟩ := st_conf.opens h
  rw [gc_conf] at hcl
  match cs, hcl, xs, hxl with
  | [v0, v1, v2, v3, v4, v5, v6], _, [x0, x1, x2, x3, x4, x5, x6], _ =>
    have e0 := hat 0 (by simp)
    have e1 := hat 1 (by simp)
    have e2 := hat 2 (by simp)
    have e3 := hat 3 (by simp)
    have e4 := hat 4 (by simp)
    have e5 := hat 5 (by simp)
    have e6 := hat 6 (by simp)
    simp [gc_f64, gc_int] at e0 e1 e2 e3 e4 e5 e6
    obtain ⟨a0, rfl, p0⟩ := gin_f64 e0
    obtain ⟨a1, rfl, p1⟩ := gin_int e1
    obtain ⟨a2, rfl, p2⟩ := gin_int e2
    obtain ⟨a3, rfl, p3⟩ := gin_int e3
    obtain ⟨a4, rfl, p4⟩ := gin_int e4
    obtain ⟨a5, rfl, p5⟩ := gin_int e5
    obtain ⟨a6, rfl, p6⟩ := gin_int e6
    exact ⟨a0, a1, a2, a3, a4, a5, a6, rfl, p0, p1, p2, p3, p4, p5, p6⟩
theorem st_call : Go.Np.St Try.prog 39 [(3, 0), (25, 1), (25, 2), (3, 3)] := ⟨_, Try.underlying39, by kernel_rfl⟩
theorem gc_call : Try.prog.cellsOf 39 = 4 := by kernel_rfl
theorem gin_call {H : Type} {enc : TypeId × Value → H} {w : World} {spare : Nat → Bool} {held : Bool} {n : Nat} {cs : List Value} {x : DataW H × List MemPlace} (h : DataW.trod enc Try.prog w 0 spare held n 39 cs = some x) : ∃ (kd : Int) (n : Int) (e : Int) (life : Int), cs = [.int .i64 kd, .int .u64 n, .int .u64 e, .int .i64 life] ∧ (-9223372036854775808 ≤ kd ∧ kd ≤ 9223372036854775807) ∧ (0 ≤ n ∧ n ≤ 18446744073709551615) ∧ (0 ≤ e ∧ e ≤ 18446744073709551615) ∧ (-9223372036854775808 ≤ life ∧ life ≤ 9223372036854775807) := by
  obtain ⟨d, p⟩ := x
  obtain ⟨xs, m, -, -, hcl, hxl, hat, -⟩ := st_call.opens h
  rw [gc_call] at hcl
  match cs, hcl, xs, hxl with
  | [v0, v1, v2, v3], _, [x0, x1, x2, x3], _ =>
    have e0 := hat 0 (by simp)
    have e1 := hat 1 (by simp)
    have e2 := hat 2 (by simp)
    have e3 := hat 3 (by simp)
    simp [gc_int, gc_u64] at e0 e1 e2 e3
    obtain ⟨a0, rfl, p0⟩ := gin_int e0
    obtain ⟨a1, rfl, p1⟩ := gin_u64 e1
    obtain ⟨a2, rfl, p2⟩ := gin_u64 e2
    obtain ⟨a3, rfl, p3⟩ := gin_int e3
    exact ⟨a0, a1, a2, a3, rfl, p0, p1, p2, p3⟩
structure Cl where
  kd : Int
  n : Int
  e : Int
  life : Int
def ClAt (w : World) (b o : Nat) (a : Cl) : Prop := w.cell? ⟨b, o, none⟩ = some (.int .i64 a.kd) ∧ w.cell? ⟨b, o + 1, none⟩ = some (.int .u64 a.n) ∧ w.cell? ⟨b, o + 2, none⟩ = some (.int .u64 a.e) ∧ w.cell? ⟨b, o + 3, none⟩ = some (.int .i64 a.life)
def ClOk (a : Cl) : Prop := (-9223372036854775808 ≤ a.kd ∧ a.kd ≤ 9223372036854775807) ∧ (0 ≤ a.n ∧ a.n ≤ 18446744073709551615) ∧ (0 ≤ a.e ∧ a.e ≤ 18446744073709551615) ∧ (-9223372036854775808 ≤ a.life ∧ a.life ≤ 9223372036854775807)
def ClsIn (w : World) (l : List Cl) (a : Option Addr) : Prop := l = [] ∨ ∃ b o, a = some ⟨b, o, none⟩ ∧ b < w.heap.size ∧ ∀ i (hi : i < l.length), ClAt w b (o + i * 4) l[i]
theorem ClsIn.keep {w w' : World} {l : List Cl} {a : Option Addr} {B : Nat} (h : ClsIn w l a) (hB : B = w.heap.size) (k : Below B w w') : ClsIn w' l a := by
  subst hB
  rcases h with h | ⟨b, o, rfl, hb, hc⟩
  · exact Or.inl h
  · refine Or.inr ⟨b, o, rfl, Nat.lt_of_lt_of_le hb k.size, fun i hi => ?_⟩
    have e := fun q => World.cell?_of_block (a := ⟨b, q, none⟩) (k.block b hb)
    obtain ⟨a0, a1, a2, a3⟩ := hc i hi
    exact ⟨(e _).trans a0, (e _).trans a1, (e _).trans a2, (e _).trans a3⟩
theorem gb_call : Try.prog.bytesOf 39 = 32 := by kernel_rfl
structure ClsOk (w : World) (l : List Cl) (a : Option Addr) : Prop where
  rows : ClsIn w l a
  ok : ∀ x ∈ l, ClOk x
  n1 : l.length * 32 ≤ 140737488351232
theorem gin_calls {H : Type} {enc : TypeId × Value → H} {w : World} {spare : Nat → Bool} {held : Bool} {n : Nat} {a : Option Addr} {k c : Nat} {x : DataW H × List MemPlace} (h : DataW.trod enc Try.prog w 0 spare held n 36 [.slice a k c] = some x) (hw : ∀ z ∈ x.1.weights Try.prog 36, z ≤ reachBytes) :
    ∃ l : List Cl, k = l.length ∧ ClsOk w l a := by
  have hR : reachBytes = 140737488351232 := rfl
  rcases Go.Np.open_slice (k := 4) Try.underlying36 gc_call (by omega) h with h0 | ⟨m, b, o, el, sp, rfl, rfl, hb, he, hel, hel2⟩
  · exact ⟨[], by simpa using h0, Or.inl rfl, by simp, by simp⟩
  · rw [he] at hw
    obtain ⟨hq, hq2⟩ := Go.Np.weights_elem Try.underlying36 hw
    rw [gb_call] at hq
    obtain ⟨l, hl, hl2⟩ := Go.Np.list_of (Q := fun i (y : Cl) => ClAt w b (o + i * 4) y ∧ ClOk y) el.length (fun i hi => by
      obtain ⟨cs, ps', hcl, hcc, htr⟩ := hel2 i hi
      obtain ⟨y0, y1, y2, y3, hy, hok⟩ := gin_call htr
      have g := fun j (hj : j < cs.length) => hcc j hj
      subst hy
      exact ⟨⟨y0, y1, y2, y3⟩, ⟨g 0 (by simp), g 1 (by simp), g 2 (by simp), g 3 (by simp)⟩, hok⟩)
    refine ⟨l, by omega, Or.inr ⟨b, o, rfl, hb, fun i hi => (hl2 i hi).1⟩, fun y hy => ?_, by have := Nat.mul_le_mul_right 32 (Nat.le_add_right el.length sp.length); omega⟩
    obtain ⟨i, hi, rfl⟩ := List.getElem_of_mem hy
    exact (hl2 i hi).2
theorem st_step : Go.Np.St Try.prog 53 [(3, 0), (3, 1), (3, 2), (3, 3)] := ⟨_, Try.underlying53, by kernel_rfl⟩
theorem gc_step : Try.prog.cellsOf 53 = 4 := by kernel_rfl
theorem gin_step {H : Type} {enc : TypeId × Value → H} {w : World} {spare : Nat → Bool} {held : Bool} {n : Nat} {cs : List Value} {x : DataW H × List MemPlace} (h : DataW.trod enc Try.prog w 0 spare held n 53 cs = some x) : ∃ (en : Int) (kd : Int) (i : Int) (life : Int), cs = [.int .i64 en, .int .i64 kd, .int .i64 i, .int .i64 life] ∧ (-9223372036854775808 ≤ en ∧ en ≤ 9223372036854775807) ∧ (-9223372036854775808 ≤ kd ∧ kd ≤ 9223372036854775807) ∧ (-9223372036854775808 ≤ i ∧ i ≤ 9223372036854775807) ∧ (-9223372036854775808 ≤ life ∧ life ≤ 9223372036854775807) := by
  obtain ⟨d, p⟩ := x
  obtain ⟨xs, m, -, -, hcl, hxl, hat, -⟩ := st_step.opens h
  rw [gc_step] at hcl
  match cs, hcl, xs, hxl with
  | [v0, v1, v2, v3], _, [x0, x1, x2, x3], _ =>
    have e0 := hat 0 (by simp)
    have e1 := hat 1 (by simp)
    have e2 := hat 2 (by simp)
    have e3 := hat 3 (by simp)
    simp [gc_int] at e0 e1 e2 e3
    obtain ⟨a0, rfl, p0⟩ := gin_int e0
    obtain ⟨a1, rfl, p1⟩ := gin_int e1
    obtain ⟨a2, rfl, p2⟩ := gin_int e2
    obtain ⟨a3, rfl, p3⟩ := gin_int e3
    exact ⟨a0, a1, a2, a3, rfl, p0, p1, p2, p3⟩
structure Sp where
  en : Int
  kd : Int
  i : Int
  life : Int
def SpAt (w : World) (b o : Nat) (a : Sp) : Prop := w.cell? ⟨b, o, none⟩ = some (.int .i64 a.en) ∧ w.cell? ⟨b, o + 1, none⟩ = some (.int .i64 a.kd) ∧ w.cell? ⟨b, o + 2, none⟩ = some (.int .i64 a.i) ∧ w.cell? ⟨b, o + 3, none⟩ = some (.int .i64 a.life)
def SpOk (a : Sp) : Prop := (-9223372036854775808 ≤ a.en ∧ a.en ≤ 9223372036854775807) ∧ (-9223372036854775808 ≤ a.kd ∧ a.kd ≤ 9223372036854775807) ∧ (-9223372036854775808 ≤ a.i ∧ a.i ≤ 9223372036854775807) ∧ (-9223372036854775808 ≤ a.life ∧ a.life ≤ 9223372036854775807)
def SpsIn (w : World) (l : List Sp) (a : Option Addr) : Prop := l = [] ∨ ∃ b o, a = some ⟨b, o, none⟩ ∧ b < w.heap.size ∧ ∀ i (hi : i < l.length), SpAt w b (o + i * 4) l[i]
theorem SpsIn.keep {w w' : World} {l : List Sp} {a : Option Addr} {B : Nat} (h : SpsIn w l a) (hB : B = w.heap.size) (k : Below B w w') : SpsIn w' l a := by
  subst hB
  rcases h with h | ⟨b, o, rfl, hb, hc⟩
  · exact Or.inl h
  · refine Or.inr ⟨b, o, rfl, Nat.lt_of_lt_of_le hb k.size, fun i hi => ?_⟩
    have e := fun q => World.cell?_of_block (a := ⟨b, q, none⟩) (k.block b hb)
    obtain ⟨a0, a1, a2, a3⟩ := hc i hi
    exact ⟨(e _).trans a0, (e _).trans a1, (e _).trans a2, (e _).trans a3⟩
theorem gb_step : Try.prog.bytesOf 53 = 32 := by kernel_rfl
structure SpsOk (w : World) (l : List Sp) (a : Option Addr) : Prop where
  rows : SpsIn w l a
  ok : ∀ x ∈ l, SpOk x
  n1 : l.length * 32 ≤ 140737488351232
theorem gin_steps {H : Type} {enc : TypeId × Value → H} {w : World} {spare : Nat → Bool} {held : Bool} {n : Nat} {a : Option Addr} {k c : Nat} {x : DataW H × List MemPlace} (h : DataW.trod enc Try.prog w 0 spare held n 49 [.slice a k c] = some x) (hw : ∀ z ∈ x.1.weights Try.prog 49, z ≤ reachBytes) :
    ∃ l : List Sp, k = l.length ∧ SpsOk w l a := by
  have hR : reachBytes = 140737488351232 := rfl
  rcases Go.Np.open_slice (k := 4) Try.underlying49 gc_step (by omega) h with h0 | ⟨m, b, o, el, sp, rfl, rfl, hb, he, hel, hel2⟩
  · exact ⟨[], by simpa using h0, Or.inl rfl, by simp, by simp⟩
  · rw [he] at hw
    obtain ⟨hq, hq2⟩ := Go.Np.weights_elem Try.underlying49 hw
    rw [gb_step] at hq
    obtain ⟨l, hl, hl2⟩ := Go.Np.list_of (Q := fun i (y : Sp) => SpAt w b (o + i * 4) y ∧ SpOk y) el.length (fun i hi => by
      obtain ⟨cs, ps', hcl, hcc, htr⟩ := hel2 i hi
      obtain ⟨y0, y1, y2, y3, hy, hok⟩ := gin_step htr
      have g := fun j (hj : j < cs.length) => hcc j hj
      subst hy
      exact ⟨⟨y0, y1, y2, y3⟩, ⟨g 0 (by simp), g 1 (by simp), g 2 (by simp), g 3 (by simp)⟩, hok⟩)
    refine ⟨l, by omega, Or.inr ⟨b, o, rfl, hb, fun i hi => (hl2 i hi).1⟩, fun y hy => ?_, by have := Nat.mul_le_mul_right 32 (Nat.le_add_right el.length sp.length); omega⟩
    obtain ⟨i, hi, rfl⟩ := List.getElem_of_mem hy
    exact (hl2 i hi).2
theorem gin_u642 {H : Type} {enc : TypeId × Value → H} {w W : World} {spare : Nat → Bool} {held : Bool} {r : Reach} {b0 : Nat} {v : Value} {d : DataW H} {ps : List MemPlace} (hv : Value.okWide Try.prog W r b0 48 v) (h : DataW.Trod enc Try.prog w 0 spare held 48 v d ps) : ∃ x y : Int, v = .agg #[.int .u64 x, .int .u64 y] ∧ (0 ≤ x ∧ x ≤ 18446744073709551615) ∧ (0 ≤ y ∧ y ≤ 18446744073709551615) := by
  unfold Value.okWide at hv
  rw [Try.underlying48] at hv
  obtain ⟨cs, rfl, hcs, -⟩ := hv
  obtain ⟨fuel, hf⟩ := h
  obtain ⟨xs, m, rfl, hx, hcl, hxl, hat⟩ := DataW.trod_array Try.underlying48 hf
  have hct : Try.prog.cellsOf 48 = 2 := by kernel_rfl
  have hcl2 : cs.size = 2 := by omega
  have hsz : (Value.agg cs).cells = cs := rfl
  rw [hsz] at hat
  obtain ⟨v0, v1, rfl⟩ : ∃ v0 v1, cs = #[v0, v1] := by
    obtain ⟨l⟩ := cs
    match l, hcl2 with
    | [v0, v1], _ => exact ⟨v0, v1, rfl⟩
  match xs, hxl with
  | [x0, x1], _ =>
    have h0 := hat 0 (by omega)
    have h1 := hat 1 (by omega)
    simp [gc_u64] at h0 h1
    obtain ⟨a0, rfl, p0⟩ := gin_u64 h0
    obtain ⟨a1, rfl, p1⟩ := gin_u64 h1
    exact ⟨a0, a1, rfl, p0, p1⟩
end Go.Proofs.Ytippekflhlmgiaa
