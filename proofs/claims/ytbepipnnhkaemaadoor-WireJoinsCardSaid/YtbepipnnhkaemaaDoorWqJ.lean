/- Fields behind fields in memory; arrays of two texts that come in. -/
import Derived.Test.YtbepipnnhkaemaaDoorWqY
import Derived.OpenShut
import Derived.Laws.AppendOwnNone
namespace Go.Wq
set_option linter.unusedVariables false
open Go.RowKit Go.Lib

/-- The cells of fields in a row; what lists hold lies in blocks below B. -/
inductive FCells (w : World) (B : Nat) : List Value → List Fld → Prop where
  | nil : FCells w B [] []
  | cons {u : Nat} {i : Int} {f : Nat} {bb : Bool} {s : ByteArray} {l : List (List Fld)} {ra : Option Addr} {rn rc : Nat} {xs : List Value} {fs : List Fld} (hr : Go.Wq.RowsIn w B l ra rn) (h : FCells w B xs fs) :
      FCells w B (.int .u64 (u : Int) :: .int .i64 i :: .float .f64 f :: .bool bb :: .string s :: .slice ra rn rc :: xs) (.mk u i f bb s.data.toList l :: fs)
theorem FCells.len {w : World} {B : Nat} {xs : List Value} {fs : List Fld} (h : FCells w B xs fs) : xs.length = fs.length * 6 := by
  induction h with
  | nil => rfl
  | cons _ _ ih => simp only [List.length_cons, ih]; omega
theorem FCells.one {w : World} {B : Nat} {xs : List Value} {fs : List Fld} (h : FCells w B xs fs) : ∀ u ∈ xs, u.oneCell' = true := by
  induction h with
  | nil => intro u hu; cases hu
  | cons _ _ ih =>
    intro u hu
    simp only [List.mem_cons] at hu
    rcases hu with rfl | rfl | rfl | rfl | rfl | rfl | hu
    · rfl
    · rfl
    · rfl
    · rfl
    · rfl
    · rfl
    · exact ih u hu
theorem FCells.append {w : World} {B : Nat} {xs ys : List Value} {fs gs : List Fld} (h : FCells w B xs fs) (g : FCells w B ys gs) : FCells w B (xs ++ ys) (fs ++ gs) := by
  induction h with
  | nil => exact g
  | cons hr _ ih => exact .cons hr ih
theorem FCells.kept {w w' : World} {B : Nat} (hk : ∀ k, k < B → w'.heap[k]? = w.heap[k]?) {xs : List Value} {fs : List Fld} (h : FCells w B xs fs) : FCells w' B xs fs := by
  induction h with
  | nil => exact .nil
  | cons hr _ ih => exact .cons (RowsIn.kept hk _ _ _ hr) ih
theorem FCells.flds {w : World} {B C : Nat} (hBC : B ≤ C) {xs : List Value} {fs : List Fld} (h : FCells w B xs fs) : ∀ (g o : Nat), g < C → (∀ j u, xs[j]? = some u → w.cell? ⟨g, o + j, none⟩ = some u) → FldsIn w C fs (some ⟨g, o, none⟩) fs.length := by
  induction h with
  | nil => intro g o _ _; simp [FldsIn]
  | @cons u i f bb s l ra rn rc xs fs hr h ih =>
    intro g o hg hc
    simp only [FldsIn, List.length_cons]
    refine ⟨g, o, fs.length, rfl, rfl, ?_, ih g (o + 6) hg (fun j u hj => by have := hc (j + 6) u (by simpa using hj); rwa [show o + (j + 6) = o + 6 + j by omega] at this)⟩
    simp only [FldIn]
    have h0 := hc 0 _ rfl
    simp only [Nat.add_zero] at h0
    exact ⟨hg, h0, hc 1 _ rfl, hc 2 _ rfl, hc 3 _ rfl, ⟨s, rfl, hc 4 _ rfl⟩, ra, rn, rc, hc 5 _ rfl, RowsIn.kept_up hBC _ _ _ hr⟩
theorem flds_cells {w : World} {B : Nat} : ∀ {fs : List Fld} {a : Option Addr} {n : Nat}, FldsIn w B fs a n → ∃ xs, FCells w B xs fs ∧ (0 < n → ∃ b o, a = some ⟨b, o, none⟩ ∧ ∀ j u, xs[j]? = some u → w.cell? ⟨b, o + j, none⟩ = some u)
  | [], a, n, h => ⟨[], .nil, fun hn => by simp [FldsIn] at h; omega⟩
  | .mk u i f bb t l :: fs, a, n, h => by
    simp only [FldsIn, FldIn] at h
    obtain ⟨b, o, m, rfl, rfl, ⟨hb, c0, c1, c2, c3, ⟨s, rfl, c4⟩, ra, rn, rc, c5, hr⟩, h2⟩ := h
    obtain ⟨xs, hx, hat⟩ := flds_cells h2
    refine ⟨_, .cons (rc := rc) hr hx, fun _ => ⟨b, o, rfl, fun j v hj => ?_⟩⟩
    match j with
    | 0 => simp at hj; subst hj; exact c0
    | 1 => simp at hj; subst hj; exact c1
    | 2 => simp at hj; subst hj; exact c2
    | 3 => simp at hj; subst hj; exact c3
    | 4 => simp at hj; subst hj; exact c4
    | 5 => simp at hj; subst hj; exact c5
    | j + 6 =>
      simp at hj
      have hm : 0 < m := by
        rcases Nat.eq_zero_or_pos m with h0 | h0
        · have hl := h2.len; rw [h0] at hl
          have : fs = [] := List.eq_nil_of_length_eq_zero hl.symm
          subst this
          cases hx
          simp at hj
        · exact h0
      obtain ⟨b', o', he, hc⟩ := hat hm
      injection he with he
      injection he with h1 h2' _
      subst h1; subst h2'
      have := hc j v hj
      rwa [show o + 6 + j = o + (j + 6) by omega] at this

/-- append(all, fields...), whatever slice the fields are: nil, empty or not. -/
theorem wpList_append_flds {P : Program} (w : World) {ops : Array Oper} {rest : List Oper} {o : Oper} {act : Act} {Q : Exit → Act → World → Prop} (hgd : o.guard = none) (s x : Operand) (t : TypeId)
    (ho : o.op = .call { callee := .builtin .append, args := #[s, x], argTypes := #[t, t] })
    (base : Nat) (e : TypeId) (i : TypeInfo) (z : Value) (ht : P.underlying t = some (.slice e)) (hi : P.info? e = some i) (hz : i.zero = some z) (hsize : i.size = 6) (hby : i.bytes = 72) (hzs : z.cells.size = 6)
    (v : Value) (n : Nat) (xs : List Value) (hs : act.eval s = v) (hown : w.ownsRow base e 6 v n xs)
    (a : Option Addr) (len cap : Nat) (ys : List Value) (hx : act.eval x = .slice a len cap) (hl : ys.length = len * 6) (h1 : ∀ u ∈ ys, u.oneCell' = true) (hat : 0 < len → ∃ b off, a = some ⟨b, off, none⟩ ∧ ∀ j u, ys[j]? = some u → w.cell? ⟨b, off + j, none⟩ = some u) (hn : a = none → cap = 0)
    (h63 : n + len ≤ maxLen) (h47 : (n + len) * 72 ≤ 140737488355328) (hbase : base ≤ w.heap.size)
    (h : ∀ v' w', w'.ownsRow base e 6 v' (n + len) (xs ++ ys) → w.grownBy w' v.ownBlock → wpList P ops Q rest (act.put o.dst v') w') : wpList P ops Q (o :: rest) act w := by
  cases a with
  | none =>
    have h0 : len = 0 := by
      rcases Nat.eq_zero_or_pos len with h | h
      · exact h
      · obtain ⟨b, off, h1, _⟩ := hat h; cases h1
    obtain rfl := hn rfl
    subst h0
    have hzn : ys = [] := List.eq_nil_of_length_eq_zero (by simpa using hl)
    subst hzn
    refine wpList_append_own_none hgd s x t ho base e i 6 ht hi v n _ hs hown hx ?_
    exact h v w (by simpa using hown) ⟨rfl, rfl, rfl, Nat.le_refl _, fun _ _ _ => rfl⟩
  | some ad =>
    refine wpList_append_own w hgd s x t ho base e i z 6 72 ht hi hz hsize hby hzs (by decide) v n _ hs hown ad len cap ys hx hl (fun j u hj => ?_) h1 h63 h47 hbase ?_
    · have hpos : 0 < len := by
        rcases Nat.eq_zero_or_pos len with h0 | h0
        · subst h0
          have : ys = [] := List.eq_nil_of_length_eq_zero (by simpa using hl)
          subst this; simp at hj
        · exact h0
      obtain ⟨b, off, he, hc⟩ := hat hpos
      cases he
      rw [add_none]
      exact hc j u hj
    · intro v' w' h1 h2 _
      exact h v' w' h1 h2

/-- An array of two texts that comes in. -/
theorem open_str2 {H : Type} {enc : TypeId × Value → H} {P : Program} {w W : World} {r : Reach} {b0 : Nat} {spare : Nat → Bool} {held : Bool} {t e : TypeId} {v : Value} {d : DataW H} {ps : List MemPlace}
    (ht : P.underlying t = some (.array 2 e)) (he : P.underlying e = some .string) (hct : P.cellsOf t = 2) (hce : P.cellsOf e = 1) (hv : Value.okWide P W r b0 t v) (h : DataW.Trod enc P w 0 spare held t v d ps) (hw : ∀ x ∈ d.weights P t, x ≤ reachBytes) :
    ∃ s0 s1 : ByteArray, v = .agg #[.string s0, .string s1] ∧ s0.size ≤ reachBytes ∧ s1.size ≤ reachBytes ∧ s0.size ≤ maxLen ∧ s1.size ≤ maxLen := by
  unfold Value.okWide at hv
  rw [ht] at hv
  obtain ⟨cs, rfl, hcs, -⟩ := hv
  obtain ⟨fuel, hf⟩ := h
  obtain ⟨xs, m, rfl, hx, hcl, hxl, hat⟩ := DataW.trod_array ht hf
  have hcl2 : cs.size = 2 := by omega
  have hsz : (Value.agg cs).cells = cs := rfl
  rw [hsz] at hat
  obtain ⟨v0, v1, rfl⟩ : ∃ v0 v1, cs = #[v0, v1] := by
    obtain ⟨l⟩ := cs
    match l, hcl2 with
    | [v0, v1], _ => exact ⟨v0, v1, rfl⟩
  match xs, hxl with
  | [x0, x1], _ =>
    have h0 := hat 0 (by omega)
    have h1 := hat 1 (by omega)
    simp [hce] at h0 h1
    obtain ⟨s0, e0, d0, m0⟩ := DataW.trod_string he h0
    obtain ⟨s1, e1, d1, m1⟩ := DataW.trod_string he h1
    simp only [List.cons.injEq, and_true] at e0 e1
    subst e0; subst e1
    have hd : d = .agg [x0.1, x1.1] := congrArg Prod.fst hx
    subst hd
    simp only [DataW.weights, ht, DataW.weightsAll, d0, d1, List.append_nil] at hw
    have w0 := hw s0.data.toList.length (by simp)
    have w1 := hw s1.data.toList.length (by simp)
    rw [Array.length_toList] at w0 w1
    exact ⟨s0, s1, rfl, w0, w1, m0, m1⟩
theorem none_cap {H : Type} {enc : TypeId × Value → H} {P : Program} {w : World} {spare : Nat → Bool} {held : Bool} {t e : TypeId} {a : Option Addr} {n c : Nat} {d : DataW H} {ps : List MemPlace} (ht : P.underlying t = some (.slice e))
    (h : DataW.Trod enc P w 0 spare held t (.slice a n c) d ps) : a = none → c = 0 := by
  rintro rfl
  obtain ⟨fuel, hf⟩ := h
  rcases DataW.trod_slice ht hf with ⟨h1, -⟩ | ⟨x0, len, cap, elems, rest, m, -, hcs, -⟩
  · simp [Value.cells] at h1; exact h1.2
  · simp [Value.cells] at hcs
end Go.Wq
