/- Tools for regions that draw, and for whole structs (MiC's, for seats without messages). -/
import Derived.Test.YtfnmfmelcghjbaaProg
import Derived.WalkKit
import Derived.ProofKit
import Derived.Lib.Hide
import Derived.Below
import Derived.Deep.MidRow
import Derived.Deep.RegionHeld3
import Derived.Handy
namespace Go.Proofs.Ytfnmfmelcghjbaa
open Go.RowKit Go.Lib
set_option linter.unusedVariables false
set_option linter.unusedSimpArgs false
set_option maxRecDepth 100000

/-- A world behind calls, or behind one store at last. -/
def OrSet (W1 : World) (n o : Nat) (cs : List Value) (w' : World) : Prop := ∃ V, Below W1.heap.size W1 V ∧ (w' = V ∨ w' = V.setCells n o cs)
theorem OrSet.cell {W1 w' : World} {n o0 b o : Nat} {cs : List Value} {v : Value} (h : OrSet W1 n o0 cs w') (hb : b < W1.heap.size) (hne : b ≠ n) (hc : W1.cell? ⟨b, o, none⟩ = some v) : w'.cell? ⟨b, o, none⟩ = some v := by
  obtain ⟨V, h1, rfl | rfl⟩ := h
  · exact (h1.cell (p := ⟨b, o, none⟩) hb).trans hc
  · rw [World.cell?_setCells_out n cs o0 V ⟨b, o, none⟩ (fun e _ => absurd e hne)]
    exact (h1.cell (p := ⟨b, o, none⟩) hb).trans hc
theorem OrSet.mid {W1 w' : World} {n o0 b o : Nat} {cs vs : List Value} (h : OrSet W1 n o0 cs w') (hb : b < W1.heap.size) (hne : b ≠ n) (hc : W1.rangeAt b o vs) : w'.rangeAt b o vs := fun j v hj => h.cell hb hne (hc j v hj)
theorem orset_drew {W1 : World} {n o : Nat} {cs : List Value} : OrSet W1 n o cs W1.drew := ⟨_, Below.drew (Below.refl _ _), Or.inl rfl⟩
theorem sqA {α : Type} (l : List α) (i : Nat) (a : α) : l.toArray.setIfInBounds i a = (l.set i a).toArray := List.setIfInBounds_toArray l i a
theorem sqB {α : Type} {x : α} {xs : List α} {a : α} : (x :: xs).set 0 a = a :: xs := rfl
theorem sqC {α : Type} {x : α} {xs : List α} {i : Nat} {a : α} : (x :: xs).set (i + 1) a = x :: xs.set i a := rfl
theorem sqD {α : Type} {xs : List α} {i : Nat} (h : i < xs.toArray.size) : xs.toArray[i] = xs[i] := rfl
theorem sqE {α : Type} (a : α) (l : List α) (i : Nat) (h : i + 1 < (a :: l).length) : (a :: l)[i + 1] = l[i]'(Nat.lt_of_succ_lt_succ h) := rfl
theorem sqF {α : Type} (a : α) (l : List α) (h : 0 < (a :: l).length) : (a :: l)[0] = a := rfl
/-- A take, in short. -/
theorem tk {ops : Array Oper} {Q : Exit → Act → World → Prop} {md : Region.Mode} {S : World → Prop} (i : Nat) {oi : Oper} {v : Value} {fuel : Nat} {listed : Array Bool} {a : Act} {w : World} (hS : S w) (hi : ops[i]? = some oi)
    (hc : (Region.noSelect ops && Region.free md ops listed i && (Region.ready md ops listed).contains i && Region.wanted oi (yielded ops a.tmps)) = true)
    (hQ : ∀ c a w, Q (.panic c) (a.put oi.dst v) w → Q (.panic c) a w) (hy : ∀ w, S w → (execOp a.eval oi).run Try.prog w = .ok (.value v) w)
    (h : wpAnyH Try.prog md ops Q S fuel (listed.setIfInBounds i true) (a.put oi.dst v) w) : wpAnyH Try.prog md ops Q S (fuel + 1) listed a w := by
  simp only [Bool.and_eq_true] at hc
  exact wpAnyH_take hi hc.1.1.1 hc.1.1.2 hc.1.2 hQ (Or.inl ⟨hc.2, hy⟩) hS h
/-- A whole load out of a range, as a take's proof. -/
theorem tk_load {S : World → Prop} {ev : Operand → Value} {op : Oper} (ty : TypeId) (x : Operand) (ho : op.op = .load ty x) (b o : Nat) (hx : ev x = .pointer (some ⟨b, o, none⟩)) (cs : List Value) (d : TypeDesc) (hc : ∀ w, S w → w.rangeAt b o cs)
    (hu : Try.prog.underlying ty = some d) (hd : d.isRow = true) (hi : (Try.prog.info? ty).map (·.size) = some cs.length) : ∀ W, S W → (execOp ev op).run Try.prog W = .ok (.value (.agg cs.toArray)) W := fun W hW => by
  unfold execOp
  simp only [ho, hx, run_loadAt_mid W b o ty cs d (hc W hW) hu hd hi, Sem.run_bind, Sem.run_pure, Result.andThen_ok]
theorem below_set {B : Nat} {a : World} (n : Nat) (hn : B ≤ n) : ∀ (vs : List Value) (o : Nat) (w : World), Below B a w → Below B a (w.setCells n o vs)
  | [], _, _, h => h
  | v :: r, o, w, h => by
    rw [World.setCells]
    exact below_set n hn r (o + 1) _ (h.setCell hn v)
theorem there_box (w : World) (cs : List Value) (t : TypeId) : (w.alloc (.cells cs.toArray t)).there w.heap.size 0 cs.length := fun j hj => by
  constructor
  · simp [go_sem, hj]
  · simp [go_sem]
theorem there_next {W W' : World} {b o n : Nat} (h : W.there b o n) (hb : b < W.heap.size) (k : Below W.heap.size W W') : W'.there b o n := fun j hj => by
  obtain ⟨h1, h2⟩ := h j hj
  have e := k.block b hb
  constructor
  · rw [World.cell?_of_block e]; exact h1
  · simp only [World.frozen?] at h2 ⊢
    rw [e]; exact h2
theorem results_cell {fn : Func} {t : Tmp} {ty : TypeId} (h : fn.results = #[.cell t ty]) (tmps : Array Value) (w : World) (b o : Nat) (cs : List Value) (d : TypeDesc) (hp : tmps.getD t undef = .pointer (some ⟨b, o, none⟩)) (hc : w.rangeAt b o cs)
    (hu : Try.prog.underlying ty = some d) (hd : d.isRow = true) (hi : (Try.prog.info? ty).map (·.size) = some cs.length) : (results fn tmps).run Try.prog w = .ok (.agg cs.toArray) w := by
  have e := run_loadVar_mid (P := Try.prog) w b o ty cs d hc hu hd hi
  have hp' : tmps[t]?.getD undef = .pointer (some ⟨b, o, none⟩) := by simpa using hp
  simp [results, h, hp', asAddr, e, Sem.run_bind, Sem.run_pure]
theorem results_cell2 {fn : Func} {t u : Tmp} {ty : TypeId} (h : fn.results = #[.cell t ty, .tmp u]) (tmps : Array Value) (w : World) (b o : Nat) (cs : List Value) (d : TypeDesc) (hp : tmps.getD t undef = .pointer (some ⟨b, o, none⟩)) (hc : w.rangeAt b o cs)
    (hu : Try.prog.underlying ty = some d) (hd : d.isRow = true) (hi : (Try.prog.info? ty).map (·.size) = some cs.length) : (results fn tmps).run Try.prog w = .ok (.tuple #[.agg cs.toArray, tmps.getD u undef]) w := by
  have e := run_loadVar_mid (P := Try.prog) w b o ty cs d hc hu hd hi
  have hp' : tmps[t]?.getD undef = .pointer (some ⟨b, o, none⟩) := by simpa using hp
  simp [results, h, hp', asAddr, e, Sem.run_bind, Sem.run_pure]
theorem own_mid {base size g n cap : Nat} {e : TypeId} : ∀ (vs : List Value) (o : Nat) (w : World) (xs : List Value), w.ownsRow base e size (.slice (some ⟨g, 0, none⟩) n cap) n xs → o + vs.length ≤ n * size → (w.setCells g o vs).ownsRow base e size (.slice (some ⟨g, 0, none⟩) n cap) n (xs.take o ++ (vs ++ xs.drop (o + vs.length)))
  | [], o, w, xs, h, hl => by simpa [World.setCells] using h
  | v :: r, o, w, xs, h, hl => by
    have hx := h.1
    simp only [List.length_cons] at hl
    rw [World.setCells]
    have h1 := own_mid r (o + 1) _ _ (h.stored o v).1 (by omega)
    have hset : xs.set o v = xs.take o ++ v :: xs.drop (o + 1) := by rw [List.set_eq_take_append_cons_drop, if_pos (by omega)]
    have htl : (xs.take o).length = o := by rw [List.length_take]; omega
    have e1 : (xs.set o v).take (o + 1) = xs.take o ++ [v] := by
      rw [hset, List.take_append, htl, List.take_of_length_le (by omega)]
      simp
    have e2 : (xs.set o v).drop (o + 1 + r.length) = xs.drop (o + (v :: r).length) := by
      rw [List.drop_set_of_lt (by omega)]
      simp only [List.length_cons, show o + 1 + r.length = o + (r.length + 1) by omega]
    rw [e1, e2] at h1
    simpa using h1
theorem own_there {w : World} {base size g n cap : Nat} {e : TypeId} {xs : List Value} (h : w.ownsRow base e size (.slice (some ⟨g, 0, none⟩) n cap) n xs) (o m : Nat) (hm : o + m ≤ n * size) : w.there g o m := fun j hj => by
  have hx := h.1
  constructor
  · rw [h.cellAt (o + j) (by omega), List.getElem?_eq_getElem (by omega)]; rfl
  · exact h.frozenAt _
theorem range_box0 (w : World) (cs : List Value) (t : TypeId) : (w.alloc (.cells cs.toArray t)).rangeAt w.heap.size 0 cs := by
  intro j v hj
  simp [go_sem, hj]
end Go.Proofs.Ytfnmfmelcghjbaa
