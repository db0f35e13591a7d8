/- Messages: fields' cells; a field's number, both sides. -/
import Derived.Test.YtidfgjgbigedeaaGreatDoorMgG
import Derived.Test.YtidfgjgbigedeaaGreatDoorMqA
import Derived.Deep.RegionHeld3
import Derived.Handy
namespace Go.Proofs.YtidfgjgbigedeaaGreatDoor
open Go.RowKit Go.Lib Go.Wq Go.Mq
set_option linter.unusedVariables false
set_option linter.unusedSimpArgs false
set_option maxRecDepth 100000

/-- A field's cells. -/
structure FldC (w : World) (B b o : Nat) (x : Fld) : Prop where
  hb : b < B
  u : w.cell? ⟨b, o, none⟩ = some (.int .u64 (x.U : Int))
  i : w.cell? ⟨b, o + 1, none⟩ = some (.int .i64 x.I)
  f : w.cell? ⟨b, o + 2, none⟩ = some (.float .f64 x.F)
  bb : w.cell? ⟨b, o + 3, none⟩ = some (.bool x.B)
  t : w.cell? ⟨b, o + 4, none⟩ = some (.string (bOf x.T))
  l : ∃ (ra : Option Addr) (rc : Nat), w.cell? ⟨b, o + 5, none⟩ = some (.slice ra x.L.length rc) ∧ Go.Wq.RowsIn w B x.L ra x.L.length
theorem fld_c {w : World} {B b o : Nat} {x : Fld} (h : FldIn w B x b o) : FldC w B b o x := by
  obtain ⟨u, i, f, bb, t, l⟩ := x
  simp only [FldIn] at h
  obtain ⟨hb, c0, c1, c2, c3, ⟨s, hs, c4⟩, ra, rn, rc, c5, hr⟩ := h
  obtain rfl := hr.len
  have e : s = bOf t := by rw [← hs]; exact (bOf_back s).symm
  rw [e] at c4
  exact ⟨hb, c0, c1, c2, c3, c4, ra, rc, c5, hr⟩
theorem flds_c {w : World} {B : Nat} {l : List Fld} {a : Option Addr} {n : Nat} (h : FldsIn w B l a n) (hne : 0 < l.length) : ∃ b o, a = some ⟨b, o, none⟩ ∧ b < B ∧ ∀ k, k < l.length → FldC w B b (o + k * 6) (fat l k) := by
  obtain ⟨b, o, rfl, h0⟩ := h.at 0 hne
  refine ⟨b, o, rfl, (fld_c h0).hb, fun k hk => ?_⟩
  obtain ⟨b', o', e, h1⟩ := h.at k hk
  injection e with e
  injection e with e1 e2 _
  subst e1; subst e2
  have := fld_c h1
  unfold fat
  rw [List.getD_eq_getElem?_getD, List.getElem?_eq_getElem hk]
  exact this
/-- A world behind calls, or behind one store at last. -/
def OrSet (W1 : World) (n o : Nat) (cs : List Value) (w' : World) : Prop := ∃ V, Below W1.heap.size W1 V ∧ (w' = V ∨ w' = V.setCells n o cs)
theorem OrSet.cell {W1 w' : World} {n o0 b o : Nat} {cs : List Value} {v : Value} (h : OrSet W1 n o0 cs w') (hb : b < W1.heap.size) (hne : b ≠ n) (hc : W1.cell? ⟨b, o, none⟩ = some v) : w'.cell? ⟨b, o, none⟩ = some v := by
  obtain ⟨V, h1, rfl | rfl⟩ := h
  · exact (h1.cell (p := ⟨b, o, none⟩) hb).trans hc
  · rw [World.cell?_setCells_out n cs o0 V ⟨b, o, none⟩ (fun e _ => absurd e hne)]
    exact (h1.cell (p := ⟨b, o, none⟩) hb).trans hc
theorem OrSet.mid {W1 w' : World} {n o0 b o : Nat} {cs vs : List Value} (h : OrSet W1 n o0 cs w') (hb : b < W1.heap.size) (hne : b ≠ n) (hc : W1.rangeAt b o vs) : w'.rangeAt b o vs := fun j v hj => h.cell hb hne (hc j v hj)
theorem orset_drew {W1 : World} {n o : Nat} {cs : List Value} : OrSet W1 n o cs W1.drew := ⟨_, Below.drew (Below.refl _ _), Or.inl rfl⟩
/-- A take, in short. -/
theorem tk {ops : Array Oper} {Q : Exit → Act → World → Prop} {md : Region.Mode} {S : World → Prop} (i : Nat) {oi : Oper} {v : Value} {fuel : Nat} {listed : Array Bool} {a : Act} {w : World} (hS : S w) (hi : ops[i]? = some oi)
    (hc : (Region.noSelect ops && Region.free md ops listed i && (Region.ready md ops listed).contains i && Region.wanted oi (yielded ops a.tmps)) = true)
    (hQ : ∀ c a w, Q (.panic c) (a.put oi.dst v) w → Q (.panic c) a w) (hy : ∀ w, S w → (execOp a.eval oi).run Tryz.prog w = .ok (.value v) w)
    (h : wpAnyH Tryz.prog md ops Q S fuel (listed.setIfInBounds i true) (a.put oi.dst v) w) : wpAnyH Tryz.prog md ops Q S (fuel + 1) listed a w := by
  simp only [Bool.and_eq_true] at hc
  exact wpAnyH_take hi hc.1.1.1 hc.1.1.2 hc.1.2 hQ (Or.inl ⟨hc.2, hy⟩) hS h
/-- A whole load out of a range, as a take's proof. -/
theorem tk_load {S : World → Prop} {ev : Operand → Value} {op : Oper} (ty : TypeId) (x : Operand) (ho : op.op = .load ty x) (b o : Nat) (hx : ev x = .pointer (some ⟨b, o, none⟩)) (cs : List Value) (d : TypeDesc) (hc : ∀ w, S w → w.rangeAt b o cs)
    (hu : Tryz.prog.underlying ty = some d) (hd : d.isRow = true) (hi : (Tryz.prog.info? ty).map (·.size) = some cs.length) : ∀ W, S W → (execOp ev op).run Tryz.prog W = .ok (.value (.agg cs.toArray)) W := fun W hW => by
  unfold execOp
  simp only [ho, hx, run_loadAt_mid W b o ty cs d (hc W hW) hu hd hi, Sem.run_bind, Sem.run_pure, Result.andThen_ok]
/-- The cells of a field, as a list. -/
def fvals (u : Nat) (i : Int) (f : Nat) (bb : Bool) (t : ByteArray) (ra : Option Addr) (rn rc : Nat) : List Value := [.int .u64 (u : Int), .int .i64 i, .float .f64 f, .bool bb, .string t, .slice ra rn rc]
theorem FldC.range {w : World} {B b o : Nat} {x : Fld} (h : FldC w B b o x) : ∃ (ra : Option Addr) (rc : Nat), w.rangeAt b o (fvals x.U x.I x.F x.B (bOf x.T) ra x.L.length rc) := by
  obtain ⟨ra, rc, c5, -⟩ := h.l
  refine ⟨ra, rc, fun j v hj => ?_⟩
  match j with
  | 0 => obtain rfl := Option.some.inj hj; exact h.u
  | 1 => obtain rfl := Option.some.inj hj; exact h.i
  | 2 => obtain rfl := Option.some.inj hj; exact h.f
  | 3 => obtain rfl := Option.some.inj hj; exact h.bb
  | 4 => obtain rfl := Option.some.inj hj; exact h.t
  | 5 => obtain rfl := Option.some.inj hj; exact c5
  | j + 6 => simp [fvals] at hj
theorem below_set {B : Nat} {a : World} (n : Nat) (hn : B ≤ n) : ∀ (vs : List Value) (o : Nat) (w : World), Below B a w → Below B a (w.setCells n o vs)
  | [], _, _, h => h
  | v :: r, o, w, h => by
    rw [World.setCells]
    exact below_set n hn r (o + 1) _ (h.setCell hn v)
theorem there_box (w : World) (cs : List Value) (t : TypeId) : (w.alloc (.cells cs.toArray t)).there w.heap.size 0 cs.length := fun j hj => by
  constructor
  · simp [go_sem, hj]
  · simp [go_sem]
theorem there_next {W W' : World} {b o n : Nat} (h : W.there b o n) (hb : b < W.heap.size) (k : Below W.heap.size W W') : W'.there b o n := fun j hj => by
  obtain ⟨h1, h2⟩ := h j hj
  have e := k.block b hb
  constructor
  · rw [World.cell?_of_block e]; exact h1
  · simp only [World.frozen?] at h2 ⊢
    rw [e]; exact h2
theorem results_cell {fn : Func} {t : Tmp} {ty : TypeId} (h : fn.results = #[.cell t ty]) (tmps : Array Value) (w : World) (b o : Nat) (cs : List Value) (d : TypeDesc) (hp : tmps.getD t undef = .pointer (some ⟨b, o, none⟩)) (hc : w.rangeAt b o cs)
    (hu : Tryz.prog.underlying ty = some d) (hd : d.isRow = true) (hi : (Tryz.prog.info? ty).map (·.size) = some cs.length) : (results fn tmps).run Tryz.prog w = .ok (.agg cs.toArray) w := by
  have e := run_loadVar_mid (P := Tryz.prog) w b o ty cs d hc hu hd hi
  have hp' : tmps[t]?.getD undef = .pointer (some ⟨b, o, none⟩) := by simpa using hp
  simp [results, h, hp', asAddr, e, Sem.run_bind, Sem.run_pure]
theorem results_cell2 {fn : Func} {t u : Tmp} {ty : TypeId} (h : fn.results = #[.cell t ty, .tmp u]) (tmps : Array Value) (w : World) (b o : Nat) (cs : List Value) (d : TypeDesc) (hp : tmps.getD t undef = .pointer (some ⟨b, o, none⟩)) (hc : w.rangeAt b o cs)
    (hu : Tryz.prog.underlying ty = some d) (hd : d.isRow = true) (hi : (Tryz.prog.info? ty).map (·.size) = some cs.length) : (results fn tmps).run Tryz.prog w = .ok (.tuple #[.agg cs.toArray, tmps.getD u undef]) w := by
  have e := run_loadVar_mid (P := Tryz.prog) w b o ty cs d hc hu hd hi
  have hp' : tmps[t]?.getD undef = .pointer (some ⟨b, o, none⟩) := by simpa using hp
  simp [results, h, hp', asAddr, e, Sem.run_bind, Sem.run_pure]
theorem own_mid {base size g n cap : Nat} {e : TypeId} : ∀ (vs : List Value) (o : Nat) (w : World) (xs : List Value), w.ownsRow base e size (.slice (some ⟨g, 0, none⟩) n cap) n xs → o + vs.length ≤ n * size → (w.setCells g o vs).ownsRow base e size (.slice (some ⟨g, 0, none⟩) n cap) n (xs.take o ++ (vs ++ xs.drop (o + vs.length)))
  | [], o, w, xs, h, hl => by simpa [World.setCells] using h
  | v :: r, o, w, xs, h, hl => by
    have hx := h.1
    simp only [List.length_cons] at hl
    rw [World.setCells]
    have h1 := own_mid r (o + 1) _ _ (h.stored o v).1 (by omega)
    have hset : xs.set o v = xs.take o ++ v :: xs.drop (o + 1) := by rw [List.set_eq_take_append_cons_drop, if_pos (by omega)]
    have htl : (xs.take o).length = o := by rw [List.length_take]; omega
    have e1 : (xs.set o v).take (o + 1) = xs.take o ++ [v] := by
      rw [hset, List.take_append, htl, List.take_of_length_le (by omega)]
      simp
    have e2 : (xs.set o v).drop (o + 1 + r.length) = xs.drop (o + (v :: r).length) := by
      rw [List.drop_set_of_lt (by omega)]
      simp only [List.length_cons, show o + 1 + r.length = o + (r.length + 1) by omega]
    rw [e1, e2] at h1
    simpa using h1
theorem own_there {w : World} {base size g n cap : Nat} {e : TypeId} {xs : List Value} (h : w.ownsRow base e size (.slice (some ⟨g, 0, none⟩) n cap) n xs) (o m : Nat) (hm : o + m ≤ n * size) : w.there g o m := fun j hj => by
  have hx := h.1
  constructor
  · rw [h.cellAt (o + j) (by omega), List.getElem?_eq_getElem (by omega)]; rfl
  · exact h.frozenAt _
/-- A News' cells. -/
def nwCell (n : Nw) : List Value := [.int .i64 n.dest, .int .i64 n.kind, .float .f64 n.dist, .float .f64 n.radius, .int .i64 n.home]
def nwCells : List Nw → List Value
  | [] => []
  | n :: l => nwCell n ++ nwCells l
theorem nwCells_len : ∀ l, (nwCells l).length = l.length * 5
  | [] => rfl
  | n :: l => by simp only [nwCells, nwCell, List.length_append, List.length_cons, List.length_nil, nwCells_len l]; omega
theorem nwCells_append : ∀ (l m : List Nw), nwCells (l ++ m) = nwCells l ++ nwCells m
  | [], m => rfl
  | n :: l, m => by simp only [List.cons_append, nwCells, nwCells_append l m, List.append_assoc]
theorem nwCells_at : ∀ (l : List Nw) (k : Nat) (hk : k < l.length) (j : Nat) (hj : j < 5), (nwCells l)[k * 5 + j]? = (nwCell l[k])[j]?
  | n :: l, 0, _, j, hj => by
    simp only [nwCells, Nat.zero_mul, Nat.zero_add, List.getElem_cons_zero]
    rw [List.getElem?_append_left (by simp [nwCell]; omega)]
  | n :: l, k + 1, hk, j, hj => by
    simp only [nwCells, List.getElem_cons_succ]
    rw [List.getElem?_append_right (by simp [nwCell]; omega), ← nwCells_at l k (by simpa using hk) j hj]
    congr 1
    simp [nwCell]; omega
/-- News in a row of their own. -/
def NewsOwn (w : World) (base : Nat) (l : List Nw) (a : Option Addr) (c : Nat) : Prop := w.ownsRow base 42 5 (.slice a l.length c) l.length (nwCells l)
theorem NewsOwn.news {w : World} {base : Nat} {l : List Nw} {a : Option Addr} {c : Nat} (h : NewsOwn w base l a c) : NewsIn w w.heap.size l a := by
  by_cases hl : l = []
  · exact Or.inl hl
  · have hpos : 0 < l.length := List.length_pos_iff.2 hl
    unfold NewsOwn at h
    rcases h.2 with ⟨e, hz⟩ | ⟨a', cap, cur, e, hr⟩
    · omega
    obtain ⟨e1, e2, e3⟩ := (Value.slice.injEq _ _ _ _ _ _).mp e
    subst e1
    refine Or.inr ⟨a', 0, rfl, (h.lt a' rfl).2, fun k hk => ?_⟩
    have hc : ∀ j, j < 5 → w.cell? ⟨a', k * 5 + j, none⟩ = (nwCell l[k])[j]? := fun j hj => (h.cellAt (k * 5 + j) (by omega)).trans (nwCells_at l k hk j hj)
    rw [Nat.zero_add]
    exact ⟨hc 0 (by omega), hc 1 (by omega), hc 2 (by omega), hc 3 (by omega), hc 4 (by omega)⟩
theorem mWhole_any (u : Nat) (i : Int) (f : Nat) (bb : Bool) (t : ByteArray) (ra : Option Addr) (rn rc : Nat) (w : World) :
    Calls Tryz.prog 55 #[.agg #[.int .u64 (u : Int), .int .i64 i, .float .f64 f, .bool bb, .string t, .slice ra rn rc]] w fun e w' => e = .returned (.int .i64 (wM u)) ∧ Below w.heap.size w w' := by
  by_cases h : 2147483647 < u
  · have hu : (2147483647 : Int) < (u : Int) := by omega
    have hr : wM u = -1 := by unfold wM; rw [if_pos h]
    rw [hr]
    go_enter Tryz.func55, Tryz.ntmps55
    go_wp2_with fail
    go_ret
    exact ⟨rfl, below_al _ _⟩
  · have hu : ¬ (2147483647 : Int) < (u : Int) := by omega
    have hr : wM u = (u : Int) := by unfold wM; rw [if_neg h]
    have hw : IntKind.i64.wrap (u : Int) = (u : Int) := by rw [IntKind.wrap_i64]; omega
    rw [hr]
    go_enter Tryz.func55, Tryz.ntmps55
    go_wp2_with fail
    go_ret
    exact ⟨by simp [hw], below_al _ _⟩
theorem rWhole_any (u : Nat) (w : World) :
    Calls Tryz.prog 59 #[.int .u64 (u : Int)] w fun e w' => e = .returned (.int .i64 (wR u)) ∧ w = w' := by
  by_cases h : 4611686018427387904 < u
  · have hu : (4611686018427387904 : Int) < (u : Int) := by omega
    have hr : wR u = -1 := by unfold wR; rw [if_pos h]
    rw [hr]
    go_enter Tryz.func59, Tryz.ntmps59
    go_wp2_with fail
    go_ret
    exact ⟨rfl, rfl⟩
  · have hu : ¬ (4611686018427387904 : Int) < (u : Int) := by omega
    have hr : wR u = (u : Int) := by unfold wR; rw [if_neg h]
    have hw : IntKind.i64.wrap (u : Int) = (u : Int) := by rw [IntKind.wrap_i64]; omega
    rw [hr]
    go_enter Tryz.func59, Tryz.ntmps59
    go_wp2_with fail
    go_ret
    exact ⟨by simp [hw], rfl⟩
end Go.Proofs.YtidfgjgbigedeaaGreatDoor
