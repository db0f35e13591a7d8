/- Fields that come in: what a call's arguments hold. -/
import Derived.Test.YtbepipnnhkaemaaDoorWqR
import Derived.ChangeReads
import Derived.SizedLaws
import Derived.OpenShut
namespace Go.Wq
set_option linter.unusedVariables false
open Go.RowKit Go.Lib

theorem mapM_at {α β : Type} {f : α → Option β} : ∀ {l : List α} {r : List β}, l.mapM f = some r → r.length = l.length ∧ ∀ i (h : i < l.length) (h' : i < r.length), f l[i] = some r[i] := by
  intro l
  induction l with
  | nil =>
    intro r h
    have : r = [] := by simpa using h.symm
    subst this
    exact ⟨rfl, fun i h => by simp at h⟩
  | cons x l ih =>
    intro r h
    rw [List.mapM_cons] at h
    cases hx : f x with
    | none => simp [hx] at h
    | some y =>
      cases hl : l.mapM f with
      | none => simp [hx, hl] at h
      | some ys =>
        simp [hx, hl] at h
        subst h
        obtain ⟨h1, h2⟩ := ih hl
        refine ⟨by simp [h1], fun i hi hi' => ?_⟩
        cases i with
        | zero => simpa using hx
        | succ i => simpa using h2 i (by simpa using hi) (by simpa using hi')

theorem cells_at {w : World} {a : Addr} {k : Nat} {cs : List Value} (h : w.cells? 0 a k = some cs) : cs.length = k ∧ ∀ i (hi : i < cs.length), w.cell? (a.add i) = some cs[i] := by
  unfold World.cells? at h
  rw [if_pos (Nat.zero_le _)] at h
  obtain ⟨h1, h2⟩ := mapM_at h
  rw [List.length_range] at h1
  refine ⟨h1, fun i hi => ?_⟩
  have := h2 i (by simpa [h1] using hi) hi
  simpa using this
theorem add_none (b o i : Nat) : (⟨b, o, none⟩ : Addr).add i = ⟨b, o + i, none⟩ := by
  unfold Addr.add
  split
  · rename_i h; subst h; rfl
  · rfl
theorem add_zero (a : Addr) : a.add 0 = a := by unfold Addr.add; simp


theorem list_of {α : Type} {Q : Nat → α → Prop} : ∀ (n : Nat), (∀ i, i < n → ∃ x, Q i x) → ∃ l : List α, l.length = n ∧ ∀ i (h : i < l.length), Q i l[i] := by
  intro n
  induction n with
  | zero => exact fun _ => ⟨[], rfl, fun i h => by simp at h⟩
  | succ n ih =>
    intro h
    obtain ⟨l, h1, h2⟩ := ih (fun i hi => h i (by omega))
    obtain ⟨x, hx⟩ := h n (by omega)
    refine ⟨l ++ [x], by simp [h1], fun i hi => ?_⟩
    by_cases hl : i < l.length
    · rw [List.getElem_append_left hl]; exact h2 i hl
    · have : i = n := by simp at hi; omega
      subst this
      rw [List.getElem_append_right (by omega)]
      simpa using hx

theorem flds_of_at {w : World} {B : Nat} : ∀ (fs : List Fld) (b o : Nat), (∀ i (h : i < fs.length), FldIn w B fs[i] b (o + i * 6)) → FldsIn w B fs (some ⟨b, o, none⟩) fs.length
  | [], b, o, _ => by simp [FldsIn]
  | x :: r, b, o, h => by
    simp only [FldsIn]
    have h0 := h 0 (by simp)
    simp only [Nat.zero_mul, Nat.add_zero, List.getElem_cons_zero] at h0
    refine ⟨b, o, r.length, rfl, by simp, h0, flds_of_at r b (o + 6) (fun i hi => ?_)⟩
    have := h (i + 1) (by simpa using hi)
    rw [show o + (i + 1) * 6 = o + 6 + i * 6 by omega] at this
    simpa using this
theorem rows_of_at {w : World} {B : Nat} : ∀ (l : List (List Fld)) (b o : Nat), b < B → (∀ i (h : i < l.length), ∃ (sa : Option Addr) (sn sc : Nat), w.cell? ⟨b, o + i, none⟩ = some (.slice sa sn sc) ∧ FldsIn w B l[i] sa sn) → RowsIn w B l (some ⟨b, o, none⟩) l.length
  | [], b, o, _, _ => by simp [RowsIn]
  | x :: r, b, o, hb, h => by
    simp only [RowsIn]
    have h0 := h 0 (by simp)
    simp only [Nat.add_zero, List.getElem_cons_zero] at h0
    refine ⟨b, o, r.length, rfl, by simp, hb, h0, rows_of_at r b (o + 1) hb (fun i hi => ?_)⟩
    have := h (i + 1) (by simpa using hi)
    rw [show o + (i + 1) = o + 1 + i by omega] at this
    simpa using this

/-- The types of fields, as a program has them. -/
structure FldTypes (P : Program) (tS tE tR tU tI tF tB tT : TypeId) : Prop where
  s : P.underlying tS = some (.slice tE)
  r : P.underlying tR = some (.slice tS)
  u : P.underlying tU = some (.int .u64)
  i : P.underlying tI = some (.int .i64)
  f : P.underlying tF = some (.float .f64)
  b : P.underlying tB = some .bool
  t : P.underlying tT = some .string
  e : ∃ fs : Array Field, P.underlying tE = some (.struct fs) ∧ fs.size = 6 ∧ fs.toList.map (fun f => (f.type, f.offset)) = [(tU, 0), (tI, 1), (tF, 2), (tB, 3), (tT, 4), (tR, 5)]
  cE : P.cellsOf tE = 6
  cS : P.cellsOf tS = 1
  cR : P.cellsOf tR = 1
  cU : P.cellsOf tU = 1
  cI : P.cellsOf tI = 1
  cF : P.cellsOf tF = 1
  cB : P.cellsOf tB = 1
  cT : P.cellsOf tT = 1
  bE : P.bytesOf tE = 72
  bS : P.bytesOf tS = 24

theorem trod_float {H : Type} {enc : TypeId × Value → H} {P : Program} {w : World} {base : Nat} {spare : Nat → Bool} {held : Bool} {fuel t : Nat} {cs : List Value} {x : DataW H × List MemPlace} {k : FloatKind} (ht : P.underlying t = some (.float k))
    (h : DataW.trod enc P w base spare held fuel t cs = some x) : ∃ n, cs = [.float k n] ∧ x = (.lit (.float k n), []) ∧ (Lit.float k n).wf = true := by
  cases fuel with
  | zero => simp [DataW.trod] at h
  | succ n =>
    unfold DataW.trod at h
    rw [ht] at h
    split at h <;> simp_all

/-- What fields that come in are: whole, and as great as a machine may hold. -/
def Fine (y : Fld) : Prop := y.Ok ∧ y.Fit ∧ y.Len

theorem spot_of {w : World} {x : Addr} {v : Value} (h : w.cell? x = some v) : ∃ b o, x = ⟨b, o, none⟩ ∧ b < w.heap.size := by
  obtain ⟨b, o, sp⟩ := x
  have hsp : sp = none := World.cell?_spot h
  subst hsp
  refine ⟨b, o, rfl, ?_⟩
  rcases Nat.lt_or_ge b w.heap.size with g | g
  · exact g
  · have : w.heap[b]? = none := by simp [g]
    simp [World.cell?, this] at h

section
variable {H : Type} {enc : TypeId × Value → H} {P : Program} {w : World} {spare : Nat → Bool} {held : Bool} {tS tE tR tU tI tF tB tT : TypeId}
/-- The elements of a slice that is read. -/
theorem open_slice {fuel t e k : Nat} {a : Option Addr} {n c : Nat} {x : DataW H × List MemPlace} (ht : P.underlying t = some (.slice e)) (hk : P.cellsOf e = k) (hk0 : 0 < k) (h : DataW.trod enc P w 0 spare held fuel t [.slice a n c] = some x) :
    n = 0 ∨ ∃ m b o el sp, fuel = m + 1 ∧ a = some ⟨b, o, none⟩ ∧ b < w.heap.size ∧ x.1 = .slice el sp ∧ el.length = n ∧
      ∀ i (hi : i < el.length), ∃ cs ps', cs.length = k ∧ (∀ j (hj : j < cs.length), w.cell? ⟨b, o + i * k + j, none⟩ = some cs[j]) ∧ DataW.trod enc P w 0 spare held m e cs = some (el[i], ps') := by
  rcases DataW.trod_slice ht h with ⟨h1, h2⟩ | ⟨x0, len, cap, elems, rest, m, rfl, hcs, rfl, -, hlc, hcm, hel, hat, -, -⟩
  · left; simp at h1; exact h1.2.1
  · simp only [List.cons.injEq, Value.slice.injEq, and_true] at hcs
    obtain ⟨rfl, rfl, rfl⟩ := hcs
    by_cases hn : n = 0
    · exact Or.inl hn
    · right
      rw [hk] at hat
      have hgo : ∀ i (hi : i < elems.length), ∃ cs, w.cells? 0 (x0.add (i * k)) k = some cs ∧ DataW.trod enc P w 0 spare held m e cs = some elems[i] := fun i hi => by
        have := hat i (by omega)
        rw [List.getElem?_eq_getElem hi, Option.bind_eq_some_iff] at this
        exact this
      obtain ⟨cs0, hc0, -⟩ := hgo 0 (by omega)
      obtain ⟨g1, g2⟩ := cells_at hc0
      have g3 := g2 0 (by omega)
      rw [Nat.zero_mul, add_zero, add_zero] at g3
      obtain ⟨b, o, rfl, hb⟩ := spot_of g3
      refine ⟨m, b, o, elems.map (·.1), rest.map (·.1), rfl, rfl, hb, rfl, by simpa using hel, fun i hi => ?_⟩
      rw [List.length_map] at hi
      obtain ⟨cs, hc1, hc2⟩ := hgo i hi
      obtain ⟨g4, g5⟩ := cells_at hc1
      refine ⟨cs, (elems[i]).2, g4, fun j hj => ?_, by rw [hc2, List.getElem_map]⟩
      have := g5 j hj
      rw [add_none, add_none] at this
      exact this

theorem weights_all {e : TypeId} : ∀ {l : List (DataW H)} {i : Nat} (hi : i < l.length), ∀ n ∈ (l[i]).weights P e, n ∈ DataW.weightsAll P e l
  | d :: r, 0, hi, n, hn => by simp only [DataW.weightsAll, List.mem_append]; exact Or.inl hn
  | d :: r, i + 1, hi, n, hn => by simp only [DataW.weightsAll, List.mem_append]; exact Or.inr (weights_all (by simpa using hi) n (by simpa using hn))
theorem weights_elem {t e : TypeId} (ht : P.underlying t = some (.slice e)) {el sp : List (DataW H)} {Q : Nat → Prop} (h : ∀ n ∈ (DataW.slice el sp).weights P t, Q n) : Q ((el.length + sp.length) * P.bytesOf e) ∧ ∀ i (hi : i < el.length), ∀ n ∈ (el[i]).weights P e, Q n := by
  simp only [DataW.weights, ht, List.mem_cons, List.mem_append] at h
  exact ⟨h _ (Or.inl rfl), fun i hi n hn => h n (Or.inr (Or.inl (weights_all hi n hn)))⟩

theorem open_fld (T : FldTypes P tS tE tR tU tI tF tB tT) (fuel : Nat)
    (IH : ∀ m, m < fuel → ∀ (a : Option Addr) (n c : Nat) (d : DataW H) (ps : List MemPlace), DataW.trod enc P w 0 spare held m tS [.slice a n c] = some (d, ps) → (∀ x ∈ d.weights P tS, x ≤ reachBytes) →
      ∃ fs : List Fld, FldsIn w w.heap.size fs a fs.length ∧ n = fs.length ∧ (∀ y ∈ fs, Fine y) ∧ fs.length * 72 ≤ reachBytes)
    (b o : Nat) (cs : List Value) (d : DataW H) (ps : List MemPlace) (hb : b < w.heap.size) (hc : ∀ j (hj : j < cs.length), w.cell? ⟨b, o + j, none⟩ = some cs[j])
    (h : DataW.trod enc P w 0 spare held fuel tE cs = some (d, ps)) (hw : ∀ x ∈ d.weights P tE, x ≤ reachBytes) : ∃ x : Fld, FldIn w w.heap.size x b o ∧ Fine x := by
  obtain ⟨fs, hfs, hsz, hmap⟩ := T.e
  obtain ⟨xs, n, rfl, hx, hcl, hxl, hat⟩ := DataW.trod_struct hfs h
  rw [T.cE] at hcl
  rw [hsz] at hxl
  have hty : ∀ i (hi : i < 6), ∃ f, fs[i]? = some f ∧ (f.type, f.offset) = ([(tU, 0), (tI, 1), (tF, 2), (tB, 3), (tT, 4), (tR, 5)] : List (TypeId × Nat))[i] := fun i hi => by
    have h1 : i < fs.size := by omega
    refine ⟨fs[i], by simp [h1], ?_⟩
    have h2 : (fs.toList.map (fun f => (f.type, f.offset)))[i]? = some (fs[i].type, fs[i].offset) := by simp [h1]
    rw [hmap] at h2
    rw [List.getElem?_eq_getElem (by simpa using hi)] at h2
    exact (Option.some.inj h2).symm
  match cs, hcl, xs, hxl with
  | [v0, v1, v2, v3, v4, v5], _, [x0, x1, x2, x3, x4, x5], _ =>
    have g : ∀ i (hi : i < 6), ∀ t k, ([(tU, 0), (tI, 1), (tF, 2), (tB, 3), (tT, 4), (tR, 5)] : List (TypeId × Nat))[i]'(by simpa using hi) = (t, k) → P.cellsOf t = 1 → DataW.trod enc P w 0 spare held n t (([v0, v1, v2, v3, v4, v5].drop k).take 1) = [x0, x1, x2, x3, x4, x5][i]? := fun i hi t k e ht => by
      obtain ⟨f, hf, hp⟩ := hty i hi
      rw [e] at hp
      have h1 := hat i f hf
      have e1 : f.type = t := congrArg Prod.fst hp
      have e2 : f.offset = k := congrArg Prod.snd hp
      rw [e1, e2, ht] at h1
      exact h1
    have e0 := g 0 (by omega) _ _ rfl T.cU
    have e1 := g 1 (by omega) _ _ rfl T.cI
    have e2 := g 2 (by omega) _ _ rfl T.cF
    have e3 := g 3 (by omega) _ _ rfl T.cB
    have e4 := g 4 (by omega) _ _ rfl T.cT
    have e5 := g 5 (by omega) _ _ rfl T.cR
    simp at e0 e1 e2 e3 e4 e5
    obtain ⟨u, hu, -, wu⟩ := DataW.trod_int T.u e0
    obtain ⟨iv, hi, -, wi⟩ := DataW.trod_int T.i e1
    obtain ⟨fv, hf, -, wf⟩ := trod_float T.f e2
    obtain ⟨bv, hbv, -⟩ := DataW.trod_bool T.b e3
    obtain ⟨sv, hs, hsx, ws⟩ := DataW.trod_string T.t e4
    simp only [List.cons.injEq, and_true] at hu hi hf hbv hs
    subst hu; subst hi; subst hf; subst hbv; subst hs
    have bu := bounds_u64 wu
    have bi := bounds_i64 wi
    have bf : fv < 2 ^ 64 := of_decide_eq_true wf
    have hd : d = .agg ([x0, x1, x2, x3, x4, x5].map (·.1)) := congrArg Prod.fst hx
    subst hd
    have hW : ∀ (j : Nat) (t : TypeId) (dj : DataW H), (fs.toList.map (·.type))[j]? = some t → ([x0, x1, x2, x3, x4, x5].map (·.1))[j]? = some dj → ∀ m ∈ dj.weights P t, m ≤ reachBytes := fun j t dj h1 h2 m hm =>
      hw m (by simp only [DataW.weights, hfs]; exact DataW.weights_mem_each h1 h2 m hm)
    have hts : fs.toList.map (·.type) = [tU, tI, tF, tB, tT, tR] := by
      have := congrArg (List.map Prod.fst) hmap
      simpa [List.map_map, Function.comp_def] using this
    rw [hts] at hW
    have hst : sv.size ≤ reachBytes := by
      have := hW 4 tT x4.1 rfl rfl sv.data.toList.length (by rw [hsx]; simp [DataW.weights])
      rw [Array.length_toList] at this
      exact this
    have hwr := hW 5 tR x5.1 rfl rfl
    obtain ⟨un, rfl⟩ : ∃ un : Nat, u = (un : Int) := ⟨u.toNat, by omega⟩
    have c0 := hc 0 (by simp)
    have c1 := hc 1 (by simp)
    have c2 := hc 2 (by simp)
    have c3 := hc 3 (by simp)
    have c4 := hc 4 (by simp)
    have c5 := hc 5 (by simp)
    simp at c0 c1 c2 c3 c4 c5
    have hsl : ∃ ra rn rc, v5 = .slice ra rn rc := by
      rcases DataW.trod_slice T.r e5 with ⟨h1, -⟩ | ⟨x0', len, cap, elems, rest, m', -, h1, -⟩
      · simp at h1; exact ⟨_, _, _, h1⟩
      · simp at h1; exact ⟨_, _, _, h1⟩
    obtain ⟨ra, rn, rc, rfl⟩ := hsl
    have hrow : ∃ l : List (List Fld), RowsIn w w.heap.size l ra l.length ∧ rn = l.length ∧ (∀ r ∈ l, (∀ y ∈ r, Fine y) ∧ r.length * 72 ≤ reachBytes) ∧ l.length * 24 ≤ reachBytes := by
      rcases open_slice (k := 1) T.r T.cS (by omega) e5 with h0 | ⟨m, b', o', el, sp, rfl, rfl, hb', he, hel, hel2⟩
      · exact ⟨[], by simp [RowsIn], h0, by simp, by simp⟩
      · rw [he] at hwr
        obtain ⟨hq, hq2⟩ := weights_elem T.r hwr
        rw [T.bS] at hq
        obtain ⟨l, hl, hl2⟩ := list_of (Q := fun i (r : List Fld) => (∃ (sa : Option Addr) (sn sc : Nat), w.cell? ⟨b', o' + i, none⟩ = some (.slice sa sn sc) ∧ FldsIn w w.heap.size r sa sn) ∧ (∀ y ∈ r, Fine y) ∧ r.length * 72 ≤ reachBytes) el.length (fun i hi => by
          obtain ⟨cs, ps', hcl, hcc, htr⟩ := hel2 i hi
          match cs, hcl with
          | [v], _ =>
            have hv : ∃ sa sn sc, v = .slice sa sn sc := by
              rcases DataW.trod_slice T.s htr with ⟨h1, -⟩ | ⟨x0', len, cap, elems, rest, m', -, h1, -⟩
              · simp at h1; exact ⟨_, _, _, h1⟩
              · simp at h1; exact ⟨_, _, _, h1⟩
            obtain ⟨sa, sn, sc, rfl⟩ := hv
            obtain ⟨r, h1, h2, h3, h4⟩ := IH m (by omega) sa sn sc _ _ htr (hq2 i hi)
            subst h2
            have h5 := hcc 0 (by simp)
            simp at h5
            exact ⟨r, ⟨sa, _, sc, h5, h1⟩, h3, h4⟩)
        refine ⟨l, rows_of_at l b' o' hb' (fun i hi => (hl2 i hi).1), by omega, fun r hr => ?_, by have := Nat.mul_le_mul_right 24 (Nat.le_add_right el.length sp.length); omega⟩
        obtain ⟨i, hi, rfl⟩ := List.getElem_of_mem hr
        exact (hl2 i hi).2
    obtain ⟨l, hrow, rfl, hfine, hl24⟩ := hrow
    have hR : reachBytes = 140737488351232 := rfl
    refine ⟨.mk un iv fv bv sv.data.toList l, ?_, ?_, ?_, ?_⟩
    · simp only [FldIn]
      exact ⟨hb, c0, c1, c2, c3, ⟨sv, rfl, c4⟩, ra, _, rc, c5, hrow⟩
    · exact .mk (by omega) (by omega) (by omega) bf (by rw [Array.length_toList]; have : sv.data.size = sv.size := rfl; omega) (by omega) (fun r hr y hy => ((hfine r hr).1 y hy).1)
    · exact .mk (by rw [Array.length_toList]; have : sv.data.size = sv.size := rfl; omega) (fun r hr y hy => ((hfine r hr).1 y hy).2.1)
    · exact .mk (by omega) (fun r hr => by have := (hfine r hr).2; omega) (fun r hr y hy => ((hfine r hr).1 y hy).2.2)

theorem open_flds (T : FldTypes P tS tE tR tU tI tF tB tT) : ∀ (fuel : Nat) (a : Option Addr) (n c : Nat) (d : DataW H) (ps : List MemPlace), DataW.trod enc P w 0 spare held fuel tS [.slice a n c] = some (d, ps) → (∀ x ∈ d.weights P tS, x ≤ reachBytes) →
      ∃ fs : List Fld, FldsIn w w.heap.size fs a fs.length ∧ n = fs.length ∧ (∀ y ∈ fs, Fine y) ∧ fs.length * 72 ≤ reachBytes := by
  intro fuel
  induction fuel using Nat.strongRecOn with
  | _ fuel ih =>
    intro a n c d ps h hw
    rcases open_slice (k := 6) T.s T.cE (by omega) h with h0 | ⟨m, b, o, el, sp, rfl, rfl, hb, he, hel, hel2⟩
    · exact ⟨[], by simp [FldsIn], h0, by simp, by simp⟩
    · simp only [] at he
      rw [he] at hw
      obtain ⟨hq, hq2⟩ := weights_elem T.s hw
      rw [T.bE] at hq
      obtain ⟨l, hl, hl2⟩ := list_of (Q := fun i (x : Fld) => FldIn w w.heap.size x b (o + i * 6) ∧ Fine x) el.length (fun i hi => by
        obtain ⟨cs, ps', hcl, hcc, htr⟩ := hel2 i hi
        exact open_fld T m (fun m' hm' => ih m' (by omega)) b (o + i * 6) cs _ _ hb hcc htr (hq2 i hi))
      refine ⟨l, flds_of_at l b o (fun i hi => (hl2 i hi).1), by omega, fun y hy => ?_, by have := Nat.mul_le_mul_right 72 (Nat.le_add_right el.length sp.length); omega⟩
      obtain ⟨i, hi, rfl⟩ := List.getElem_of_mem hy
      exact (hl2 i hi).2
end
end Go.Wq
