/- Slices of structs that come in (from the texts on wire and message). -/
import Derived.WalkKit
import Derived.Below
import Derived.ChangeReads
import Derived.SizedLaws
import Derived.OpenShut
namespace Go.Np
open Go.RowKit
set_option linter.unusedVariables false
set_option linter.unusedSimpArgs false
theorem mapM_at {α β : Type} {f : α → Option β} : ∀ {l : List α} {r : List β}, l.mapM f = some r → r.length = l.length ∧ ∀ i (h : i < l.length) (h' : i < r.length), f l[i] = some r[i] := by
  intro l
  induction l with
  | nil =>
    intro r h
    have : r = [] := by simpa using h.symm
    subst this
    exact ⟨rfl, fun i h => by simp at h⟩
  | cons x l ih =>
    intro r h
    rw [List.mapM_cons] at h
    cases hx : f x with
    | none => simp [hx] at h
    | some y =>
      cases hl : l.mapM f with
      | none => simp [hx, hl] at h
      | some ys =>
        simp [hx, hl] at h
        subst h
        obtain ⟨h1, h2⟩ := ih hl
        refine ⟨by simp [h1], fun i hi hi' => ?_⟩
        cases i with
        | zero => simpa using hx
        | succ i => simpa using h2 i (by simpa using hi) (by simpa using hi')

theorem cells_at {w : World} {a : Addr} {k : Nat} {cs : List Value} (h : w.cells? 0 a k = some cs) : cs.length = k ∧ ∀ i (hi : i < cs.length), w.cell? (a.add i) = some cs[i] := by
  unfold World.cells? at h
  rw [if_pos (Nat.zero_le _)] at h
  obtain ⟨h1, h2⟩ := mapM_at h
  rw [List.length_range] at h1
  refine ⟨h1, fun i hi => ?_⟩
  have := h2 i (by simpa [h1] using hi) hi
  simpa using this
theorem add_none (b o i : Nat) : (⟨b, o, none⟩ : Addr).add i = ⟨b, o + i, none⟩ := by
  unfold Addr.add
  split
  · rename_i h; subst h; rfl
  · rfl
theorem add_zero (a : Addr) : a.add 0 = a := by unfold Addr.add; simp


theorem list_of {α : Type} {Q : Nat → α → Prop} : ∀ (n : Nat), (∀ i, i < n → ∃ x, Q i x) → ∃ l : List α, l.length = n ∧ ∀ i (h : i < l.length), Q i l[i] := by
  intro n
  induction n with
  | zero => exact fun _ => ⟨[], rfl, fun i h => by simp at h⟩
  | succ n ih =>
    intro h
    obtain ⟨l, h1, h2⟩ := ih (fun i hi => h i (by omega))
    obtain ⟨x, hx⟩ := h n (by omega)
    refine ⟨l ++ [x], by simp [h1], fun i hi => ?_⟩
    by_cases hl : i < l.length
    · rw [List.getElem_append_left hl]; exact h2 i hl
    · have : i = n := by simp at hi; omega
      subst this
      rw [List.getElem_append_right (by omega)]
      simpa using hx

theorem trod_float {H : Type} {enc : TypeId × Value → H} {P : Program} {w : World} {base : Nat} {spare : Nat → Bool} {held : Bool} {fuel t : Nat} {cs : List Value} {x : DataW H × List MemPlace} {k : FloatKind} (ht : P.underlying t = some (.float k))
    (h : DataW.trod enc P w base spare held fuel t cs = some x) : ∃ n, cs = [.float k n] ∧ x = (.lit (.float k n), []) ∧ (Lit.float k n).wf = true := by
  cases fuel with
  | zero => simp [DataW.trod] at h
  | succ n =>
    unfold DataW.trod at h
    rw [ht] at h
    split at h <;> simp_all

theorem spot_of {w : World} {x : Addr} {v : Value} (h : w.cell? x = some v) : ∃ b o, x = ⟨b, o, none⟩ ∧ b < w.heap.size := by
  obtain ⟨b, o, sp⟩ := x
  have hsp : sp = none := World.cell?_spot h
  subst hsp
  refine ⟨b, o, rfl, ?_⟩
  rcases Nat.lt_or_ge b w.heap.size with g | g
  · exact g
  · have : w.heap[b]? = none := by simp [g]
    simp [World.cell?, this] at h

section
variable {H : Type} {enc : TypeId × Value → H} {P : Program} {w : World} {spare : Nat → Bool} {held : Bool} {tS tE tR tU tI tF tB tT : TypeId}
/-- The elements of a slice that is read. -/
theorem open_slice {fuel t e k : Nat} {a : Option Addr} {n c : Nat} {x : DataW H × List MemPlace} (ht : P.underlying t = some (.slice e)) (hk : P.cellsOf e = k) (hk0 : 0 < k) (h : DataW.trod enc P w 0 spare held fuel t [.slice a n c] = some x) :
    n = 0 ∨ ∃ m b o el sp, fuel = m + 1 ∧ a = some ⟨b, o, none⟩ ∧ b < w.heap.size ∧ x.1 = .slice el sp ∧ el.length = n ∧
      ∀ i (hi : i < el.length), ∃ cs ps', cs.length = k ∧ (∀ j (hj : j < cs.length), w.cell? ⟨b, o + i * k + j, none⟩ = some cs[j]) ∧ DataW.trod enc P w 0 spare held m e cs = some (el[i], ps') := by
  rcases DataW.trod_slice ht h with ⟨h1, h2⟩ | ⟨x0, len, cap, elems, rest, m, rfl, hcs, rfl, -, hlc, hcm, hel, hat, -, -⟩
  · left; simp at h1; exact h1.2.1
  · simp only [List.cons.injEq, Value.slice.injEq, and_true] at hcs
    obtain ⟨rfl, rfl, rfl⟩ := hcs
    by_cases hn : n = 0
    · exact Or.inl hn
    · right
      rw [hk] at hat
      have hgo : ∀ i (hi : i < elems.length), ∃ cs, w.cells? 0 (x0.add (i * k)) k = some cs ∧ DataW.trod enc P w 0 spare held m e cs = some elems[i] := fun i hi => by
        have := hat i (by omega)
        rw [List.getElem?_eq_getElem hi, Option.bind_eq_some_iff] at this
        exact this
      obtain ⟨cs0, hc0, -⟩ := hgo 0 (by omega)
      obtain ⟨g1, g2⟩ := cells_at hc0
      have g3 := g2 0 (by omega)
      rw [Nat.zero_mul, add_zero, add_zero] at g3
      obtain ⟨b, o, rfl, hb⟩ := spot_of g3
      refine ⟨m, b, o, elems.map (·.1), rest.map (·.1), rfl, rfl, hb, rfl, by simpa using hel, fun i hi => ?_⟩
      rw [List.length_map] at hi
      obtain ⟨cs, hc1, hc2⟩ := hgo i hi
      obtain ⟨g4, g5⟩ := cells_at hc1
      refine ⟨cs, (elems[i]).2, g4, fun j hj => ?_, by rw [hc2, List.getElem_map]⟩
      have := g5 j hj
      rw [add_none, add_none] at this
      exact this

theorem weights_all {e : TypeId} : ∀ {l : List (DataW H)} {i : Nat} (hi : i < l.length), ∀ n ∈ (l[i]).weights P e, n ∈ DataW.weightsAll P e l
  | d :: r, 0, hi, n, hn => by simp only [DataW.weightsAll, List.mem_append]; exact Or.inl hn
  | d :: r, i + 1, hi, n, hn => by simp only [DataW.weightsAll, List.mem_append]; exact Or.inr (weights_all (by simpa using hi) n (by simpa using hn))
theorem weights_elem {t e : TypeId} (ht : P.underlying t = some (.slice e)) {el sp : List (DataW H)} {Q : Nat → Prop} (h : ∀ n ∈ (DataW.slice el sp).weights P t, Q n) : Q ((el.length + sp.length) * P.bytesOf e) ∧ ∀ i (hi : i < el.length), ∀ n ∈ (el[i]).weights P e, Q n := by
  simp only [DataW.weights, ht, List.mem_cons, List.mem_append] at h
  exact ⟨h _ (Or.inl rfl), fun i hi n hn => h n (Or.inr (Or.inl (weights_all hi n hn)))⟩

end
/-- A struct of these fields (type and offset). -/
def St (P : Program) (t : TypeId) (ps : List (TypeId × Nat)) : Prop := ∃ fs : Array Field, P.underlying t = some (.struct fs) ∧ fs.toList.map (fun f => (f.type, f.offset)) = ps
theorem St.opens {H : Type} {enc : TypeId × Value → H} {P : Program} {w : World} {base fuel : Nat} {spare : Nat → Bool} {held : Bool} {t : TypeId} {ps : List (TypeId × Nat)} {cs : List Value} {d : DataW H} {q : List MemPlace} (S : St P t ps)
    (h : DataW.trod enc P w base spare held fuel t cs = some (d, q)) :
    ∃ (xs : List (DataW H × List MemPlace)) (n : Nat), fuel = n + 1 ∧ d = .agg (xs.map (·.1)) ∧ cs.length = P.cellsOf t ∧ xs.length = ps.length ∧
      (∀ i (hi : i < ps.length), DataW.trod enc P w base spare held n (ps[i]).1 ((cs.drop (ps[i]).2).take (P.cellsOf (ps[i]).1)) = xs[i]?) ∧
      ∀ Q : Nat → Prop, (∀ x ∈ d.weights P t, Q x) → ∀ i (hi : i < ps.length) y, xs[i]? = some y → ∀ x ∈ y.1.weights P (ps[i]).1, Q x := by
  obtain ⟨fs, hfs, hmap⟩ := S
  obtain ⟨xs, n, hf, hx, hcl, hxl, hat⟩ := DataW.trod_struct hfs h
  have hlen : fs.size = ps.length := by rw [← hmap]; simp
  have hd : d = .agg (xs.map (·.1)) := congrArg Prod.fst hx
  refine ⟨xs, n, hf, hd, hcl, by omega, ?_, ?_⟩
  · intro i hi
    have h1 : i < fs.size := by omega
    have h2 : (fs.toList.map (fun f => (f.type, f.offset)))[i]? = some (fs[i].type, fs[i].offset) := by simp [h1]
    rw [hmap, List.getElem?_eq_getElem hi] at h2
    have h3 := Option.some.inj h2
    have h4 := hat i fs[i] (by simp [h1])
    rw [h3]
    exact h4
  · intro Q hQ i hi y hy z hz
    subst hd
    have h1 : i < fs.size := by omega
    have h2 : (fs.toList.map (fun f => (f.type, f.offset)))[i]? = some (fs[i].type, fs[i].offset) := by simp [h1]
    rw [hmap, List.getElem?_eq_getElem hi] at h2
    have h3 := congrArg Prod.fst (Option.some.inj h2)
    refine hQ z ?_
    simp only [DataW.weights, hfs]
    refine DataW.weights_mem_each (j := i) (t := (ps[i]).1) (d := y.1) ?_ ?_ z hz
    · rw [h3]; simp [h1]
    · rw [List.getElem?_map, hy]; rfl
end Go.Np
