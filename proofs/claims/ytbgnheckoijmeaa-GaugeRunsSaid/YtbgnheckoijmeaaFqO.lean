/- append(out, xs...) where out is the call's own and xs whatever slice of floats: nil, empty, or not. -/
import Derived.Test.YtbgnheckoijmeaaFqS
import Derived.Test.YtbgnheckoijmeaaIqS
import Derived.Laws.AppendOwn
import Derived.Laws.AppendOwnNone
namespace Go.Fq
open Go.RowKit Go.Sort Go.Lib Go.Iq

theorem IsFloats.below {w w' : World} {a : Option Addr} {len : Nat} {zs : List Nat} (h : IsFloats w a len zs) (hb : Below w.heap.size w w') : IsFloats w' a len zs := by
  refine ⟨h.1, h.2.1, fun hp => ?_⟩
  obtain ⟨b, off, ha, hc⟩ := h.2.2 hp
  refine ⟨b, off, ha, fun i hi => ?_⟩
  have := hc i hi
  rw [← this]
  exact hb.cell (p := ⟨b, off + i, none⟩) (block_lt this)

theorem floats_cells {w : World} {x : Addr} {len : Nat} {zs : List Nat} (h : IsFloats w (some x) len zs) : ∀ j u, (zs.map (Value.float .f64))[j]? = some u → w.cell? (x.add j) = some u := by
  intro j u hj
  have hjl : j < zs.length := by
    rcases Nat.lt_or_ge j zs.length with h | h
    · exact h
    · rw [List.getElem?_eq_none (by simpa using h)] at hj; cases hj
  obtain ⟨b, off, hx, hc⟩ := h.2.2 (by rw [← h.1]; omega)
  cases hx
  have := hc j (by rw [← h.1]; exact hjl)
  rw [show (⟨b, off, none⟩ : Addr).add j = ⟨b, off + j, none⟩ by unfold Addr.add; split <;> simp_all, this]
  rw [List.getElem?_map, List.getElem?_eq_getElem hjl, Option.map_some] at hj
  rw [← hj, List.getD_eq_getElem?_getD, List.getElem?_eq_getElem hjl, Option.getD_some]

theorem wpList_append_floats {P : Program} (w : World) {ops : Array Oper} {rest : List Oper} {o : Oper} {act : Act} {Q : Exit → Act → World → Prop} (hgd : o.guard = none) (s x : Operand) (t : TypeId)
    (ho : o.op = .call { callee := .builtin .append, args := #[s, x], argTypes := #[t, t] })
    (base : Nat) (e : TypeId) (i : TypeInfo) (ht : P.underlying t = some (.slice e)) (hi : P.info? e = some i) (hz : i.zero = some (.float .f64 0)) (hsize : i.size = 1) (hby : i.bytes = 8)
    (v : Value) (n : Nat) (xs : List Nat) (hs : act.eval s = v) (hown : w.ownsRow base e 1 v n (xs.map (Value.float .f64)))
    (a : Option Addr) (len cap : Nat) (zs : List Nat) (hx : act.eval x = .slice a len cap) (hI : IsFloats w a len zs) (hn : a = none → cap = 0)
    (h63 : n + len ≤ maxLen) (h47 : (n + len) * 8 ≤ 140737488355328) (hbase : base ≤ w.heap.size)
    (h : ∀ v' w', w'.ownsRow base e 1 v' (n + len) ((xs ++ zs).map (Value.float .f64)) → w.grownBy w' v.ownBlock → wpList P ops Q rest (act.put o.dst v') w') : wpList P ops Q (o :: rest) act w := by
  cases a with
  | none =>
    have h0 : len = 0 := by
      rcases Nat.eq_zero_or_pos len with h | h
      · exact h
      · obtain ⟨b, off, h1, _⟩ := hI.2.2 h; cases h1
    obtain rfl := hn rfl
    subst h0
    have hzn : zs = [] := List.eq_nil_of_length_eq_zero hI.1
    subst hzn
    refine wpList_append_own_none hgd s x t ho base e i 1 ht hi v n _ hs hown hx ?_
    exact h v w (by simpa using hown) ⟨rfl, rfl, rfl, Nat.le_refl _, fun _ _ _ => rfl⟩
  | some ad =>
    refine wpList_append_own w hgd s x t ho base e i (.float .f64 0) 1 8 ht hi hz hsize hby rfl (by decide) v n _ hs hown ad len cap (zs.map (Value.float .f64)) hx (by rw [List.length_map, hI.1, Nat.mul_one]) (floats_cells hI) (by intro u hu; obtain ⟨z, _, rfl⟩ := List.mem_map.1 hu; rfl) h63 h47 hbase ?_
    intro v' w' h1 h2 _
    exact h v' w' (by rw [List.map_append]; exact h1) h2

/-- A row of floats that the call owns, as it is read. -/
theorem floats_of_own {w : World} {base : Nat} {e : TypeId} {v : Value} {n : Nat} {zs : List Nat} (h : w.ownsRow base e 1 v n (zs.map (Value.float .f64))) (hz : ∀ z ∈ zs, z < 2 ^ 64) :
    ∃ a cap, v = .slice a n cap ∧ n ≤ cap ∧ IsFloats w a n zs ∧ (a = none → cap = 0) := by
  have hl : zs.length = n := by simpa using h.1
  by_cases hv : v = .slice none 0 0
  · rcases h.2 with ⟨_, h0⟩ | ⟨g, cap, cur, e0, _⟩
    · subst h0
      exact ⟨none, 0, hv, Nat.le_refl _, ⟨hl, hz, fun h => absurd h (by omega)⟩, fun _ => rfl⟩
    · rw [hv] at e0; cases e0
  · obtain ⟨g, cap, rfl, _, _, h1, _, _, hH⟩ := holds_of_ownsRow h hv
    refine ⟨_, cap, rfl, h1, ⟨hl, hz, fun _ => ⟨g, 0, rfl, fun i hi => ?_⟩⟩, fun h => by cases h⟩
    have := (hH i (by simpa [hl] using hi)).1
    rw [this]
    have hi' : i < zs.length := by omega
    simp [getElem!_pos, hi', List.getD]
/-- A nil slice that came in has no room. -/
theorem none_capF {H : Type} {enc : TypeId × Value → H} {P : Program} {w : World} {spare : Nat → Bool} {held : Bool} {t e : TypeId} {a : Option Addr} {n c : Nat} {d : DataW H} {ps : List MemPlace} (ht : P.underlying t = some (.slice e))
    (h : DataW.Trod enc P w 0 spare held t (.slice a n c) d ps) : a = none → c = 0 := by
  rintro rfl
  obtain ⟨fuel, hf⟩ := h
  rcases DataW.trod_slice ht hf with ⟨h1, -⟩ | ⟨x0, len, cap, elems, rest, m, -, hcs, -⟩
  · simp [Value.cells] at h1; exact h1.2
  · simp [Value.cells] at hcs
end Go.Fq
