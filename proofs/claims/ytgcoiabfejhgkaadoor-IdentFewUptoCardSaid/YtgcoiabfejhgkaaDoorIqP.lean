/- append(out, xs...) where out is the call's own and xs whatever slice of integers: nil, empty, or not. -/
import Derived.Test.YtgcoiabfejhgkaaDoorIqS
import Derived.Laws.AppendOwn
import Derived.Laws.AppendOwnNone
namespace Go.Iq
open Go.RowKit Go.Sort Go.Lib

theorem ints_cells {w : World} {x : Addr} {len : Nat} {zs : List Int} (h : IsInts w (some x) len zs) : ∀ j u, (zs.map (Value.int .i64))[j]? = some u → w.cell? (x.add j) = some u := by
  intro j u hj
  have hjl : j < zs.length := by
    rcases Nat.lt_or_ge j zs.length with h | h
    · exact h
    · rw [List.getElem?_eq_none (by simpa using h)] at hj; cases hj
  obtain ⟨b, off, hx, hc⟩ := h.2 (by rw [← h.1]; omega)
  cases hx
  have := hc j (by rw [← h.1]; exact hjl)
  rw [show (⟨b, off, none⟩ : Addr).add j = ⟨b, off + j, none⟩ by unfold Addr.add; split <;> simp_all, this]
  rw [List.getElem?_map, List.getElem?_eq_getElem hjl, Option.map_some] at hj
  rw [← hj, getD_get zs j 0 hjl]

theorem wpList_append_ints {P : Program} (w : World) {ops : Array Oper} {rest : List Oper} {o : Oper} {act : Act} {Q : Exit → Act → World → Prop} (hgd : o.guard = none) (s x : Operand) (t : TypeId)
    (ho : o.op = .call { callee := .builtin .append, args := #[s, x], argTypes := #[t, t] })
    (base : Nat) (e : TypeId) (i : TypeInfo) (ht : P.underlying t = some (.slice e)) (hi : P.info? e = some i) (hz : i.zero = some (.int .i64 0)) (hsize : i.size = 1) (hby : i.bytes = 8)
    (v : Value) (n : Nat) (xs : List Int) (hs : act.eval s = v) (hown : w.ownsRow base e 1 v n (xs.map (Value.int .i64)))
    (a : Option Addr) (len cap : Nat) (zs : List Int) (hx : act.eval x = .slice a len cap) (hI : IsInts w a len zs) (hn : a = none → cap = 0)
    (h63 : n + len ≤ maxLen) (h47 : (n + len) * 8 ≤ 140737488355328) (hbase : base ≤ w.heap.size)
    (h : ∀ v' w', w'.ownsRow base e 1 v' (n + len) ((xs ++ zs).map (Value.int .i64)) → w.grownBy w' v.ownBlock → wpList P ops Q rest (act.put o.dst v') w') : wpList P ops Q (o :: rest) act w := by
  cases a with
  | none =>
    have h0 : len = 0 := by
      rcases Nat.eq_zero_or_pos len with h | h
      · exact h
      · obtain ⟨b, off, h1, _⟩ := hI.2 h; cases h1
    obtain rfl := hn rfl
    subst h0
    have hzn : zs = [] := List.eq_nil_of_length_eq_zero hI.1
    subst hzn
    refine wpList_append_own_none hgd s x t ho base e i 1 ht hi v n _ hs hown hx ?_
    exact h v w (by simpa using hown) ⟨rfl, rfl, rfl, Nat.le_refl _, fun _ _ _ => rfl⟩
  | some ad =>
    refine wpList_append_own w hgd s x t ho base e i (.int .i64 0) 1 8 ht hi hz hsize hby rfl (by decide) v n _ hs hown ad len cap (zs.map (Value.int .i64)) hx (by rw [List.length_map, hI.1, Nat.mul_one]) (ints_cells hI) (by intro u hu; obtain ⟨z, _, rfl⟩ := List.mem_map.1 hu; rfl) h63 h47 hbase ?_
    intro v' w' h1 h2 _
    exact h v' w' (by rw [List.map_append]; exact h1) h2
end Go.Iq
