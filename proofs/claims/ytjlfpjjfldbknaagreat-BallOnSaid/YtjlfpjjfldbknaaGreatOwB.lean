/- Rows that a call owns: one element more at the end. -/
import Derived.Test.YtjlfpjjfldbknaaGreatNgV
namespace Go.Ow
open Go.RowKit Go.Lib
set_option linter.unusedVariables false
set_option linter.unusedSimpArgs false

theorem own_append {P : Program} {w : World} {base k bytes n vb : Nat} {T TS : TypeId} {v : Value} {z : Value} {xs vs : List Value} (hu : P.underlying TS = some (.slice T)) (hinfo : (P.info? T).map (fun i => (i.zero, i.size, i.bytes)) = some (some z, k, bytes)) (hz : z.cells.size = k)
    (hown : Own w base T k v n xs) (hb : base ≤ w.heap.size) (hvb : w.heap[vb]? = some (.cells vs.toArray T (0, 0))) (hvl : vs.length = k) (h1v : ∀ v ∈ vs, v.oneCell' = true) (hfit : (n + 1) * bytes ≤ 140737488355328) (hn : n < 4611686018427387904) :
    ∃ v' w', (∀ ty, (Builtin.append_ #[TS, TS] ty #[v, .slice (some ⟨vb, 0, none⟩) 1 1]).run P w = .ok v' w') ∧ Own w' base T k v' (n + 1) (xs ++ vs) ∧ Wr base T w w' := by
  have hxl := hown.len
  obtain ⟨i0, hi0, hz0, hzs, hzb⟩ := info_parts hinfo
  have hvr : ∀ j u, vs[j]? = some u → w.cell? ⟨vb, j, none⟩ = some u := fun j u hj => by rw [cell_of_row w vb j _ _ (0, 0) hvb]; simpa using hj
  have hsrc : Src P k TS (.slice (some ⟨vb, 0, none⟩) 1 1) 1 vs w := Src.ofSlice w hu ⟨vb, 0, none⟩ 1 1 vs (by rw [hvl, Nat.one_mul]) (fun j u hj => by rw [Addr.add_lit, Nat.zero_add]; exact hvr j u hj) h1v
  have hml : n + 1 ≤ maxLen := by unfold maxLen; omega
  have GROW : ∀ (a : Option Addr) (c : Nat), v = .slice a n c → c < n + 1 → (Builtin.firstCells i0.size n (.slice a n c)).run P w.drew = .ok xs.toArray w.drew → ∃ v' w', (∀ ty, (Builtin.append_ #[TS, TS] ty #[v, .slice (some ⟨vb, 0, none⟩) 1 1]).run P w = .ok v' w') ∧ Own w' base T k v' (n + 1) (xs ++ vs) ∧ Wr base T w w' := fun a c hv hc hold => by
    subst hv
    exact ⟨_, _, fun ty => run_append_grow_src w TS TS ty T i0 _ hu hi0 hz0 a n c xs hold _ 1 vs (by rw [hzs]; exact hsrc) hc (by unfold maxLen at hml; omega) (by rw [hzb]; exact growslice_fits hc hfit),
      own_grown hb hxl hvl hz (grownCap_ge w _ _ _) (grownCap_le_maxLen w _ _ _ hml), Wr.alloc _⟩
  rcases hown with ⟨rfl, rfl, a, rfl⟩ | ⟨g, cap, cur, rfl, hbg, hg, hnc, hcm, hcs, hx⟩
  · exact GROW a 0 rfl (by omega) (by
      rw [hzs]
      cases a with
      | none => exact run_firstCells_none w.drew k 0 0 0
      | some a => exact run_firstCells_some w.drew k 0 a 0 0 [] (by simp) (fun j v hj => by simp at hj))
  · by_cases hroom : n + 1 ≤ cap
    · have hnk : n * k + k ≤ cap * k := by rw [← Nat.succ_mul]; exact Nat.mul_le_mul_right _ hroom
      have hdr : xs.drop (n * k) = [] := List.drop_of_length_le (by omega)
      have htk : xs.take (n * k) = xs := List.take_of_length_le (by omega)
      have HS := own_shift (i := n) (w := w) (w1 := w) (w2 := w.setCells g (n * k) vs) hbg hg hcs hcm hx (Nat.le_refl n) hvl hroom (by rw [hdr]; rfl) rfl
      rw [htk, hdr, List.append_nil] at HS
      refine ⟨_, _, fun ty => ?_, HS.1, HS.2⟩
      have h := run_append_room_src (P := P) w TS TS ty T i0 hu hi0 g 0 n cap (.slice (some ⟨vb, 0, none⟩) 1 1) 1 vs (by rw [hzs]; exact hsrc) hroom
        (fun j hj => by rw [hzs, cell_of_row w g _ cur _ (0, 0) hg, Array.getElem?_eq_getElem (by omega)]; rfl) (fun j _ => frozen_of_row w g _ cur _ hg)
      rw [hzs, Nat.zero_add] at h
      exact h
    · exact GROW _ cap rfl (by omega) (by
        rw [hzs]
        exact run_firstCells_some w.drew k n ⟨g, 0, none⟩ n cap xs hxl (fun j v hj => by
          rw [Addr.add_lit, Nat.zero_add]
          show w.cell? _ = _
          rw [cell_of_row w g j cur _ (0, 0) hg, ← Array.getElem?_toList]
          rw [← hx, List.getElem?_take] at hj
          split at hj
          · exact hj
          · cases hj))
theorem step_append_r {P : Program} {ops : Array Oper} {o : Oper} {a : Act} {w : World} {K : Act → World → Prop} {Q : Exit → Act → World → Prop} {E : Prop}
    (hg : o.guard = none) (d x : Operand) (dT sT : TypeId) (hop : o.op = Op.call { callee := Callee.builtin Builtin.append, args := #[d, x], argTypes := #[dT, sT] })
    (v u : Value) (hd : a.eval d = v) (hx : a.eval x = u) {v' : Value} {w' : World} (hr : (Builtin.append_ #[dT, sT] o.type #[v, u]).run P w = .ok v' w') (hK : K (a.put o.dst v') w') :
    if Region.wanted o (yielded ops a.tmps) = true then Oper.wp P o a w K Q else E := by
  have hw : Region.wanted o (yielded ops a.tmps) = true := by simp [Region.wanted, hg]
  rw [if_pos hw]
  unfold Oper.wp
  simp [execOp, hop, resolve, invoke, builtin, hd, hx, hr, Result.andThen]
  exact hK
end Go.Ow
