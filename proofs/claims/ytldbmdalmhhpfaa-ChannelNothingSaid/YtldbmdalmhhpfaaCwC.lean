/- Channel: slices.Delete of one. -/
import Derived.Test.YtldbmdalmhhpfaaCwB
namespace Go.Cw
open Go.RowKit Go.Lib Go.Ow
set_option linter.unusedVariables false
set_option linter.unusedSimpArgs false
theorem step_append_r {P : Program} {ops : Array Oper} {o : Oper} {a : Act} {w : World} {K : Act → World → Prop} {Q : Exit → Act → World → Prop} {E : Prop}
    (hg : o.guard = none) (d x : Operand) (dT sT : TypeId) (hop : o.op = Op.call { callee := Callee.builtin Builtin.append, args := #[d, x], argTypes := #[dT, sT] })
    (v u : Value) (hd : a.eval d = v) (hx : a.eval x = u) {v' : Value} {w' : World} (hr : (Builtin.append_ #[dT, sT] o.type #[v, u]).run P w = .ok v' w') (hK : K (a.put o.dst v') w') :
    if Region.wanted o (yielded ops a.tmps) = true then Oper.wp P o a w K Q else E := by
  have hw : Region.wanted o (yielded ops a.tmps) = true := by simp [Region.wanted, hg]
  rw [if_pos hw]
  unfold Oper.wp
  simp [execOp, hop, resolve, invoke, builtin, hd, hx, hr, Result.andThen]
  exact hK
/-- One taken out: what is behind it moves on, and the last one is cleared. -/
theorem rw_del {P : Program} {w : World} {r k : Nat} {T TS : TypeId} {o cap i p : Nat} {xs : List Value} (hu : P.underlying TS = some (.slice T)) {i0 : TypeInfo} (hi0 : P.info? T = some i0) (hzs : i0.size = k)
    (h : Rw w r T k (.slice (some ⟨r, o, none⟩) (p + 1) cap) (p + 1) xs) (hi : i ≤ p) (h1 : ∀ v ∈ xs, v.oneCell' = true) (A : Addr) (c : Nat) (hA : i = p ∨ A = ⟨r, o + (i + 1) * k, none⟩) (zs : List Value) (hzl : zs.length = k) :
    (∀ ty, (Builtin.append_ #[TS, TS] ty #[.slice (some ⟨r, o, none⟩) i cap, .slice (some A) (p - i) c]).run P w = .ok (.slice (some ⟨r, o, none⟩) p cap) (w.setCells r (o + i * k) (xs.drop ((i + 1) * k)))) ∧
    (w.setCells r (o + i * k) (xs.drop ((i + 1) * k))).there r (o + p * k) (1 * k) ∧
    Rw ((w.setCells r (o + i * k) (xs.drop ((i + 1) * k))).setCells r (o + p * k) zs) r T k (.slice (some ⟨r, o, none⟩) p cap) p (xs.take (i * k) ++ xs.drop ((i + 1) * k)) := by
  have hl := h.len
  have hpk : (p + 1) * k = p * k + k := Nat.succ_mul _ _
  have hik : (i + 1) * k = i * k + k := Nat.succ_mul _ _
  have hikp : i * k ≤ p * k := Nat.mul_le_mul_right k hi
  have hdl : (xs.drop ((i + 1) * k)).length = (p - i) * k := by
    rw [List.length_drop, hl, hpk, hik, Nat.sub_mul]; omega
  have hpi : (p - i) * k = p * k - i * k := Nat.sub_mul _ _ _
  obtain ⟨o2, cap2, e, hc, hlow, ⟨cur, hcur⟩, hra, hth, hm⟩ := h.at (by omega)
  simp only [Value.slice.injEq, Option.some.injEq, Addr.mk.injEq, and_true, true_and] at e
  obtain ⟨rfl, rfl⟩ := e
  have hov := h.over (by omega) (i * k) (xs.drop ((i + 1) * k)) (by rw [hdl]; omega)
  refine ⟨fun ty => ?_, ?_, ?_⟩
  · have hsrc : Src P k TS (.slice (some A) (p - i) c) (p - i) (xs.drop ((i + 1) * k)) w := Src.ofSlice w hu A (p - i) c _ hdl (fun j u hj => by
      rcases hA with rfl | rfl
      · rw [Nat.sub_self, Nat.zero_mul] at hdl
        rw [List.length_eq_zero_iff.1 hdl] at hj; simp at hj
      · rw [Addr.add_lit, Nat.add_assoc]
        rw [List.getElem?_drop] at hj
        exact hra _ u hj) (fun v hv => h1 v (List.mem_of_mem_drop hv))
    have h := run_append_room_src (P := P) w TS TS ty T i0 hu hi0 r o i cap (.slice (some A) (p - i) c) (p - i) _ (by rw [hzs]; exact hsrc) (by omega)
      (fun j hj => by rw [hzs, Nat.add_assoc]; exact (hth _ (by rw [hdl] at hj; omega)).1) (fun j hj => by rw [hzs, Nat.add_assoc]; exact (hth _ (by rw [hdl] at hj; omega)).2)
    rw [hzs, show i + (p - i) = p by omega] at h
    exact h
  · intro j hj
    rw [Nat.one_mul] at hj
    rw [Nat.add_assoc]
    exact World.there_setCells hth _ _ _ _ (by omega)
  · have hov2 := (hov.over (by omega) (p * k) zs (by rw [hzl]; omega)).left (by omega) (Nat.le_succ p)
    have e : ((List.take (p * k) (List.take (i * k) xs ++ List.drop ((i + 1) * k) xs ++ List.drop (i * k + (List.drop ((i + 1) * k) xs).length) xs) ++ zs ++ List.drop (p * k + zs.length) (List.take (i * k) xs ++ List.drop ((i + 1) * k) xs ++ List.drop (i * k + (List.drop ((i + 1) * k) xs).length) xs)).take (p * k)) = xs.take (i * k) ++ xs.drop ((i + 1) * k) := by
      have hll : (List.take (i * k) xs ++ List.drop ((i + 1) * k) xs).length = p * k := by
        rw [List.length_append, hdl, List.length_take, hl]; omega
      rw [List.append_assoc, List.take_append_of_le_length (by rw [List.length_take, List.length_append, hll]; omega), List.take_take, Nat.min_self, List.take_append_of_le_length (by omega), List.take_of_length_le (by omega)]
    rw [e] at hov2
    exact hov2
end Go.Cw
namespace Go.Proofs.Ytldbmdalmhhpfaa
open Go.RowKit Go.Lib Go.Ow Go.Cw Go.Cq
set_option linter.unusedVariables false
set_option linter.unusedSimpArgs false
set_option maxRecDepth 100000

theorem row_erase (l : List Gm) (i : Nat) : gmRow (l.eraseIdx i) = (gmRow l).take (i * 4) ++ (gmRow l).drop ((i + 1) * 4) := by
  unfold gmRow
  rw [List.eraseIdx_eq_take_drop_succ, List.flatMap_append, flat_take gmC 4 gmC_len, flat_drop gmC 4 gmC_len]
theorem zero_gm (w : World) : (zeroValue 35).run Try.prog w = .ok (.agg #[.int .i64 0, .int .i64 0, .string ⟨#[]⟩, .int .i64 0]) w := by rfl
set_option maxHeartbeats 8000000 in
theorem gmDelete_any (w : World) (r o cap i p : Nat) (l : List Gm) (hl : l.length = p + 1) (h : Rw w r 35 4 (.slice (some ⟨r, o, none⟩) (p + 1) cap) (p + 1) (gmRow l)) (hi : i ≤ p) (hn : p < 65536) :
    Calls Try.prog 47 #[.slice (some ⟨r, o, none⟩) (p + 1) cap, .int .i64 (i : Int), .int .i64 ((i : Int) + 1)] w fun e w' => e = .returned (.slice (some ⟨r, o, none⟩) p cap) ∧ Rw w' r 35 4 (.slice (some ⟨r, o, none⟩) p cap) p (gmRow (l.eraseIdx i)) ∧ Xr r r w w' := by
  obtain ⟨i0, hi0, hz0, hzs, hzb⟩ := info_parts gmInfo
  have hcp : p + 1 ≤ cap := by
    obtain ⟨o2, cap2, e, hc, -⟩ := h.at (by omega)
    simp only [Value.slice.injEq] at e
    omega
  have hw : Rw w.drew r 35 4 (.slice (some ⟨r, o, none⟩) (p + 1) cap) (p + 1) (gmRow l) := h
  obtain ⟨A, hA1, hA2⟩ : ∃ A : Addr, (i = p ∨ A = ⟨r, o + (i + 1) * 4, none⟩) ∧ (if cap = i + 1 then (some ⟨r, o, none⟩ : Option Addr) else some ⟨r, o + (i + 1) * 4, none⟩) = some A := by
    by_cases e : cap = i + 1
    · exact ⟨⟨r, o, none⟩, Or.inl (by omega), by rw [if_pos e]⟩
    · exact ⟨_, Or.inr rfl, by rw [if_neg e]⟩
  obtain ⟨hr1, hth, hfin⟩ := rw_del (P := Try.prog) (TS := 22) (zs := (Builtin.zeroCells #[.int .i64 0, .int .i64 0, .string ⟨#[]⟩, .int .i64 0] 1).toList) Try.underlying22 hi0 hzs hw hi (gmRow_one l) A (cap - (i + 1)) hA1 (by rw [Array.length_toList, zero_size]; rfl)
  rw [← row_erase] at hfin
  have hxr : Xr r r w (((w.drew.setCells r (o + i * 4) ((gmRow l).drop ((i + 1) * 4))).setCells r (o + p * 4) (Builtin.zeroCells #[.int .i64 0, .int .i64 0, .string ⟨#[]⟩, .int .i64 0] 1).toList)) := (((Xr.refl r r w).drew).setCells (Or.inl rfl) _).setCells (Or.inl rfl) _
  obtain ⟨W1, hW1⟩ : ∃ W1, W1 = w.drew.setCells r (o + i * 4) ((gmRow l).drop ((i + 1) * 4)) := ⟨_, rfl⟩
  rw [← hW1] at hr1 hth hfin hxr
  have hcl := fun ty c => run_clear_k (P := Try.prog) W1 22 35 ty (.agg #[.int .i64 0, .int .i64 0, .string ⟨#[]⟩, .int .i64 0]) 4 Try.underlying22 zero_gm rfl (by intro v hv; simp only [Value.cells, List.mem_toArray, List.mem_cons, List.not_mem_nil, or_false, Array.mem_def] at hv; rcases hv with rfl | rfl | rfl | rfl <;> rfl) r (o + p * 4) 1 c (by omega) hth
  have HR := Lib.hid hr1
  have HF := Lib.hid hfin
  have HX := Lib.hid hxr
  have HCL := Lib.hid hcl
  have HA := Lib.hid hA2
  clear h hw hr1 hth hfin hxr hcl hW1 hA1 hA2 hi0 hz0 hzs hzb
  have b1 : (0 : Int) ≤ (i : Int) := by omega
  have b2 : (i : Int) ≤ (i : Int) + 1 := by omega
  have b3 : (i : Int) + 1 ≤ (p : Int) + 1 := by omega
  have b4 : (p : Int) + 1 ≤ (cap : Int) := by omega
  have b5 : ((i : Int) == (i : Int) + 1) = false := by simp; omega
  have b6 : ((i : Int) + 1).toNat = i + 1 := by omega
  have b7 : (0 : Int) ≤ (i : Int) + 1 := by omega
  have b8 : (i : Int) ≤ (cap : Int) := by omega
  have b9 : (p : Int) ≤ (p : Int) + 1 := by omega
  have b10 : ((p : Int) + 1).toNat = p + 1 := by omega
  have b11 : ¬ (cap = p) := by omega
  have b12 : p + 1 - p = 1 := by omega
  have b13 : (0 : Int) ≤ (p : Int) := by omega
  have b14 : (0 : Int) ≤ (p : Int) + 1 := by omega
  have b15 : (p : Int) ≤ (cap : Int) := by omega
  have b16 : p + 1 - (i + 1) = p - i := by omega
  go_enter Try.func47, Try.ntmps47
  go_upto_region 5 with (fail)
  go_region_law (refine step_append_r rfl _ _ 22 22 rfl (.slice (some ⟨r, o, none⟩) i cap) (.slice (some A) (p - i) (cap - (i + 1))) (by simp [Act.eval, Act.put]) (by simp [Act.eval, Act.put, HA.out]) (HR.out _) ?_)
  have hcl := HCL.out
  go_wp2_with fail
  · go_ret
    have e : cap = i + 1 := by assumption
    have h2 := HF.out
    rw [e] at h2
    exact ⟨rfl, h2, HX.out⟩
  · go_ret
    exact ⟨rfl, HF.out, HX.out⟩
end Go.Proofs.Ytldbmdalmhhpfaa
