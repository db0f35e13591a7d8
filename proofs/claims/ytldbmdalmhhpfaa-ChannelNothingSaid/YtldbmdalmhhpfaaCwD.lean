/- Channel: what turns a flight: one more; one less. -/
import Derived.Test.YtldbmdalmhhpfaaCwC
namespace Go.Proofs.Ytldbmdalmhhpfaa
open Go.RowKit Go.Lib Go.Ow Go.Cw Go.Cq
set_option linter.unusedVariables false
set_option linter.unusedSimpArgs false
set_option maxRecDepth 100000

/-- What a call that turns a flight leaves. -/
structure Dn (w : World) (fb r : Nat) (l : List Gm) (w' : World) : Prop where
  fl : ∃ r', Fl w' fb r' l ∧ (r' = r ∨ w.heap.size ≤ r')
  xr : Xr fb r w w'
theorem Dn.same {w w' : World} {fb r : Nat} {l : List Gm} (h : Fl w fb r l) (k : Below w.heap.size w w') : Dn w fb r l w' := ⟨⟨r, h.below k, Or.inl rfl⟩, Xr.of_below k⟩
theorem Dn.open {a b c : World} {fb r : Nat} {l : List Gm} (k : Below a.heap.size a b) (h : Dn b fb r l c) : Dn a fb r l c := by
  obtain ⟨r', h1, h2⟩ := h.fl
  exact ⟨⟨r', h1, by have := k.size; omega⟩, (Xr.of_below k).trans h.xr (Or.inl rfl)⟩
theorem fl_put {W : World} {fb r2 : Nat} {v v2 : Value} {l : List Gm} (h : W.heap[fb]? = some (.cells #[.pointer (some ⟨fb, 0, none⟩), v] 55 (0, 0))) (hrow : Rw W r2 35 4 v2 l.length (gmRow l)) (hg : Cq.Good l) (hr : r2 < W.heap.size) : Fl (W.setCell ⟨fb, 1, none⟩ v2) fb r2 l := by
  refine ⟨⟨v2, ?_, hrow.keep (fun cur hc => Below.heap_setCell _ _ _ _ (fun e => ?_))⟩, hg, by simpa [World.setCell] using hr⟩
  · have := heap_setCell_same W fb 1 _ _ v2 h
    simpa using this
  · have e : r2 = fb := e
    subst e
    rw [h] at hc
    simp at hc
def AdS (V : World) (fb bx : Nat) (v : Value) (a b : Int) (s : ByteArray) (t : Int) : Prop := V.cell? ⟨fb, 0, none⟩ = some (.pointer (some ⟨fb, 0, none⟩)) ∧ V.cell? ⟨fb, 1, none⟩ = some v ∧ V.cell? ⟨bx, 0, none⟩ = some (.int .i64 a) ∧ V.cell? ⟨bx, 1, none⟩ = some (.int .i64 b) ∧ V.cell? ⟨bx, 2, none⟩ = some (.string s) ∧ V.cell? ⟨bx, 3, none⟩ = some (.int .i64 t)
set_option maxHeartbeats 8000000 in
theorem add_any (a b : Int) (s : ByteArray) (t : Int) (w : World) (fb r : Nat) (l : List Gm) (h : Fl w fb r l) (hm : mayB ⟨a, b, s, t⟩ = true) :
    Calls Try.prog 31 #[.pointer (some ⟨fb, 0, none⟩), .agg #[.int .i64 a, .int .i64 b, .string s, .int .i64 t]] w fun e w' => e = .returned (.int .i64 (putE l ⟨a, b, s, t⟩)) ∧ Dn w fb r (putL l ⟨a, b, s, t⟩) w' := by
  have hr := h.rl
  obtain ⟨v, h1, h2⟩ := h.row
  obtain ⟨va, vc, rfl⟩ := h2.slice
  obtain ⟨W1, hW1⟩ : ∃ W1, W1 = w.alloc (.cells #[.int .i64 a, .int .i64 b, .string s, .int .i64 t] 35) := ⟨_, rfl⟩
  have b1 : Below w.heap.size w W1 := by rw [hW1]; exact gAl _ _
  have r1 : W1.heap[w.heap.size]? = some (.cells #[.int .i64 a, .int .i64 b, .string s, .int .i64 t] 35 (0, 0)) := by rw [hW1]; exact heap_alloc_new w _
  obtain ⟨bx, hbx⟩ : ∃ bx, bx = w.heap.size := ⟨_, rfl⟩
  have s1 : bx < W1.heap.size := by rw [hW1, hbx]; simp
  have HBX : Hid (bx < W1.heap.size ∧ bx ≠ fb ∧ bx ≠ r) := Lib.hid ⟨s1, by have := h.low; omega, by omega⟩
  have HNR : Hid (bx ≠ r ∨ bx = r) := Lib.hid (Or.inl (by omega))
  rw [← hbx] at r1
  have HB1 := Lib.hid b1
  have HFB : Hid (∀ V, Below W1.heap.size W1 V → V.heap[fb]? = some (.cells #[.pointer (some ⟨fb, 0, none⟩), .slice va l.length vc] 55 (0, 0))) := Lib.hid (fun V hV => by
    have := (h.below b1).low
    rw [hV.block fb this, b1.block fb h.low]; exact h1)
  have HRW : Hid (∀ V, Below W1.heap.size W1 V → Rw V r 35 4 (.slice va l.length vc) l.length (gmRow l)) := Lib.hid (fun V hV => (h2.below b1).below hV)
  have HSS : Hid (∀ V, Below W1.heap.size W1 V → AdS V fb bx (.slice va l.length vc) a b s t) := Lib.hid (fun V hV => by
    obtain ⟨q0, q1, -, -⟩ := two_cells (HFB.out V hV)
    obtain ⟨p0, p1, p2, p3⟩ := four_cells ((hV.block bx s1).trans r1)
    exact ⟨q0, q1, p0, p1, p2, p3⟩)
  have HF1 := Lib.hid h
  have HGD := Lib.hid (h.good.put ⟨a, b, s, t⟩)
  have HMB := Lib.hid hm
  have HWS : Hid (W1 = w.alloc (.cells #[.int .i64 a, .int .i64 b, .string s, .int .i64 t] 35) ∧ w.heap.size = bx) := Lib.hid ⟨hW1, hbx.symm⟩
  obtain ⟨g0, g1, g2, g3, g4, g5⟩ := HSS.out W1 (Below.refl _ _)
  clear h h1 h2 hm hr b1 r1 s1 hW1 hbx
  by_cases hl : 65536 ≤ l.length
  · have hli : (65536 : Int) ≤ (l.length : Int) := by omega
    have HZ : Hid (putE l ⟨a, b, s, t⟩ = 2 ∧ putL l ⟨a, b, s, t⟩ = l) := Lib.hid (by
      have e : putE l ⟨a, b, s, t⟩ = 2 := by unfold putE; rw [if_pos HMB.out, if_pos hl]
      exact ⟨e, by unfold putL; rw [e, if_neg (by decide)]⟩)
    clear hl
    go_enter Try.func31, Try.ntmps31
    go_upto_region 1 with (fail)
    rw [← HWS.out.1, HWS.out.2]
    go_wp2_with fail
    go_ret
    exact ⟨by rw [HZ.out.1]; rfl, by rw [HZ.out.2]; exact Dn.same HF1.out HB1.out⟩
  · have hli : ¬ (65536 : Int) ≤ (l.length : Int) := by omega
    have HZ : Hid (putE l ⟨a, b, s, t⟩ = 0 ∧ putL l ⟨a, b, s, t⟩ = l ++ [⟨a, b, s, t⟩]) := Lib.hid (by
      have e : putE l ⟨a, b, s, t⟩ = 0 := by unfold putE; rw [if_pos HMB.out, if_neg hl]
      exact ⟨e, by unfold putL; rw [if_pos e]⟩)
    have HLT : Hid (l.length < 65536) := Lib.hid (by omega)
    rw [HZ.out.2] at HGD
    clear hl
    go_enter Try.func31, Try.ntmps31
    go_upto_region 1 with (fail)
    rw [← HWS.out.1, HWS.out.2]
    go_upto_region 3 with (fail)
    have C0 : Hid (Below W1.heap.size W1 W1.drew) := Lib.hid (Below.drew (Below.refl _ _))
    obtain ⟨W8, hW8⟩ : ∃ W8, W8 = W1.drew.alloc (.cells #[.int .i64 a, .int .i64 b, .string s, .int .i64 t] 35) := ⟨_, rfl⟩
    have C8 : Below W1.heap.size W1 W8 := by rw [hW8]; exact gNx C0.out (gAl _ _)
    have r8 : W8.heap[W1.heap.size]? = some (.cells (gmC ⟨a, b, s, t⟩).toArray 35 (0, 0)) := by rw [hW8]; exact heap_alloc_new W1.drew _
    obtain ⟨v2, Wn, r2, hrun, hrow, hr2, hxr, hoth⟩ := rw_app (P := Try.prog) (vb := W1.heap.size) (vs := gmC ⟨a, b, s, t⟩) Try.underlying22 gmInfo rfl (HRW.out W8 C8) r8 rfl (gmC_one _) (by have := HLT.out; omega) (by have := HLT.out; omega) fb
    obtain ⟨a2, c2, rfl⟩ := hrow.slice
    have HRN := Lib.hid hrow
    have HR2 : Hid (r2 = r ∨ W1.heap.size ≤ r2) := Lib.hid (by have := C8.size; omega)
    have HXN := Lib.hid ((Xr.of_below (p := fb) (q := r) C8).trans hxr (Or.inl rfl))
    have HFN : Hid (Wn.heap[fb]? = some (.cells #[.pointer (some ⟨fb, 0, none⟩), .slice va l.length vc] 55 (0, 0))) := Lib.hid (by rw [hoth fb _ _ _ (HFB.out W8 C8) (by decide)]; exact HFB.out W8 C8)
    obtain ⟨f0, f1, f2, f3⟩ := two_cells HFN.out
    rw [hW8] at hrun
    have HR := Lib.hid hrun
    have HDN : Hid (Dn w fb r (l ++ [⟨a, b, s, t⟩]) (Wn.setCell ⟨fb, 1, none⟩ (.slice a2 (l.length + 1) c2))) := Lib.hid (Dn.open HB1.out ⟨⟨r2, fl_put HFN.out (by rw [List.length_append, gmRow_app, gmRow_one1]; exact HRN.out) HGD.out (by obtain ⟨_, _, _, _, h9, -⟩ := HRN.out.at (by omega); exact h9), HR2.out⟩, HXN.out.setCell (Or.inl rfl) _⟩)
    clear hrun hrow hr2 hxr hoth C8 r8 hW8
    have hfb : fb < W1.heap.size := (HF1.out.below HB1.out).low
    have hbx : bx < W1.heap.size := HBX.out.1
    go_region_law (refine step_append_r rfl _ _ 22 22 rfl (.slice va l.length vc) (.slice (some ⟨W1.heap.size, 0, none⟩) 1 1) (by simp [Act.eval, Act.put]) (by simp [Act.eval, Act.put]) (HR.out _) ?_)
    all_goals
      go_wp2_with fail
      go_ret
      exact ⟨by rw [HZ.out.1]; rfl, by rw [HZ.out.2]; exact HDN.out⟩
theorem fl_ne {w : World} {fb r : Nat} {v : Value} {n : Nat} {xs : List Value} {x : Value} (h1 : w.heap[fb]? = some (.cells #[x, v] 55 (0, 0))) (h : ∃ cur, w.heap[r]? = some (.cells cur 35 (0, 0))) : fb ≠ r := fun e => by
  obtain ⟨cur, h⟩ := h
  subst e; rw [h1] at h; simp at h
set_option maxHeartbeats 8000000 in
theorem remove_any (i : Nat) (w : World) (fb r : Nat) (l : List Gm) (h : Fl w fb r l) (hi : i < l.length) :
    Calls Try.prog 35 #[.pointer (some ⟨fb, 0, none⟩), .int .i64 (i : Int)] w fun e w' => e = .returned (.tuple #[]) ∧ Dn w fb r (l.eraseIdx i) w' := by
  have hgd := h.good.erase i
  have hrl := h.rl
  have hfew := h.good.few
  obtain ⟨v, h1, h2⟩ := h.row
  obtain ⟨o, cap, rfl, hcap, hlow, hcur, hra, hth, hml⟩ := h2.at (by omega)
  have hne : fb ≠ r := fl_ne (n := 0) (xs := []) h1 hcur
  obtain ⟨p, hp⟩ : ∃ p, l.length = p + 1 := ⟨l.length - 1, by omega⟩
  have hel : (l.eraseIdx i).length = p := by rw [List.length_eraseIdx_of_lt hi]; omega
  rw [hp] at h1 h2 hcap hi hth hfew
  obtain ⟨c0, c1, f0, f1⟩ := two_cells h1
  have hd : wrap64 (((p : Int) + 1).tdiv 2) = (((p + 1) / 2 : Nat) : Int) := by
    rw [Int.tdiv_eq_ediv_of_nonneg (by omega)]
    unfold wrap64; omega
  by_cases hh : (p + 1) / 2 ≤ i
  · have HDL := Lib.hid (gmDelete_any w r o cap i p l hp h2 (by omega) (by omega))
    have HFB := Lib.hid h1
    have HNE := Lib.hid hne
    have HGD := Lib.hid hgd
    have HEL := Lib.hid hel
    have HRL := Lib.hid hrl
    have hge : (((p + 1) / 2 : Nat) : Int) ≤ (i : Int) := by omega
    have hiw : IntKind.i64.wrap ((i : Int) + 1) = (i : Int) + 1 := by rw [IntKind.wrap_i64]; omega
    have HLW := Lib.hid h.low
    generalize (((p + 1) / 2 : Nat) : Int) = half at *
    clear h h1 h2 hcap hlow hcur hra hth hml hgd hrl hel hh hi hfew
    go_enter Try.func35, Try.ntmps35
    go_wp2_with fail
    refine HDL.out.mono ?_
    rintro e w2 ⟨rfl, hrw, hxr⟩
    have h1 : w2.heap[fb]? = some (.cells #[.pointer (some ⟨fb, 0, none⟩), .slice (some ⟨r, o, none⟩) (p + 1) cap] 55 (0, 0)) := by
      rw [hxr.block fb HLW.out HNE.out HNE.out]; exact HFB.out
    have HDN : Hid (Dn w fb r (l.eraseIdx i) (w2.setCell ⟨fb, 1, none⟩ (.slice (some ⟨r, o, none⟩) p cap))) := Lib.hid (by
      have hx : Xr fb r w w2 := ⟨hxr.os, hxr.tape, hxr.output, hxr.size, fun j hj hp hq => hxr.block j hj hq hq⟩
      exact ⟨⟨r, fl_put h1 (by rw [HEL.out]; exact hrw) HGD.out (Nat.lt_of_lt_of_le HRL.out hxr.size), Or.inl rfl⟩, hx.setCell (Or.inl rfl) _⟩)
    clear c0 c1 f0 f1
    obtain ⟨c0, c1, f0, f1⟩ := two_cells h1
    clear hrw hxr h1
    go_wp2_with fail
    refine bodyPost_ret (results_none rfl _ _ _) rfl ?_
    exact ⟨rfl, HDN.out⟩
  · have hlt : ¬ (((p + 1) / 2 : Nat) : Int) ≤ (i : Int) := by omega
    have hi2 : i + 1 ≤ p := by omega
    have hw : Rw w.drew r 35 4 (.slice (some ⟨r, o, none⟩) (p + 1) cap) (p + 1) (gmRow l) := h2
    have hgl : (gmRow l).length = (p + 1) * 4 := by rw [gmRow_len, hp]
    have hov := hw.over (by omega) 4 ((gmRow l).take (i * 4)) (by rw [List.length_take]; omega)
    obtain ⟨i0, hi0, hz0, hzs, hzb⟩ := info_parts gmInfo
    have hcpy : ∀ ty, (Builtin.copy_ #[22, 22] ty #[.slice (some ⟨r, o + 4, none⟩) p (cap - 1), .slice (some ⟨r, o, none⟩) i cap]).run Try.prog w.drew = .ok (goInt (Nat.min i p)) (w.drew.setCells r (o + 4) ((gmRow l).take (i * 4))) := fun ty =>
      run_copy_k w.drew _ _ ty 35 4 r (o + 4) p (cap - 1) ⟨r, o, none⟩ i cap ((gmRow l).take (i * 4)) Try.underlying22 (by rw [hi0]; simp [hzs]) (by rw [List.length_take, Nat.min_eq_left (by omega : i * 4 ≤ (gmRow l).length), show Nat.min i p = i from Nat.min_eq_left (by omega)])
        (fun j v hj => by
          rw [Addr.add_lit]
          rw [List.getElem?_take] at hj
          split at hj
          · exact hra j v hj
          · cases hj) (fun j hj => by rw [Nat.add_assoc]; exact (hth (4 + j) (by rw [List.length_take] at hj; omega)).1) (fun j hj => by rw [Nat.add_assoc]; exact (hth (4 + j) (by rw [List.length_take] at hj; omega)).2) (fun v hv => gmRow_one l v (List.mem_of_mem_take hv))
    obtain ⟨W2, hW2⟩ : ∃ W2, W2 = w.drew.setCells r (o + 4) ((gmRow l).take (i * 4)) := ⟨_, rfl⟩
    have hx2 : Xr fb r w W2 := by rw [hW2]; exact ((Xr.refl fb r w).drew).setCells (Or.inr rfl) _
    have h12 : W2.heap[fb]? = some (.cells #[.pointer (some ⟨fb, 0, none⟩), .slice (some ⟨r, o, none⟩) (p + 1) cap] 55 (0, 0)) := by rw [hW2, setCells_other r _ _ _ fb hne]; exact h1
    rw [← hW2] at hov hcpy
    obtain ⟨o2, cap2, e2, -, -, -, hra2, hth2, -⟩ := hov.at (by omega)
    simp only [Value.slice.injEq, Option.some.injEq, Addr.mk.injEq, and_true, true_and] at e2
    obtain ⟨rfl, rfl⟩ := e2
    obtain ⟨u0, hu0⟩ := Option.isSome_iff_exists.1 (hth2 0 (by omega)).1
    obtain ⟨u1, hu1⟩ := Option.isSome_iff_exists.1 (hth2 1 (by omega)).1
    obtain ⟨u2, hu2⟩ := Option.isSome_iff_exists.1 (hth2 2 (by omega)).1
    obtain ⟨u3, hu3⟩ := Option.isSome_iff_exists.1 (hth2 3 (by omega)).1
    have k0 := (hth2 0 (by omega)).2
    have k1 := (hth2 1 (by omega)).2
    have k2 := (hth2 2 (by omega)).2
    have k3 := (hth2 3 (by omega)).2
    rw [Nat.add_zero] at hu0 k0
    obtain ⟨d0, d1, e0, e1⟩ := two_cells h12
    have HCP := Lib.hid hcpy
    have HOV := Lib.hid hov
    have HX2 := Lib.hid hx2
    have H12 := Lib.hid h12
    have HNE := Lib.hid hne
    have HGD := Lib.hid hgd
    have HEL := Lib.hid hel
    have HRL := Lib.hid hrl
    have HGL := Lib.hid hgl
    have HI2 := Lib.hid hi2
    clear h h1 h2 hw hgl hov hcpy hx2 h12 hW2 hra2 hth2 hra hth hlow hcur hgd hrl hel hi0 hz0 hzs hzb hh
    have b1 : (1 : Int) ≤ (p : Int) + 1 := by omega
    have b2 : (i : Int) ≤ (cap : Int) := by omega
    have b3 : (0 : Int) ≤ (i : Int) := by omega
    have b4 : ¬ (cap = 1) := by omega
    have b5 : p + 1 - 1 = p := by omega
    have b6 : (0 : Int) < (p : Int) + 1 := by omega
    have b7 : (p : Int) + 1 ≤ (cap : Int) := by omega
    clear hi hi2 hfew hp hml hcap
    generalize (((p + 1) / 2 : Nat) : Int) = half at *
    go_enter Try.func35, Try.ntmps35
    go_upto_region 2 with (fail)
    go_region_law (refine step_copy_r rfl _ _ 22 22 rfl (.slice (some ⟨r, o + 4, none⟩) p (cap - 1)) (.slice (some ⟨r, o, none⟩) i cap) (by simp [Act.eval, Act.put]) (by simp [Act.eval, Act.put]) (HCP.out _) ?_)
    all_goals
      go_upto_region 4 with (fail)
      obtain ⟨W3, hW3⟩ : ∃ W3, W3 = ((((W2.setCell ⟨r, o, none⟩ (.int .i64 0)).setCell ⟨r, o + 1, none⟩ (.int .i64 0)).setCell ⟨r, o + 2, none⟩ (.string ⟨#[]⟩)).setCell ⟨r, o + 3, none⟩ (.int .i64 0)) := ⟨_, rfl⟩
      rw [← hW3]
      have hs := (((HOV.out.set (by omega) 0 (.int .i64 0) (by omega)).set (by omega) 1 (.int .i64 0) (by omega)).set (by omega) 2 (.string ⟨#[]⟩) (by omega)).set (by omega) 3 (.int .i64 0) (by omega)
      rw [Nat.add_zero, ← hW3] at hs
      have hrt := hs.right (by omega) (i := 1) (by omega)
      have hxs : Xr fb r w W3 := by rw [hW3]; exact (((HX2.out.setCell (Or.inr rfl) _).setCell (Or.inr rfl) _).setCell (Or.inr rfl) _).setCell (Or.inr rfl) _
      have h13 : W3.heap[fb]? = some (.cells #[.pointer (some ⟨fb, 0, none⟩), .slice (some ⟨r, o, none⟩) (p + 1) cap] 55 (0, 0)) := by
        rw [hW3, Below.heap_setCell _ _ _ _ HNE.out, Below.heap_setCell _ _ _ _ HNE.out, Below.heap_setCell _ _ _ _ HNE.out, Below.heap_setCell _ _ _ _ HNE.out]; exact H12.out
      have hrow : Rw W3 r 35 4 (.slice (some ⟨r, o + 4, none⟩) p (cap - 1)) (l.eraseIdx i).length (gmRow (l.eraseIdx i)) := by
        rw [HEL.out, row_erase]
        have e : (((((List.take 4 (gmRow l) ++ List.take (i * 4) (gmRow l) ++ List.drop (4 + (List.take (i * 4) (gmRow l)).length) (gmRow l)).set 0 (.int .i64 0)).set 1 (.int .i64 0)).set 2 (.string ⟨#[]⟩)).set 3 (.int .i64 0)).drop (1 * 4) = (gmRow l).take (i * 4) ++ (gmRow l).drop ((i + 1) * 4) := by
          have hg := HGL.out
          have hi2 := HI2.out
          rw [List.drop_set_of_lt (by omega), List.drop_set_of_lt (by omega), List.drop_set_of_lt (by omega), List.drop_set_of_lt (by omega), List.append_assoc, List.drop_append, List.length_take, Nat.min_eq_left (by omega : 4 ≤ (gmRow l).length), List.drop_of_length_le (l := List.take 4 (gmRow l)) (by rw [List.length_take]; omega), List.nil_append, List.length_take, Nat.min_eq_left (by omega : i * 4 ≤ (gmRow l).length), show 1 * 4 - 4 = 0 by omega, List.drop_zero, show 4 + i * 4 = (i + 1) * 4 by omega]
        rw [e] at hrt
        exact hrt
      have HDN : Hid (Dn w fb r (l.eraseIdx i) (W3.setCell ⟨fb, 1, none⟩ (.slice (some ⟨r, o + 4, none⟩) p (cap - 1)))) := Lib.hid ⟨⟨r, fl_put h13 hrow HGD.out (Nat.lt_of_lt_of_le HRL.out hxs.size), Or.inl rfl⟩, hxs.setCell (Or.inl rfl) _⟩
      clear c0 c1 f0 f1 d0 d1 e0 e1
      obtain ⟨c0, c1, f0, f1⟩ := two_cells h13
      clear hs hrt hxs h13 hrow hW3 hu0 hu1 hu2 hu3 k0 k1 k2 k3
      go_wp2_with fail
      refine bodyPost_end (results_none rfl _ _ _) rfl ?_
      exact ⟨rfl, HDN.out⟩
end Go.Proofs.Ytldbmdalmhhpfaa
