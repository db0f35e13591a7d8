/- Channel: tick, Take. -/
import Derived.Test.YtldbmdalmhhpfaaCwF
namespace Go.Proofs.Ytldbmdalmhhpfaa
open Go.RowKit Go.Lib Go.Ow Go.Cw Go.Cq
set_option linter.unusedVariables false
set_option linter.unusedSimpArgs false
set_option maxRecDepth 100000

theorem gat_nat (l : List Gm) {n : Nat} (hn : n < l.length) : gat l (n : Int) = l[n] := by unfold gat; simp [List.getD_eq_getElem?_getD, List.getElem?_eq_getElem hn]
/-- The first k of a list that a tick has passed. -/
def tickK (l : List Gm) (k : Nat) : List Gm := (l.take k).map tickG ++ l.drop k
theorem tickK_len (l : List Gm) (k : Nat) : (tickK l k).length = l.length := by simp [tickK]; omega
theorem tickK_all (l : List Gm) {k : Nat} (h : l.length ≤ k) : tickK l k = l.map tickG := by
  unfold tickK; rw [List.take_of_length_le h, List.drop_of_length_le h, List.append_nil]
theorem tickK_at (l : List Gm) {k : Nat} (h : k < l.length) : (tickK l k)[k]'(by rw [tickK_len]; exact h) = l[k] := by
  unfold tickK
  have e : ((l.take k).map tickG).length = k := by rw [List.length_map, List.length_take]; omega
  rw [List.getElem_append_right (by omega)]
  simp only [e, Nat.sub_self, List.getElem_drop, Nat.add_zero]
theorem tickK_go (l : List Gm) {k : Nat} (h : k < l.length) : tickK l (k + 1) = (tickK l k).set k (tickG l[k]) := by
  unfold tickK
  have e : ((l.take k).map tickG).length = k := by rw [List.length_map, List.length_take]; omega
  rw [List.take_succ_eq_append_getElem h, List.map_append, List.set_append_right _ _ (by omega), e, Nat.sub_self, List.drop_eq_getElem_cons h, List.set_cons_zero, List.append_assoc]
  rfl
theorem tickK_good {l : List Gm} (h : Cq.Good l) (k : Nat) : Cq.Good (tickK l k) := by
  refine ⟨by rw [tickK_len]; exact h.few, fun g hg => ?_⟩
  rcases List.mem_append.1 hg with hg | hg
  · obtain ⟨x, hx, rfl⟩ := List.mem_map.1 hg
    have hm := mayB_iff.1 (h.may x (List.mem_of_mem_take hx))
    unfold tickG
    split
    · exact mayB_iff.2 ⟨hm.1, hm.2.1, hm.2.2.1, hm.2.2.2.1, by simp only; omega, by simp only; omega⟩
    · exact h.may x (List.mem_of_mem_take hx)
  · exact h.may g (List.mem_of_mem_drop hg)
set_option maxHeartbeats 8000000 in
theorem tick_any (w : World) (fb r : Nat) (l : List Gm) (h : Fl w fb r l) :
    Calls Try.prog 45 #[.pointer (some ⟨fb, 0, none⟩)] w fun e w' => e = .returned (.tuple #[]) ∧ Dn w fb r (l.map tickG) w' := by
  have HGK := Lib.hid (fun k => tickK_good h.good k)
  have HFEW : Hid (l.length ≤ 65536) := Lib.hid h.good.few
  have HRL := Lib.hid h.rl
  have HMAY : Hid (∀ n (hn : n < l.length), 0 ≤ l[n].wt ∧ l[n].wt ≤ 65536) := Lib.hid (fun n hn => (mayB_iff.1 (h.good.may _ (List.getElem_mem hn))).2.2.2.2)
  obtain ⟨v, h1, h2⟩ := h.row
  obtain ⟨va, vc, rfl⟩ := h2.slice
  have H1 := Lib.hid h1
  have H2 := Lib.hid h2
  obtain ⟨c0, c1, -, -⟩ := two_cells h1
  clear h h1 h2
  go_enter Try.func45, Try.ntmps45
  go_wp2_with fail
  clear c0 c1
  go_loopw [8] (fun i wr => ∃ k : Nat, i = .int .i64 (k : Int) ∧ k ≤ l.length ∧ wr.heap[fb]? = some (.cells #[.pointer (some ⟨fb, 0, none⟩), .slice va l.length vc] 55 (0, 0)) ∧ Rw wr r 35 4 (.slice va l.length vc) l.length (gmRow (tickK l k)) ∧ Xr fb r w wr) (fun i _ => l.length - (RowKit.intOf i).toNat)
  case atStart => exact ⟨0, rfl, Nat.zero_le _, H1.out, by simpa [tickK] using H2.out, Xr.refl _ _ _⟩
  case round =>
    obtain ⟨k, rfl, hk, h1, h2, hx⟩ := hrel
    obtain ⟨wo, hwo⟩ : ∃ wo, wo = wr := ⟨_, rfl⟩
    subst hwo
    have HX := Lib.hid hx
    have H1R := Lib.hid h1
    have H2R := Lib.hid h2
    by_cases hlt : k < l.length
    · have hlti : (k : Int) < (l.length : Int) := by omega
      have hk0 : (0 : Int) ≤ (k : Int) := by omega
      have hkw : IntKind.i64.wrap ((k : Int) + 1) = (k : Int) + 1 := by rw [IntKind.wrap_i64]; have := HFEW.out; omega
      have HK1 : Hid (k + 1 ≤ l.length ∧ l.length - (k + 1) < l.length - k ∧ ((k : Int) + 1).toNat = k + 1 ∧ (k : Int) + 1 = ((k + 1 : Nat) : Int)) := Lib.hid ⟨by omega, by omega, by omega, by omega⟩
      obtain ⟨o, cap, e1, hcap, hlow, hcur, hra, hth, hml⟩ := h2.at (by omega)
      simp only [Value.slice.injEq, true_and] at e1
      obtain ⟨rfl, rfl⟩ := e1
      have hne : fb ≠ r := fl_ne (n := 0) (xs := []) h1 hcur
      have hkl : k < (tickK l k).length := by rw [tickK_len]; exact hlt
      obtain ⟨-, -, -, k3⟩ := gm_cells hra hkl
      rw [tickK_at l hlt] at k3
      have q3 : wo.frozen? ⟨r, o + k * 4 + 3, none⟩ = false := by rw [Nat.add_assoc]; exact (hth (k * 4 + 3) (by omega)).2
      obtain ⟨c0, c1, -, -⟩ := two_cells h1
      have hmay := HMAY.out k hlt
      have hgo := tickK_go l hlt
      have hrw := fun t => row_wait (tickK l k) k hkl t
      simp only [tickK_at l hlt] at hrw
      have hset : Rw (wo.setCell ⟨r, o + k * 4 + 3, none⟩ (.int .i64 (l[k].wt - 1))) r 35 4 (.slice (some ⟨r, o, none⟩) l.length vc) l.length ((gmRow (tickK l k)).set (k * 4 + 3) (.int .i64 (l[k].wt - 1))) := by
        rw [Nat.add_assoc]; exact h2.set (by omega) (k * 4 + 3) _ (by omega)
      have hfs : (wo.setCell ⟨r, o + k * 4 + 3, none⟩ (.int .i64 (l[k].wt - 1))).heap[fb]? = some (.cells #[.pointer (some ⟨fb, 0, none⟩), .slice (some ⟨r, o, none⟩) l.length vc] 55 (0, 0)) := by rw [Below.heap_setCell _ _ _ _ hne]; exact h1
      have HFS := Lib.hid hfs
      have HWX := Lib.hid (hx.setCell (o := o + k * 4 + 3) (Or.inr rfl) (.int .i64 (l[k].wt - 1)))
      by_cases hp : 0 < l[k].wt
      · have HROW : Hid (Rw (wo.setCell ⟨r, o + k * 4 + 3, none⟩ (.int .i64 (l[k].wt - 1))) r 35 4 (.slice (some ⟨r, o, none⟩) l.length vc) l.length (gmRow (tickK l (k + 1)))) := Lib.hid (by
          rw [hgo]
          unfold tickG
          rw [if_pos hp, hrw]; exact hset)
        have hw1 : IntKind.i64.wrap (l[k].wt - 1) = l[k].wt - 1 := by rw [IntKind.wrap_i64]; omega
        generalize l[k].wt = gt at *
        clear h1 h2 hx hcap hlow hcur hra hth hml hne hkl hmay hgo hrw hset hfs hlt hk
        go_wp2_with fail
        refine ⟨⟨k + 1, congrArg (Value.int .i64) HK1.out.2.2.2, HK1.out.1, HFS.out, HROW.out, HWX.out⟩, ?_⟩
        show l.length - ((k : Int) + 1).toNat < l.length - (k : Int).toNat
        rw [HK1.out.2.2.1]
        exact HK1.out.2.1
      · have HROW : Hid (Rw wo r 35 4 (.slice (some ⟨r, o, none⟩) l.length vc) l.length (gmRow (tickK l (k + 1)))) := Lib.hid (by
          rw [hgo]
          unfold tickG
          rw [if_neg hp, show (tickK l k).set k l[k] = tickK l k by
            conv => lhs; rw [← tickK_at l hlt]
            rw [List.set_getElem_self]]
          exact h2)
        generalize l[k].wt = gt at *
        clear h1 h2 hx hcap hlow hcur hra hth hml hne hkl hmay hgo hrw hset hfs hlt hk
        go_wp2_with fail
        refine ⟨⟨k + 1, congrArg (Value.int .i64) HK1.out.2.2.2, HK1.out.1, H1R.out, HROW.out, HX.out⟩, ?_⟩
        show l.length - ((k : Int) + 1).toNat < l.length - (k : Int).toNat
        rw [HK1.out.2.2.1]
        exact HK1.out.2.1
    · have hnk : ¬ (k : Int) < (l.length : Int) := by omega
      have hke : l.length ≤ k := by omega
      have HDN : Hid (Dn w fb r (l.map tickG) wo) := Lib.hid (by
        have hg := HGK.out k
        rw [tickK_all l hke] at hg h2
        exact ⟨⟨r, ⟨⟨_, h1, by rw [List.length_map]; exact h2⟩, hg, Nat.lt_of_lt_of_le HRL.out hx.size⟩, Or.inl rfl⟩, hx⟩)
      clear hlt h1 h2 hx hk
      go_wp2_with fail
      refine bodyPost_end (results_none rfl _ _ _) rfl ?_
      exact ⟨rfl, HDN.out⟩
theorem gm_range {w : World} {b : Nat} {g : Gm} {t : TypeId} (h : w.heap[b]? = some (.cells (gmC g).toArray t (0, 0))) : w.rangeAt b 0 (gmC g) := fun j v hj => by
  rw [Nat.zero_add, cell_of_row w b j _ _ (0, 0) h]; simpa using hj
/-- A datagram's block. -/
def GmB (w : World) (b : Nat) (g : Gm) : Prop := w.heap[b]? = some (.cells (gmC g).toArray 35 (0, 0))
theorem GmB.cells {w : World} {b : Nat} {x y : Int} {s : ByteArray} {t : Int} (h : GmB w b ⟨x, y, s, t⟩) : w.cell? ⟨b, 0, none⟩ = some (.int .i64 x) ∧ w.cell? ⟨b, 1, none⟩ = some (.int .i64 y) ∧ w.cell? ⟨b, 2, none⟩ = some (.string s) ∧ w.cell? ⟨b, 3, none⟩ = some (.int .i64 t) ∧ w.frozen? ⟨b, 0, none⟩ = false ∧ w.frozen? ⟨b, 1, none⟩ = false ∧ w.frozen? ⟨b, 2, none⟩ = false ∧ w.frozen? ⟨b, 3, none⟩ = false := by
  obtain ⟨a0, a1, a2, a3⟩ := four_cells (h : w.heap[b]? = some (.cells #[.int .i64 x, .int .i64 y, .string s, .int .i64 t] _ (0, 0)))
  exact ⟨a0, a1, a2, a3, frozen_of_row w b 0 _ _ h, frozen_of_row w b 1 _ _ h, frozen_of_row w b 2 _ _ h, frozen_of_row w b 3 _ _ h⟩
theorem GmB.set {w : World} {b : Nat} {g : Gm} (h : GmB w b g) (x y : Int) (s : ByteArray) (t : Int) : GmB ((((w.setCell ⟨b, 0, none⟩ (.int .i64 x)).setCell ⟨b, 1, none⟩ (.int .i64 y)).setCell ⟨b, 2, none⟩ (.string s)).setCell ⟨b, 3, none⟩ (.int .i64 t)) b ⟨x, y, s, t⟩ := by
  have h0 := heap_setCell_same w b 0 _ _ (.int .i64 x) h
  have h1 := heap_setCell_same _ b 1 _ _ (.int .i64 y) h0
  have h2 := heap_setCell_same _ b 2 _ _ (.string s) h1
  have h3 := heap_setCell_same _ b 3 _ _ (.int .i64 t) h2
  exact h3
theorem gmb_sets {w : World} {b : Nat} (a0 a1 a2 a3 : Value) (j : Nat) (hj : j ≠ b) : ((((w.setCell ⟨b, 0, none⟩ a0).setCell ⟨b, 1, none⟩ a1).setCell ⟨b, 2, none⟩ a2).setCell ⟨b, 3, none⟩ a3).heap[j]? = w.heap[j]? := by
  rw [Below.heap_setCell _ _ _ _ hj, Below.heap_setCell _ _ _ _ hj, Below.heap_setCell _ _ _ _ hj, Below.heap_setCell _ _ _ _ hj]
set_option maxHeartbeats 8000000 in
theorem take_any (i : Int) (w : World) (fb r : Nat) (l : List Gm) (h : Fl w fb r l) :
    Calls Try.prog 20 #[.pointer (some ⟨fb, 0, none⟩), .int .i64 i] w fun e w' => e = .returned (.tuple #[.agg (gmC (takeG l i)).toArray, .int .i64 (takeE l i)]) ∧ Dn w fb r (takeL l i) w' := by
  obtain ⟨W1, hW1⟩ : ∃ W1, W1 = w.alloc (.cells #[.int .i64 0, .int .i64 0, .string ⟨#[]⟩, .int .i64 0] 35) := ⟨_, rfl⟩
  have b1 : Below w.heap.size w W1 := by rw [hW1]; exact gAl _ _
  have r1 : GmB W1 w.heap.size zG := by rw [hW1]; exact heap_alloc_new w _
  obtain ⟨xb, hxb⟩ : ∃ xb, xb = w.heap.size := ⟨_, rfl⟩
  have s1 : xb < W1.heap.size := by rw [hW1, hxb]; simp
  rw [← hxb] at r1
  have h' := h.below b1
  have HG := Lib.hid (isGiven_any W1 fb r l h')
  have HH := Lib.hid (has_any i W1 fb r l h')
  have HF := Lib.hid h
  have HB1 := Lib.hid b1
  have HWS : Hid (W1 = w.alloc (.cells #[.int .i64 0, .int .i64 0, .string ⟨#[]⟩, .int .i64 0] 35) ∧ w.heap.size = xb) := Lib.hid ⟨hW1, hxb.symm⟩
  have HR1 := Lib.hid r1
  have hz := r1.cells
  obtain ⟨z0, z1, z2, z3, y0, y1, y2, y3⟩ := hz
  -- nothing is told: what was written is nought again
  have HNO : Hid (GmB ((((W1.setCell ⟨xb, 0, none⟩ (.int .i64 0)).setCell ⟨xb, 1, none⟩ (.int .i64 0)).setCell ⟨xb, 2, none⟩ (.string ⟨#[]⟩)).setCell ⟨xb, 3, none⟩ (.int .i64 0)) xb zG ∧ Below w.heap.size w ((((W1.setCell ⟨xb, 0, none⟩ (.int .i64 0)).setCell ⟨xb, 1, none⟩ (.int .i64 0)).setCell ⟨xb, 2, none⟩ (.string ⟨#[]⟩)).setCell ⟨xb, 3, none⟩ (.int .i64 0))) := Lib.hid ⟨r1.set 0 0 ⟨#[]⟩ 0, (((b1.setCell (p := ⟨xb, 0, none⟩) (by show w.heap.size ≤ xb; omega) _).setCell (p := ⟨xb, 1, none⟩) (by show w.heap.size ≤ xb; omega) _).setCell (p := ⟨xb, 2, none⟩) (by show w.heap.size ≤ xb; omega) _).setCell (p := ⟨xb, 3, none⟩) (by show w.heap.size ≤ xb; omega) _⟩
  cases hb : hasB l i with
  | false =>
    have HZ : Hid (takeE l i = 4 ∧ takeL l i = l ∧ takeG l i = zG) := Lib.hid (by simp [takeE, takeL, takeG, hb])
    rw [hb] at HH
    clear h h' hb b1 r1 s1 hW1 hxb
    go_enter Try.func20, Try.ntmps20
    go_upto_region 1 with (fail)
    rw [← HWS.out.1, HWS.out.2]
    go_wp2_with fail
    refine HG.out.mono ?_
    rintro e w2 ⟨rfl, hw2⟩
    rw [hw2]
    clear hw2
    go_wp2_with fail
    refine HH.out.mono ?_
    rintro e w3 ⟨rfl, hw3⟩
    rw [hw3]
    clear hw3
    go_wp2_with fail
    refine bodyPost_ret (results_cell2 Try.results20 _ _ xb 0 (gmC zG) _ rfl (gm_range HNO.out.1) Try.underlying35 (by rfl) (by kernel_rfl)) rfl ?_
    exact ⟨by rw [HZ.out.1, HZ.out.2.2]; rfl, by rw [HZ.out.2.1]; exact Dn.same HF.out HNO.out.2⟩
  | true =>
    obtain ⟨n, rfl, hn, -⟩ := has_nat hb
    have hg := gat_nat l hn
    obtain ⟨o, cap, h1, h2, hcap, hlow, hne, hra, hth⟩ := fl_at h' (by omega)
    obtain ⟨k0, k1, k2, k3⟩ := gm_cells hra hn
    obtain ⟨c0, c1, f0, f1⟩ := two_cells h1
    obtain ⟨ga, gb, gs, gt, hgm⟩ := gm_parts l[n]
    rw [hgm] at k0 k1 k2 k3 hg
    simp only at k0 k1 k2 k3
    have HMA := Lib.hid (fun V => mayArrive_any ga gb gs gt V)
    have hni : (n : Int) < (l.length : Int) := by omega
    have hn0 : (0 : Int) ≤ (n : Int) := by omega
    have HCL : Hid (∀ V, Below W1.heap.size W1 V → (V.cell? ⟨fb, 0, none⟩ = some (.pointer (some ⟨fb, 0, none⟩)) ∧ V.cell? ⟨fb, 1, none⟩ = some (.slice (some ⟨r, o, none⟩) l.length cap)) ∧ (V.cell? ⟨r, o + n * 4, none⟩ = some (.int .i64 ga) ∧ V.cell? ⟨r, o + n * 4 + 1, none⟩ = some (.int .i64 gb) ∧ V.cell? ⟨r, o + n * 4 + 2, none⟩ = some (.string gs) ∧ V.cell? ⟨r, o + n * 4 + 3, none⟩ = some (.int .i64 gt)) ∧ GmB V xb zG) := Lib.hid (fun V hV => by
      have e := hV.block r hlow
      have e2 := hV.block fb h'.low
      exact ⟨⟨(World.cell?_of_block e2).trans c0, (World.cell?_of_block e2).trans c1⟩, ⟨(World.cell?_of_block e).trans k0, (World.cell?_of_block e).trans k1, (World.cell?_of_block e).trans k2, (World.cell?_of_block e).trans k3⟩, (hV.block xb s1).trans r1⟩)
    rw [hb] at HH
    by_cases ht : gt = 0
    · have hte : (gt == 0) = true := by simpa using ht
      have HZ : Hid (takeE l (n : Int) = 0 ∧ takeL l (n : Int) = l.eraseIdx n ∧ takeG l (n : Int) = ⟨ga, gb, gs, gt⟩) := Lib.hid (by
        have e : takeE l (n : Int) = 0 := by unfold takeE; rw [if_pos hb, hg, if_pos ht]
        exact ⟨e, by unfold takeL; rw [if_pos e]; rfl, by unfold takeG; rw [if_pos e, hg]⟩)
      have HRM := Lib.hid (fun V (hV : Below W1.heap.size W1 V) => remove_any n V fb r l (h'.below hV) hn)
      have HNE2 : Hid (xb < W1.heap.size ∧ xb ≠ fb ∧ xb ≠ r) := Lib.hid ⟨s1, by have := h.low; omega, by have := h.rl; omega⟩
      have HXB : Hid (w.heap.size ≤ xb) := Lib.hid (by omega)
      rw [hte] at HMA
      clear h h' hb hn hg h1 h2 hcap hlow hne hra hth f0 f1 hgm b1 r1 s1 hW1 hxb ht z0 z1 z2 z3 y0 y1 y2 y3
      go_enter Try.func20, Try.ntmps20
      go_upto_region 1 with (fail)
      rw [← HWS.out.1, HWS.out.2]
      go_wp2_with fail
      refine HG.out.mono ?_
      rintro e w2 ⟨rfl, hw2⟩
      rw [hw2]
      clear hw2
      go_wp2_with fail
      refine HH.out.mono ?_
      rintro e w3 ⟨rfl, hw3⟩
      rw [hw3]
      clear hw3
      go_wp2_with fail
      refine (HMA.out _).mono ?_
      rintro e w4 ⟨rfl, hb4⟩
      have HB4 := Lib.hid hb4
      clear c0 c1 k0 k1 k2 k3
      obtain ⟨⟨c0, c1⟩, ⟨k0, k1, k2, k3⟩, hxz⟩ := HCL.out w4 hb4
      obtain ⟨W5, hW5⟩ : ∃ W5, W5 = w4.alloc (.cells #[.int .i64 ga, .int .i64 gb, .string gs, .int .i64 gt] 35) := ⟨_, rfl⟩
      have b5 : Below w4.heap.size w4 W5 := by rw [hW5]; exact gAl _ _
      have r5 : GmB W5 w4.heap.size ⟨ga, gb, gs, gt⟩ := by rw [hW5]; exact heap_alloc_new w4 _
      obtain ⟨yb, hyb⟩ : ∃ yb, yb = w4.heap.size := ⟨_, rfl⟩
      have s5 : yb < W5.heap.size := by rw [hW5, hyb]; simp
      rw [← hyb] at r5
      have HB5 := Lib.hid (gNx HB4.out b5)
      have HY : Hid (yb ≠ fb ∧ yb ≠ r ∧ yb < W5.heap.size ∧ GmB W5 yb ⟨ga, gb, gs, gt⟩ ∧ xb ≠ yb ∧ xb < W5.heap.size) := Lib.hid (by
        have h1 := (HF.out.below HB1.out).low
        have h2 := (HF.out.below HB1.out).rl
        have h3 := HNE2.out.1
        have h4 := HB4.out.size
        have h5 := b5.size
        exact ⟨by omega, by omega, s5, r5, by omega, by omega⟩)
      clear hb4 hxz
      go_upto_region 8 with (fail)
      rw [← hW5, ← hyb]
      clear hW5 hyb b5 r5 s5 c0 c1 k0 k1 k2 k3
      go_wp2_with fail
      refine (HRM.out W5 HB5.out).mono ?_
      rintro e w6 ⟨rfl, hd⟩
      have hy6 : GmB w6 yb ⟨ga, gb, gs, gt⟩ := (hd.xr.block yb HY.out.2.2.1 HY.out.1 HY.out.2.1).trans HY.out.2.2.2.1
      have hx6 : GmB w6 xb zG := (hd.xr.block xb HY.out.2.2.2.2.2 HNE2.out.2.1 HNE2.out.2.2).trans (HCL.out W5 HB5.out).2.2
      obtain ⟨k0, k1, k2, k3, -, -, -, -⟩ := hy6.cells
      obtain ⟨z0, z1, z2, z3, y0, y1, y2, y3⟩ := hx6.cells
      have HS6 := Lib.hid (hx6.set ga gb gs gt)
      have HD6 : Hid (Dn w fb r (l.eraseIdx n) ((((w6.setCell ⟨xb, 0, none⟩ (.int .i64 ga)).setCell ⟨xb, 1, none⟩ (.int .i64 gb)).setCell ⟨xb, 2, none⟩ (.string gs)).setCell ⟨xb, 3, none⟩ (.int .i64 gt))) := Lib.hid (by
        have h0 := Dn.open (gNx HB1.out HB5.out) hd
        obtain ⟨r', hf, hr'⟩ := hd.fl
        have hsz : ((((w6.setCell ⟨xb, 0, none⟩ (.int .i64 ga)).setCell ⟨xb, 1, none⟩ (.int .i64 gb)).setCell ⟨xb, 2, none⟩ (.string gs)).setCell ⟨xb, 3, none⟩ (.int .i64 gt)).heap.size = w6.heap.size := by simp [World.setCell]
        have hrx : r' ≠ xb := by
          rcases hr' with rfl | hr'
          · exact Ne.symm HNE2.out.2.2
          · have := HY.out.2.2.2.2.2; omega
        have hr' : r' = r ∨ w.heap.size ≤ r' := by have := (gNx HB1.out HB5.out).size; omega
        refine ⟨⟨r', hf.keep (by rw [hsz]; exact Nat.le_refl _) (gmb_sets _ _ _ _ fb (Ne.symm HNE2.out.2.1)) (fun _ => gmb_sets _ _ _ _ r' hrx), hr'⟩, ⟨h0.xr.os, h0.xr.tape, h0.xr.output, by rw [hsz]; exact h0.xr.size, fun j hj hp hq => (gmb_sets _ _ _ _ j (by have := HXB.out; omega)).trans (h0.xr.block j hj hp hq)⟩⟩)
      clear hd hy6 hx6
      go_wp2_with fail
      refine bodyPost_ret (results_cell2 Try.results20 _ _ xb 0 (gmC ⟨ga, gb, gs, gt⟩) _ rfl (gm_range HS6.out) Try.underlying35 (by rfl) (by kernel_rfl)) rfl ?_
      exact ⟨by rw [HZ.out.1, HZ.out.2.2]; rfl, by rw [HZ.out.2.1]; exact HD6.out⟩
    · have hte : (gt == 0) = false := by simpa using ht
      have HZ : Hid (takeE l (n : Int) = 1 ∧ takeL l (n : Int) = l ∧ takeG l (n : Int) = zG) := Lib.hid (by
        have e : takeE l (n : Int) = 1 := by unfold takeE; rw [if_pos hb, hg, if_neg ht]
        exact ⟨e, by unfold takeL; rw [e, if_neg (by decide)], by unfold takeG; rw [e, if_neg (by decide)]⟩)
      have HXB : Hid (w.heap.size ≤ xb) := Lib.hid (by omega)
      rw [hte] at HMA
      clear h h' hb hn hg h1 h2 hcap hlow hne hra hth f0 f1 hgm b1 r1 s1 hW1 hxb ht z0 z1 z2 z3 y0 y1 y2 y3
      go_enter Try.func20, Try.ntmps20
      go_upto_region 1 with (fail)
      rw [← HWS.out.1, HWS.out.2]
      go_wp2_with fail
      refine HG.out.mono ?_
      rintro e w2 ⟨rfl, hw2⟩
      rw [hw2]
      clear hw2
      go_wp2_with fail
      refine HH.out.mono ?_
      rintro e w3 ⟨rfl, hw3⟩
      rw [hw3]
      clear hw3
      go_wp2_with fail
      refine (HMA.out _).mono ?_
      rintro e w4 ⟨rfl, hb4⟩
      have HB4 := Lib.hid (gNx HB1.out hb4)
      clear c0 c1 k0 k1 k2 k3
      obtain ⟨-, -, hxz⟩ := HCL.out w4 hb4
      obtain ⟨z0, z1, z2, z3, y0, y1, y2, y3⟩ := hxz.cells
      have HX4 := Lib.hid (hxz.set 0 0 ⟨#[]⟩ 0)
      have HB5 : Hid (Below w.heap.size w ((((w4.setCell ⟨xb, 0, none⟩ (.int .i64 0)).setCell ⟨xb, 1, none⟩ (.int .i64 0)).setCell ⟨xb, 2, none⟩ (.string ⟨#[]⟩)).setCell ⟨xb, 3, none⟩ (.int .i64 0))) := Lib.hid ((((HB4.out.setCell (p := ⟨xb, 0, none⟩) HXB.out _).setCell (p := ⟨xb, 1, none⟩) HXB.out _).setCell (p := ⟨xb, 2, none⟩) HXB.out _).setCell (p := ⟨xb, 3, none⟩) HXB.out _)
      clear hb4 hxz
      go_wp2_with fail
      refine bodyPost_ret (results_cell2 Try.results20 _ _ xb 0 (gmC zG) _ rfl (gm_range HX4.out) Try.underlying35 (by rfl) (by kernel_rfl)) rfl ?_
      exact ⟨by rw [HZ.out.1, HZ.out.2.2]; rfl, by rw [HZ.out.2.1]; exact Dn.same HF.out HB5.out⟩
end Go.Proofs.Ytldbmdalmhhpfaa
