/- Channel: Put, Take, drop, double, delay, swap, tick. -/
import Derived.Test.YtldbmdalmhhpfaaCwD
namespace Go.Proofs.Ytldbmdalmhhpfaa
open Go.RowKit Go.Lib Go.Ow Go.Cw Go.Cq
set_option linter.unusedVariables false
set_option linter.unusedSimpArgs false
set_option maxRecDepth 100000

theorem fl_at {w : World} {fb r : Nat} {l : List Gm} (h : Fl w fb r l) (hn : 0 < l.length) : ∃ o cap, w.heap[fb]? = some (.cells #[.pointer (some ⟨fb, 0, none⟩), .slice (some ⟨r, o, none⟩) l.length cap] 55 (0, 0)) ∧ Rw w r 35 4 (.slice (some ⟨r, o, none⟩) l.length cap) l.length (gmRow l) ∧ l.length ≤ cap ∧ r < w.heap.size ∧ fb ≠ r ∧ w.rangeAt r o (gmRow l) ∧ w.there r o (l.length * 4) := by
  obtain ⟨v, h1, h2⟩ := h.row
  obtain ⟨o, cap, rfl, hcap, hlow, hcur, hra, hth, hml⟩ := h2.at hn
  exact ⟨o, cap, h1, h2, hcap, hlow, fl_ne (n := 0) (xs := []) h1 hcur, hra, hth⟩
theorem has_nat {l : List Gm} {i : Int} (h : hasB l i = true) : ∃ n : Nat, i = (n : Int) ∧ n < l.length ∧ gat l i = l.getD n zG := by
  unfold hasB at h
  simp only [Bool.and_eq_true, decide_eq_true_eq] at h
  refine ⟨i.toNat, by omega, by omega, rfl⟩
/-- The parts of one datagram. -/
theorem gm_parts (g : Gm) : ∃ a b s t, g = ⟨a, b, s, t⟩ := ⟨_, _, _, _, rfl⟩
set_option maxHeartbeats 4000000 in
theorem put_any (a b : Int) (s : ByteArray) (t : Int) (w : World) (fb r : Nat) (l : List Gm) (h : Fl w fb r l) :
    Calls Try.prog 15 #[.pointer (some ⟨fb, 0, none⟩), .agg #[.int .i64 a, .int .i64 b, .string s, .int .i64 t]] w fun e w' => e = .returned (.int .i64 (putE l ⟨a, b, s, t⟩)) ∧ Dn w fb r (putL l ⟨a, b, s, t⟩) w' := by
  obtain ⟨W1, hW1⟩ : ∃ W1, W1 = w.alloc (.cells #[.int .i64 a, .int .i64 b, .string s, .int .i64 t] 35) := ⟨_, rfl⟩
  have b1 : Below w.heap.size w W1 := by rw [hW1]; exact gAl _ _
  have r1 : W1.heap[w.heap.size]? = some (.cells #[.int .i64 a, .int .i64 b, .string s, .int .i64 t] 35 (0, 0)) := by rw [hW1]; exact heap_alloc_new w _
  obtain ⟨bx, hbx⟩ : ∃ bx, bx = w.heap.size := ⟨_, rfl⟩
  have s1 : bx < W1.heap.size := by rw [hW1, hbx]; simp
  rw [← hbx] at r1
  have HG := Lib.hid (isGiven_any W1 fb r l (h.below b1))
  have HM := Lib.hid (fun V => mayBe_any a b s t V)
  have HB1 := Lib.hid b1
  have HF := Lib.hid h
  have HC : Hid (∀ V, Below W1.heap.size W1 V → V.cell? ⟨bx, 0, none⟩ = some (.int .i64 a) ∧ V.cell? ⟨bx, 1, none⟩ = some (.int .i64 b) ∧ V.cell? ⟨bx, 2, none⟩ = some (.string s) ∧ V.cell? ⟨bx, 3, none⟩ = some (.int .i64 t)) := Lib.hid (fun V hV => four_cells ((hV.block bx s1).trans r1))
  have HWS : Hid (W1 = w.alloc (.cells #[.int .i64 a, .int .i64 b, .string s, .int .i64 t] 35) ∧ w.heap.size = bx) := Lib.hid ⟨hW1, hbx.symm⟩
  obtain ⟨g0, g1, g2, g3⟩ := HC.out W1 (Below.refl _ _)
  clear h b1 r1 s1 hW1 hbx
  by_cases hm : mayB ⟨a, b, s, t⟩ = true
  · have HMB := Lib.hid hm
    rw [hm] at HM
    clear hm
    go_enter Try.func15, Try.ntmps15
    go_upto_region 1 with (fail)
    rw [← HWS.out.1, HWS.out.2]
    go_wp2_with fail
    refine HG.out.mono ?_
    rintro e w2 ⟨rfl, rfl⟩
    go_wp2_with fail
    refine (HM.out _).mono ?_
    rintro e w3 ⟨rfl, hb3⟩
    have HB3 := Lib.hid (gNx HB1.out hb3)
    have HA := Lib.hid (add_any a b s t w3 fb r l (HF.out.below HB3.out) HMB.out)
    clear g0 g1 g2 g3
    obtain ⟨g0, g1, g2, g3⟩ := HC.out w3 hb3
    clear hb3
    go_wp2_with fail
    refine HA.out.mono ?_
    rintro e w4 ⟨rfl, hd⟩
    have HD := Lib.hid (Dn.open HB3.out hd)
    clear hd g0 g1 g2 g3
    go_wp2_with fail
    go_ret
    exact ⟨rfl, HD.out⟩
  · have HZ : Hid (putE l ⟨a, b, s, t⟩ = 1 ∧ putL l ⟨a, b, s, t⟩ = l) := Lib.hid (by
      have e : putE l ⟨a, b, s, t⟩ = 1 := by unfold putE; rw [if_neg hm]
      exact ⟨e, by unfold putL; rw [e, if_neg (by decide)]⟩)
    have hm : mayB ⟨a, b, s, t⟩ = false := by simpa using hm
    rw [hm] at HM
    clear hm
    go_enter Try.func15, Try.ntmps15
    go_upto_region 1 with (fail)
    rw [← HWS.out.1, HWS.out.2]
    go_wp2_with fail
    refine HG.out.mono ?_
    rintro e w2 ⟨rfl, rfl⟩
    go_wp2_with fail
    refine (HM.out _).mono ?_
    rintro e w3 ⟨rfl, hb3⟩
    have HB3 := Lib.hid (gNx HB1.out hb3)
    clear g0 g1 g2 g3 hb3
    go_wp2_with fail
    go_ret
    exact ⟨by rw [HZ.out.1]; rfl, by rw [HZ.out.2]; exact Dn.same HF.out HB3.out⟩
set_option maxHeartbeats 4000000 in
theorem drop_any (i k : Int) (w : World) (fb r : Nat) (l : List Gm) (h : Fl w fb r l) :
    Calls Try.prog 41 #[.pointer (some ⟨fb, 0, none⟩), .int .i64 i] w fun e w' => e = .returned (.int .i64 (doE l 2 i k)) ∧ Dn w fb r (doL l 2 i k) w' := by
  have HF := Lib.hid h
  have HH := Lib.hid (has_any i w fb r l h)
  cases hb : hasB l i with
  | false =>
    have HZ : Hid (doE l 2 i k = 4 ∧ doL l 2 i k = l) := Lib.hid (by simp [doE, doL, hb])
    rw [hb] at HH
    clear h hb
    go_enter Try.func41, Try.ntmps41
    go_wp2_with fail
    refine HH.out.mono ?_
    rintro e w2 ⟨rfl, rfl⟩
    go_wp2_with fail
    go_ret
    exact ⟨by rw [HZ.out.1]; rfl, by rw [HZ.out.2]; exact Dn.same HF.out (Below.refl _ _)⟩
  | true =>
    obtain ⟨n, rfl, hn, -⟩ := has_nat hb
    have HZ : Hid (doE l 2 (n : Int) k = 0 ∧ doL l 2 (n : Int) k = l.eraseIdx n) := Lib.hid (by simp [doE, doL, hb])
    have HR := Lib.hid (remove_any n w fb r l h hn)
    rw [hb] at HH
    clear h hb hn
    go_enter Try.func41, Try.ntmps41
    go_wp2_with fail
    refine HH.out.mono ?_
    rintro e w2 ⟨rfl, rfl⟩
    go_wp2_with fail
    refine HR.out.mono ?_
    rintro e w3 ⟨rfl, hd⟩
    have HD := Lib.hid hd
    clear hd
    go_wp2_with fail
    go_ret
    exact ⟨by rw [HZ.out.1]; rfl, by rw [HZ.out.2]; exact HD.out⟩
set_option maxHeartbeats 4000000 in
theorem double_any (i k : Int) (w : World) (fb r : Nat) (l : List Gm) (h : Fl w fb r l) :
    Calls Try.prog 42 #[.pointer (some ⟨fb, 0, none⟩), .int .i64 i] w fun e w' => e = .returned (.int .i64 (doE l 3 i k)) ∧ Dn w fb r (doL l 3 i k) w' := by
  have HF := Lib.hid h
  have HH := Lib.hid (has_any i w fb r l h)
  cases hb : hasB l i with
  | false =>
    have HZ : Hid (doE l 3 i k = 4 ∧ doL l 3 i k = l) := Lib.hid (by simp [doE, doL, hb])
    rw [hb] at HH
    clear h hb
    go_enter Try.func42, Try.ntmps42
    go_wp2_with fail
    refine HH.out.mono ?_
    rintro e w2 ⟨rfl, rfl⟩
    go_wp2_with fail
    go_ret
    exact ⟨by rw [HZ.out.1]; rfl, by rw [HZ.out.2]; exact Dn.same HF.out (Below.refl _ _)⟩
  | true =>
    obtain ⟨n, rfl, hn, -⟩ := has_nat hb
    have hg : gat l (n : Int) = l[n] := by unfold gat; simp [List.getD_eq_getElem?_getD, List.getElem?_eq_getElem hn]
    have hmay := h.good.may _ (List.getElem_mem hn)
    obtain ⟨o, cap, h1, h2, hcap, hlow, hne, hra, hth⟩ := fl_at h (by omega)
    obtain ⟨k0, k1, k2, k3⟩ := gm_cells hra hn
    obtain ⟨c0, c1, f0, f1⟩ := two_cells h1
    obtain ⟨ga, gb, gs, gt, hgm⟩ := gm_parts l[n]
    rw [hgm] at k0 k1 k2 k3 hmay
    simp only at k0 k1 k2 k3
    have HZ : Hid (doE l 3 (n : Int) k = putE l ⟨ga, gb, gs, gt⟩ ∧ doL l 3 (n : Int) k = putL l ⟨ga, gb, gs, gt⟩) := Lib.hid (by
      rw [hgm] at hg
      have e : doE l 3 (n : Int) k = putE l ⟨ga, gb, gs, gt⟩ := by simp [doE, putE, hb, hmay]
      refine ⟨e, ?_⟩
      unfold doL putL
      rw [e]
      by_cases hz : putE l ⟨ga, gb, gs, gt⟩ = 0
      · rw [if_neg (by simpa using hz), if_pos hz]; simp [hg]
      · rw [if_pos hz, if_neg hz])
    have HA := Lib.hid (add_any ga gb gs gt w fb r l h hmay)
    have hni : (n : Int) < (l.length : Int) := by omega
    have hn0 : (0 : Int) ≤ (n : Int) := by omega
    rw [hb] at HH
    clear h hb hn hg hmay h1 h2 hcap hlow hne hra hth hgm f0 f1
    go_enter Try.func42, Try.ntmps42
    go_wp2_with fail
    refine HH.out.mono ?_
    rintro e w2 ⟨rfl, rfl⟩
    go_wp2_with fail
    refine HA.out.mono ?_
    rintro e w3 ⟨rfl, hd⟩
    have HD := Lib.hid hd
    clear hd c0 c1 k0 k1 k2 k3
    go_wp2_with fail
    go_ret
    exact ⟨by rw [HZ.out.1]; rfl, by rw [HZ.out.2]; exact HD.out⟩
/-- One cell of a flight's row is set. -/
theorem fl_cell {w : World} {fb r o cap n : Nat} {l l2 : List Gm} (h1 : w.heap[fb]? = some (.cells #[.pointer (some ⟨fb, 0, none⟩), .slice (some ⟨r, o, none⟩) l.length cap] 55 (0, 0))) (h2 : Rw w r 35 4 (.slice (some ⟨r, o, none⟩) l.length cap) l.length (gmRow l)) (hr : r < w.heap.size) (hne : fb ≠ r) (hn : n < l.length) (u : Value) (hl : l2.length = l.length) (he : gmRow l2 = (gmRow l).set (n * 4 + 3) u) (hg : Cq.Good l2) : Dn w fb r l2 (w.setCell ⟨r, o + n * 4 + 3, none⟩ u) := by
  refine ⟨⟨r, ⟨⟨.slice (some ⟨r, o, none⟩) l.length cap, ?_, ?_⟩, hg, by simpa [World.setCell] using hr⟩, Or.inl rfl⟩, (Xr.refl fb r w).setCell (Or.inr rfl) _⟩
  · rw [Below.heap_setCell _ _ _ _ hne]; exact h1
  · rw [hl, he, Nat.add_assoc]; exact h2.set (by omega) (n * 4 + 3) u (by omega)
theorem row_set (l : List Gm) (n : Nat) (hn : n < l.length) (g : Gm) : gmRow (l.set n g) = (gmRow l).take (n * 4) ++ gmC g ++ (gmRow l).drop ((n + 1) * 4) := flat_set gmC 4 gmC_len l n g hn
theorem row_here (l : List Gm) (n : Nat) (hn : n < l.length) : gmRow l = (gmRow l).take (n * 4) ++ gmC l[n] ++ (gmRow l).drop ((n + 1) * 4) := by
  have := row_set l n hn l[n]
  rw [List.set_getElem_self] at this
  exact this
theorem row_wait (l : List Gm) (n : Nat) (hn : n < l.length) (t : Int) : gmRow (l.set n { l[n] with wt := t }) = (gmRow l).set (n * 4 + 3) (.int .i64 t) := by
  rw [row_set l n hn]
  conv => rhs; rw [row_here l n hn]
  have hlen := gmRow_len l
  have h1 : ((gmRow l).take (n * 4)).length = n * 4 := by rw [List.length_take]; omega
  rw [List.append_assoc, List.append_assoc, List.set_append_right _ _ (by omega), h1, show n * 4 + 3 - n * 4 = 3 by omega]
  rfl
set_option maxHeartbeats 4000000 in
theorem delay_any (i k : Int) (w : World) (fb r : Nat) (l : List Gm) (h : Fl w fb r l) :
    Calls Try.prog 43 #[.pointer (some ⟨fb, 0, none⟩), .int .i64 i, .int .i64 k] w fun e w' => e = .returned (.int .i64 (doE l 4 i k)) ∧ Dn w fb r (doL l 4 i k) w' := by
  have HF := Lib.hid h
  have HH := Lib.hid (has_any i w fb r l h)
  have HGD := Lib.hid (h.good.do 4 i k)
  cases hb : hasB l i with
  | false =>
    have HZ : Hid (doE l 4 i k = 4 ∧ doL l 4 i k = l) := Lib.hid (by simp [doE, doL, hb])
    rw [hb] at HH
    clear h hb
    go_enter Try.func43, Try.ntmps43
    go_wp2_with fail
    refine HH.out.mono ?_
    rintro e w2 ⟨rfl, rfl⟩
    go_wp2_with fail
    go_ret
    exact ⟨by rw [HZ.out.1]; rfl, by rw [HZ.out.2]; exact Dn.same HF.out (Below.refl _ _)⟩
  | true =>
    obtain ⟨n, rfl, hn, -⟩ := has_nat hb
    have hg : gat l (n : Int) = l[n] := by unfold gat; simp [List.getD_eq_getElem?_getD, List.getElem?_eq_getElem hn]
    have hmay := (mayB_iff.1 (h.good.may _ (List.getElem_mem hn))).2.2.2.2
    obtain ⟨o, cap, h1, h2, hcap, hlow, hne, hra, hth⟩ := fl_at h (by omega)
    obtain ⟨-, -, -, k3⟩ := gm_cells hra hn
    obtain ⟨c0, c1, f0, f1⟩ := two_cells h1
    have q3 : w.frozen? ⟨r, o + n * 4 + 3, none⟩ = false := by rw [Nat.add_assoc]; exact (hth (n * 4 + 3) (by omega)).2
    have hni : (n : Int) < (l.length : Int) := by omega
    have hn0 : (0 : Int) ≤ (n : Int) := by omega
    have hrw := fun t => row_wait l n hn t
    obtain ⟨gt, hgt⟩ : ∃ gt, gt = l[n].wt := ⟨_, rfl⟩
    rw [← hgt] at k3 hmay
    have hw1 : IntKind.i64.wrap (65536 - gt) = 65536 - gt := by rw [IntKind.wrap_i64]; omega
    rw [hb] at HH
    by_cases hk : k < 0 ∨ 65536 - gt < k
    · have HZ : Hid (doE l 4 (n : Int) k = 1 ∧ doL l 4 (n : Int) k = l) := Lib.hid (by
        have e : doE l 4 (n : Int) k = 1 := by simp [doE, hb, hg, ← hgt]; omega
        exact ⟨e, by unfold doL; rw [e, if_pos (by decide)]⟩)
      clear h hb hn hg hmay h1 h2 hcap hlow hne hra hth f0 f1 hrw hgt
      by_cases hk0 : k < 0
      · go_enter Try.func43, Try.ntmps43
        go_wp2_with fail
        refine HH.out.mono ?_
        rintro e w2 ⟨rfl, rfl⟩
        go_wp2_with fail
        go_ret
        exact ⟨by rw [HZ.out.1]; rfl, by rw [HZ.out.2]; exact Dn.same HF.out (Below.refl _ _)⟩
      · have hk1 : 65536 - gt < k := by omega
        clear hk
        go_enter Try.func43, Try.ntmps43
        go_wp2_with fail
        refine HH.out.mono ?_
        rintro e w2 ⟨rfl, rfl⟩
        go_wp2_with fail
        go_ret
        exact ⟨by rw [HZ.out.1]; rfl, by rw [HZ.out.2]; exact Dn.same HF.out (Below.refl _ _)⟩
    · have hk0 : ¬ k < 0 := by omega
      have hk1 : ¬ 65536 - gt < k := by omega
      have HZ : Hid (doE l 4 (n : Int) k = 0 ∧ doL l 4 (n : Int) k = l.set n { l[n] with wt := gt + k }) := Lib.hid (by
        have e : doE l 4 (n : Int) k = 0 := by simp [doE, hb, hg, ← hgt]; omega
        refine ⟨e, ?_⟩
        unfold doL
        rw [e, if_neg (by decide), if_neg (by decide), if_neg (by decide), if_neg (by decide), if_pos rfl, hg, hgt]
        rfl)
      have hw2 : IntKind.i64.wrap (gt + k) = gt + k := by rw [IntKind.wrap_i64]; omega
      have HDN : Hid (Dn w fb r (doL l 4 (n : Int) k) (w.setCell ⟨r, o + n * 4 + 3, none⟩ (.int .i64 (gt + k)))) := Lib.hid (by
        have hgd := HGD.out
        rw [HZ.out.2] at hgd ⊢
        exact fl_cell h1 h2 hlow hne hn _ (List.length_set) (hrw _) hgd)
      clear h hb hg hmay h1 h2 hcap hlow hne hra hth f0 f1 hrw hgt hk
      go_enter Try.func43, Try.ntmps43
      go_wp2_with fail
      refine HH.out.mono ?_
      rintro e w2 ⟨rfl, rfl⟩
      go_wp2_with fail
      go_ret
      exact ⟨by rw [HZ.out.1]; rfl, HDN.out⟩
end Go.Proofs.Ytldbmdalmhhpfaa
