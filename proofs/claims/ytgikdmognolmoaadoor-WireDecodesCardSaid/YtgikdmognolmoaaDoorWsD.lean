/- The document's own reader: one field, letters f, i, b, t. -/
import Derived.Test.YtgikdmognolmoaaDoorWsC
namespace Go.Proofs.YtgikdmognolmoaaDoor
open Go.RowKit Go.Lib Go.Wq
set_option linter.unusedVariables false
set_option linter.unusedSimpArgs false
set_option maxRecDepth 100000

theorem F6.setF {w : World} {b u : Nat} {i : Int} {f f' : Nat} {bb : Bool} {t : ByteArray} {ra : Option Addr} {rn rc : Nat} (h : F6 w b u i f bb t ra rn rc) : F6 (w.setCell ⟨b, 2, none⟩ (.float .f64 f')) b u i f' bb t ra rn rc := by
  obtain ⟨c0, c1, c2, c3, c4, c5, fz⟩ := h
  exact ⟨by simp [go_sem, c0], by simp [go_sem, c1], by simp [go_sem, c2], by simp [go_sem, c3], by simp [go_sem, c4], by simp [go_sem, c5], fun j hj => by simp [go_sem, fz j hj]⟩
theorem F6.setI {w : World} {b u : Nat} {i i' : Int} {f : Nat} {bb : Bool} {t : ByteArray} {ra : Option Addr} {rn rc : Nat} (h : F6 w b u i f bb t ra rn rc) : F6 (w.setCell ⟨b, 1, none⟩ (.int .i64 i')) b u i' f bb t ra rn rc := by
  obtain ⟨c0, c1, c2, c3, c4, c5, fz⟩ := h
  exact ⟨by simp [go_sem, c0], by simp [go_sem, c1], by simp [go_sem, c2], by simp [go_sem, c3], by simp [go_sem, c4], by simp [go_sem, c5], fun j hj => by simp [go_sem, fz j hj]⟩
theorem F6.setB {w : World} {b u : Nat} {i : Int} {f : Nat} {bb bb' : Bool} {t : ByteArray} {ra : Option Addr} {rn rc : Nat} (h : F6 w b u i f bb t ra rn rc) : F6 (w.setCell ⟨b, 3, none⟩ (.bool bb')) b u i f bb' t ra rn rc := by
  obtain ⟨c0, c1, c2, c3, c4, c5, fz⟩ := h
  exact ⟨by simp [go_sem, c0], by simp [go_sem, c1], by simp [go_sem, c2], by simp [go_sem, c3], by simp [go_sem, c4], by simp [go_sem, c5], fun j hj => by simp [go_sem, fz j hj]⟩
theorem F6.setT {w : World} {b u : Nat} {i : Int} {f : Nat} {bb : Bool} {t t' : ByteArray} {ra : Option Addr} {rn rc : Nat} (h : F6 w b u i f bb t ra rn rc) : F6 (w.setCell ⟨b, 4, none⟩ (.string t')) b u i f bb t' ra rn rc := by
  obtain ⟨c0, c1, c2, c3, c4, c5, fz⟩ := h
  exact ⟨by simp [go_sem, c0], by simp [go_sem, c1], by simp [go_sem, c2], by simp [go_sem, c3], by simp [go_sem, c4], by simp [go_sem, c5], fun j hj => by simp [go_sem, fz j hj]⟩

set_option maxHeartbeats 4000000 in
theorem one_f (s : ByteArray) : OneSays s .f := by
  intro p ia n ic S w hp hs _ _ _
  have HL := Lib.hid (laid1 w s p 102 ia n ic)
  have HV := Lib.hid (fun w => float_any s p (by omega) hp w)
  have hst := d_store
  show Calls _ _ #[rdV s (p : Int) 0 0, .agg #[.int .u8 102, .slice ia n ic]] w _
  go_enter Tryd.func32, Tryd.ntmps32
  go_wp2_with fail
  refine (HV.out _).mono ?_
  rintro e w2 ⟨hb2, hcase⟩
  obtain ⟨hrd, -, -, hrr, hrf, hfd, hbel, hsiz⟩ := HL.out.below hb2
  generalize hB2 : w.heap.size = b2 at *
  generalize hB3 : b2 + 1 = b3 at *
  generalize hB4 : b3 + 1 = b4 at *
  generalize hB5 : b4 + 1 = b5 at *
  generalize hB7 : b5 + 1 = b7 at *
  have HN := Lib.hid (show b7 ≠ b2 ∧ b4 ≠ b2 ∧ b5 ≠ b2 ∧ b4 ≠ b7 ∧ b5 ≠ b7 ∧ b4 ≠ b5 ∧ b2 ≤ b4 ∧ b2 ≤ b5 ∧ b2 ≤ b7 by omega)
  have hl : s.data.toList.length = s.size := Array.length_toList
  by_cases hlt : s.size < p + 8
  · rw [if_pos hlt] at hcase
    obtain ⟨pa, rfl⟩ := hcase
    have hx : rdOne s.data.toList .f p = .bad 42 p := by simp only [rdOne]; rw [if_pos (by omega)]
    have HFin := Lib.hid (show ∀ w', Below b2 w w' → OneEnds s .f p w (.returned (.tuple #[rdV s (pa : Int) 42 (p : Int), fdV 0 0 0 false ⟨#[]⟩ none 0 0])) w' from fun w' hb => one_bad hx (by rw [hB2]; exact hb) pa 0 0 0 false ⟨#[]⟩ none 0 0)
    clear hx
    have HX := Lib.hid (show AtEnd w (((((w2.setCell ⟨b2, 0, none⟩ (.string s)).setCell ⟨b2, 1, none⟩ (.int .i64 (pa : Int))).setCell ⟨b2, 2, none⟩ (.int .i64 42)).setCell ⟨b2, 3, none⟩ (.int .i64 (p : Int))).setCell ⟨b7, 2, none⟩ (.float .f64 0)) b2 b4 b5 b7 s pa 42 p 0 0 0 false ⟨#[]⟩ none 0 0 from
      ⟨(hrd.set).other (fun h => HN.out.1 h.symm) _ _, (hfd.other4 HN.out.1 _ _ _ _).setF, (hrr.other4 HN.out.2.1 _ _ _ _).other HN.out.2.2.2.1 _ _, (hrf.other4 HN.out.2.2.1 _ _ _ _).other HN.out.2.2.2.2.1 _ _, (set4B hbel b2 (Nat.le_refl _) _ _ _ _).setCell HN.out.2.2.2.2.2.2.2.2 _⟩)
    obtain ⟨c0, c1, c2, c3, f0, f1, f2, f3⟩ := id hrd
    obtain ⟨d0, d1, d2, d3, d4, d5, dz⟩ := id hfd
    have dz0 := dz 0 (by omega)
    have dz1 := dz 1 (by omega)
    have dz2 := dz 2 (by omega)
    have dz3 := dz 3 (by omega)
    have dz4 := dz 4 (by omega)
    have n27 : b2 ≠ b7 := fun h => HN.out.1 h.symm
    have n72 : b7 ≠ b2 := HN.out.1
    clear hrd hrr hrf hfd dz
    go_wp2_with fail
    generalize (((((w2.setCell ⟨b2, 0, none⟩ (.string s)).setCell ⟨b2, 1, none⟩ (.int .i64 (pa : Int))).setCell ⟨b2, 2, none⟩ (.int .i64 42)).setCell ⟨b2, 3, none⟩ (.int .i64 (p : Int))).setCell ⟨b7, 2, none⟩ (.float .f64 0)) = wX at *
    obtain ⟨⟨c0, c1, c2, c3, f0, f1, f2, f3⟩, ⟨d0, d1, d2, d3, d4, d5, dz⟩, ⟨r0, r1, r2, r3, q0, q1, q2, q3⟩, ⟨e0, e1, e2, e3, e4, e5, ez⟩, hbX⟩ := id HX.out
    have ez0 := ez 0 (by omega)
    have ez1 := ez 1 (by omega)
    have ez2 := ez 2 (by omega)
    have ez3 := ez 3 (by omega)
    have ez4 := ez 4 (by omega)
    have ez5 := ez 5 (by omega)
    clear ez dz
    obtain ⟨-, m42, m52, m47, m57, m45, k24, k25, -⟩ := HN.out
    have m54 : b5 ≠ b4 := fun h => m45 h.symm
    go_region_with (fail)
    all_goals go_wp2_with fail
    all_goals
      (try simp only [Exit.inBlock, Exit.then])
      refine bodyPost_ret (v := .tuple #[rdV s (pa : Int) 42 (p : Int), fdV 0 0 0 false ⟨#[]⟩ none 0 0]) (by simp [results, Tryd.results32, go_sem, r0, r1, r2, r3, e0, e1, e2, e3, e4, e5, m45, m54]) rfl ?_
      with_reducible first | exact HFin.out _ (set6B (set4B hbX b4 k24 _ _ _ _) b5 k25 _ _ _ _ _ _).drew | exact HFin.out _ (set4B (set6B hbX b5 k25 _ _ _ _ _ _) b4 k24 _ _ _ _).drew
  · rw [if_neg hlt] at hcase
    obtain rfl := hcase
    have hx : rdOne s.data.toList .f p = .ok (.mk 0 0 (numOf ((s.data.toList.drop p).take 8) 0) false (⟨#[]⟩ : ByteArray).data.toList []) (p + 8) := by simp only [rdOne]; rw [if_neg (by omega)]
    obtain ⟨q, hq⟩ : ∃ q, p + 8 = q := ⟨_, rfl⟩
    rw [hq] at hx ⊢
    generalize numOf ((s.data.toList.drop p).take 8) 0 = N at *
    have HFin := Lib.hid (show ∀ w', Below b2 w w' → OneEnds s .f p w (.returned (.tuple #[rdV s (q : Int) 0 0, fdV 0 0 N false ⟨#[]⟩ none 0 0])) w' from fun w' hb => one_ok hx (by rw [hB2]; exact hb))
    clear hx
    have HX := Lib.hid (show AtEnd w (((((w2.setCell ⟨b2, 0, none⟩ (.string s)).setCell ⟨b2, 1, none⟩ (.int .i64 (q : Int))).setCell ⟨b2, 2, none⟩ (.int .i64 0)).setCell ⟨b2, 3, none⟩ (.int .i64 0)).setCell ⟨b7, 2, none⟩ (.float .f64 N)) b2 b4 b5 b7 s q 0 0 0 0 N false ⟨#[]⟩ none 0 0 from
      ⟨(hrd.set).other (fun h => HN.out.1 h.symm) _ _, (hfd.other4 HN.out.1 _ _ _ _).setF, (hrr.other4 HN.out.2.1 _ _ _ _).other HN.out.2.2.2.1 _ _, (hrf.other4 HN.out.2.2.1 _ _ _ _).other HN.out.2.2.2.2.1 _ _, (set4B hbel b2 (Nat.le_refl _) _ _ _ _).setCell HN.out.2.2.2.2.2.2.2.2 _⟩)
    obtain ⟨c0, c1, c2, c3, f0, f1, f2, f3⟩ := id hrd
    obtain ⟨d0, d1, d2, d3, d4, d5, dz⟩ := id hfd
    have dz0 := dz 0 (by omega)
    have dz1 := dz 1 (by omega)
    have dz2 := dz 2 (by omega)
    have dz3 := dz 3 (by omega)
    have dz4 := dz 4 (by omega)
    have n27 : b2 ≠ b7 := fun h => HN.out.1 h.symm
    have n72 : b7 ≠ b2 := HN.out.1
    clear hrd hrr hrf hfd dz
    go_wp2_with fail
    generalize (((((w2.setCell ⟨b2, 0, none⟩ (.string s)).setCell ⟨b2, 1, none⟩ (.int .i64 (q : Int))).setCell ⟨b2, 2, none⟩ (.int .i64 0)).setCell ⟨b2, 3, none⟩ (.int .i64 0)).setCell ⟨b7, 2, none⟩ (.float .f64 N)) = wX at *
    obtain ⟨⟨c0, c1, c2, c3, f0, f1, f2, f3⟩, ⟨d0, d1, d2, d3, d4, d5, dz⟩, ⟨r0, r1, r2, r3, q0, q1, q2, q3⟩, ⟨e0, e1, e2, e3, e4, e5, ez⟩, hbX⟩ := id HX.out
    have ez0 := ez 0 (by omega)
    have ez1 := ez 1 (by omega)
    have ez2 := ez 2 (by omega)
    have ez3 := ez 3 (by omega)
    have ez4 := ez 4 (by omega)
    have ez5 := ez 5 (by omega)
    clear ez dz
    obtain ⟨-, m42, m52, m47, m57, m45, k24, k25, -⟩ := HN.out
    have m54 : b5 ≠ b4 := fun h => m45 h.symm
    go_region_with (fail)
    all_goals go_wp2_with fail
    all_goals
      (try simp only [Exit.inBlock, Exit.then])
      refine bodyPost_ret (v := .tuple #[rdV s (q : Int) 0 0, fdV 0 0 N false ⟨#[]⟩ none 0 0]) (by simp [results, Tryd.results32, go_sem, r0, r1, r2, r3, e0, e1, e2, e3, e4, e5, m45, m54]) rfl ?_
      with_reducible first | exact HFin.out _ (set6B (set4B hbX b4 k24 _ _ _ _) b5 k25 _ _ _ _ _ _).drew | exact HFin.out _ (set4B (set6B hbX b5 k25 _ _ _ _ _ _) b4 k24 _ _ _ _).drew

set_option maxHeartbeats 4000000 in
theorem one_i (s : ByteArray) : OneSays s .i := by
  intro p ia n ic S w hp hs _ _ _
  have HL := Lib.hid (laid1 w s p 105 ia n ic)
  have HV := Lib.hid (fun w => varint_any s p (by omega) hp w)
  have hst := d_store
  show Calls _ _ #[rdV s (p : Int) 0 0, .agg #[.int .u8 105, .slice ia n ic]] w _
  go_enter Tryd.func32, Tryd.ntmps32
  go_wp2_with fail
  refine (HV.out _).mono ?_
  rintro e w2 ⟨hb2, hcase⟩
  obtain ⟨hrd, -, -, hrr, hrf, hfd, hbel, hsiz⟩ := HL.out.below hb2
  generalize hB2 : w.heap.size = b2 at *
  generalize hB3 : b2 + 1 = b3 at *
  generalize hB4 : b3 + 1 = b4 at *
  generalize hB5 : b4 + 1 = b5 at *
  generalize hB7 : b5 + 1 = b7 at *
  have HN := Lib.hid (show b7 ≠ b2 ∧ b4 ≠ b2 ∧ b5 ≠ b2 ∧ b4 ≠ b7 ∧ b5 ≠ b7 ∧ b4 ≠ b5 ∧ b2 ≤ b4 ∧ b2 ≤ b5 ∧ b2 ≤ b7 by omega)
  cases hr : rdVar s.data.toList p with
  | ok n' q =>
    rw [hr] at hcase
    obtain rfl := hcase
    have hn64 := (rdVar_only hr).1
    have hx : rdOne s.data.toList .i p = .ok (.mk 0 (zag n') 0 false (⟨#[]⟩ : ByteArray).data.toList []) q := by simp only [rdOne, hr]
    have HFin := Lib.hid (show ∀ w', Below b2 w w' → OneEnds s .i p w (.returned (.tuple #[rdV s (q : Int) 0 0, fdV 0 (zag n') 0 false ⟨#[]⟩ none 0 0])) w' from fun w' hb => one_ok hx (by rw [hB2]; exact hb))
    clear hx
    obtain ⟨H, hH0⟩ : ∃ H : Nat, (n' : Int) / 2 = (H : Int) := ⟨n' / 2, by omega⟩
    have hH63 : H < 9223372036854775808 := by omega
    have hH : IntKind.i64.wrap (H : Int) = (H : Int) := by go_arith
    have hX1 := xor_m1 H hH63
    have hA : bits BinOp.and IntKind.u64 (n' : Int) 1 = ((n' % 2 : Nat) : Int) := by
      rw [show (1 : Int) = ((1 : Nat) : Int) from rfl, u64_and_nat _ _ (by omega) (by omega), Nat.and_one_is_mod]
    by_cases hodd : n' % 2 = 1
    · have hz : zag n' = -(H : Int) - 1 := by unfold zag; rw [if_pos hodd]; omega
      rw [hz] at HFin
      rw [hodd] at hA
      clear hz hodd hr
      have HX := Lib.hid (show AtEnd w ((((((w2.setCell ⟨b2, 0, none⟩ (.string s)).setCell ⟨b2, 1, none⟩ (.int .i64 (q : Int))).setCell ⟨b2, 2, none⟩ (.int .i64 0)).setCell ⟨b2, 3, none⟩ (.int .i64 0)).setCell ⟨b7, 1, none⟩ (.int .i64 (H : Int))).setCell ⟨b7, 1, none⟩ (.int .i64 (-(H : Int) - 1))) b2 b4 b5 b7 s q 0 0 0 (-(H : Int) - 1) 0 false ⟨#[]⟩ none 0 0 from
        ⟨((hrd.set).other (fun h => HN.out.1 h.symm) _ _).other (fun h => HN.out.1 h.symm) _ _, (hfd.other4 HN.out.1 _ _ _ _).setI.setI, ((hrr.other4 HN.out.2.1 _ _ _ _).other HN.out.2.2.2.1 _ _).other HN.out.2.2.2.1 _ _, ((hrf.other4 HN.out.2.2.1 _ _ _ _).other HN.out.2.2.2.2.1 _ _).other HN.out.2.2.2.2.1 _ _, ((set4B hbel b2 (Nat.le_refl _) _ _ _ _).setCell HN.out.2.2.2.2.2.2.2.2 _).setCell HN.out.2.2.2.2.2.2.2.2 _⟩)
      obtain ⟨c0, c1, c2, c3, f0, f1, f2, f3⟩ := id hrd
      obtain ⟨d0, d1, d2, d3, d4, d5, dz⟩ := id hfd
      have dz0 := dz 0 (by omega)
      have dz1 := dz 1 (by omega)
      have dz2 := dz 2 (by omega)
      have dz3 := dz 3 (by omega)
      have dz4 := dz 4 (by omega)
      have n27 : b2 ≠ b7 := fun h => HN.out.1 h.symm
      have n72 : b7 ≠ b2 := HN.out.1
      clear hrd hrr hrf hfd dz
      go_wp2_with fail
      generalize ((((((w2.setCell ⟨b2, 0, none⟩ (.string s)).setCell ⟨b2, 1, none⟩ (.int .i64 (q : Int))).setCell ⟨b2, 2, none⟩ (.int .i64 0)).setCell ⟨b2, 3, none⟩ (.int .i64 0)).setCell ⟨b7, 1, none⟩ (.int .i64 (H : Int))).setCell ⟨b7, 1, none⟩ (.int .i64 (-(H : Int) - 1))) = wX at *
      obtain ⟨⟨c0, c1, c2, c3, f0, f1, f2, f3⟩, ⟨d0, d1, d2, d3, d4, d5, dz⟩, ⟨r0, r1, r2, r3, q0, q1, q2, q3⟩, ⟨e0, e1, e2, e3, e4, e5, ez⟩, hbX⟩ := id HX.out
      have ez0 := ez 0 (by omega)
      have ez1 := ez 1 (by omega)
      have ez2 := ez 2 (by omega)
      have ez3 := ez 3 (by omega)
      have ez4 := ez 4 (by omega)
      have ez5 := ez 5 (by omega)
      clear ez dz
      obtain ⟨-, m42, m52, m47, m57, m45, k24, k25, -⟩ := HN.out
      have m54 : b5 ≠ b4 := fun h => m45 h.symm
      go_region_with (fail)
      all_goals go_wp2_with fail
      all_goals
        (try simp only [Exit.inBlock, Exit.then])
        refine bodyPost_ret (v := .tuple #[rdV s (q : Int) 0 0, fdV 0 (-(H : Int) - 1) 0 false ⟨#[]⟩ none 0 0]) (by simp [results, Tryd.results32, go_sem, r0, r1, r2, r3, e0, e1, e2, e3, e4, e5, m45, m54]) rfl ?_
        with_reducible first | exact HFin.out _ (set6B (set4B hbX b4 k24 _ _ _ _) b5 k25 _ _ _ _ _ _).drew | exact HFin.out _ (set4B (set6B hbX b5 k25 _ _ _ _ _ _) b4 k24 _ _ _ _).drew
    · have h0 : n' % 2 = 0 := by omega
      have hz : zag n' = (H : Int) := by unfold zag; rw [if_neg hodd]; omega
      rw [hz] at HFin
      rw [h0] at hA
      have HX := Lib.hid (show AtEnd w (((((w2.setCell ⟨b2, 0, none⟩ (.string s)).setCell ⟨b2, 1, none⟩ (.int .i64 (q : Int))).setCell ⟨b2, 2, none⟩ (.int .i64 0)).setCell ⟨b2, 3, none⟩ (.int .i64 0)).setCell ⟨b7, 1, none⟩ (.int .i64 (H : Int))) b2 b4 b5 b7 s q 0 0 0 (H : Int) 0 false ⟨#[]⟩ none 0 0 from
        ⟨(hrd.set).other (fun h => HN.out.1 h.symm) _ _, (hfd.other4 HN.out.1 _ _ _ _).setI, (hrr.other4 HN.out.2.1 _ _ _ _).other HN.out.2.2.2.1 _ _, (hrf.other4 HN.out.2.2.1 _ _ _ _).other HN.out.2.2.2.2.1 _ _, (set4B hbel b2 (Nat.le_refl _) _ _ _ _).setCell HN.out.2.2.2.2.2.2.2.2 _⟩)
      clear hz h0 hodd hr
      obtain ⟨c0, c1, c2, c3, f0, f1, f2, f3⟩ := id hrd
      obtain ⟨d0, d1, d2, d3, d4, d5, dz⟩ := id hfd
      have dz0 := dz 0 (by omega)
      have dz1 := dz 1 (by omega)
      have dz2 := dz 2 (by omega)
      have dz3 := dz 3 (by omega)
      have dz4 := dz 4 (by omega)
      have n27 : b2 ≠ b7 := fun h => HN.out.1 h.symm
      have n72 : b7 ≠ b2 := HN.out.1
      clear hrd hrr hrf hfd dz
      go_wp2_with fail
      generalize (((((w2.setCell ⟨b2, 0, none⟩ (.string s)).setCell ⟨b2, 1, none⟩ (.int .i64 (q : Int))).setCell ⟨b2, 2, none⟩ (.int .i64 0)).setCell ⟨b2, 3, none⟩ (.int .i64 0)).setCell ⟨b7, 1, none⟩ (.int .i64 (H : Int))) = wX at *
      obtain ⟨⟨c0, c1, c2, c3, f0, f1, f2, f3⟩, ⟨d0, d1, d2, d3, d4, d5, dz⟩, ⟨r0, r1, r2, r3, q0, q1, q2, q3⟩, ⟨e0, e1, e2, e3, e4, e5, ez⟩, hbX⟩ := id HX.out
      have ez0 := ez 0 (by omega)
      have ez1 := ez 1 (by omega)
      have ez2 := ez 2 (by omega)
      have ez3 := ez 3 (by omega)
      have ez4 := ez 4 (by omega)
      have ez5 := ez 5 (by omega)
      clear ez dz
      obtain ⟨-, m42, m52, m47, m57, m45, k24, k25, -⟩ := HN.out
      have m54 : b5 ≠ b4 := fun h => m45 h.symm
      go_region_with (fail)
      all_goals go_wp2_with fail
      all_goals
        (try simp only [Exit.inBlock, Exit.then])
        refine bodyPost_ret (v := .tuple #[rdV s (q : Int) 0 0, fdV 0 (H : Int) 0 false ⟨#[]⟩ none 0 0]) (by simp [results, Tryd.results32, go_sem, r0, r1, r2, r3, e0, e1, e2, e3, e4, e5, m45, m54]) rfl ?_
        with_reducible first | exact HFin.out _ (set6B (set4B hbX b4 k24 _ _ _ _) b5 k25 _ _ _ _ _ _).drew | exact HFin.out _ (set4B (set6B hbX b5 k25 _ _ _ _ _ _) b4 k24 _ _ _ _).drew
  | bad er fr =>
    rw [hr] at hcase
    obtain ⟨pa, rfl⟩ := hcase
    have hx : rdOne s.data.toList .i p = .bad er fr := by simp only [rdOne, hr]
    have HFin := Lib.hid (show ∀ w', Below b2 w w' → OneEnds s .i p w (.returned (.tuple #[rdV s (pa : Int) (er : Int) (fr : Int), fdV 0 0 0 false ⟨#[]⟩ none 0 0])) w' from fun w' hb => one_bad hx (by rw [hB2]; exact hb) pa 0 0 0 false ⟨#[]⟩ none 0 0)
    clear hx
    have hA : bits BinOp.and IntKind.u64 0 1 = 0 := by decide +kernel
    have HX := Lib.hid (show AtEnd w (((((w2.setCell ⟨b2, 0, none⟩ (.string s)).setCell ⟨b2, 1, none⟩ (.int .i64 (pa : Int))).setCell ⟨b2, 2, none⟩ (.int .i64 (er : Int))).setCell ⟨b2, 3, none⟩ (.int .i64 (fr : Int))).setCell ⟨b7, 1, none⟩ (.int .i64 0)) b2 b4 b5 b7 s pa er fr 0 0 0 false ⟨#[]⟩ none 0 0 from
      ⟨(hrd.set).other (fun h => HN.out.1 h.symm) _ _, (hfd.other4 HN.out.1 _ _ _ _).setI, (hrr.other4 HN.out.2.1 _ _ _ _).other HN.out.2.2.2.1 _ _, (hrf.other4 HN.out.2.2.1 _ _ _ _).other HN.out.2.2.2.2.1 _ _, (set4B hbel b2 (Nat.le_refl _) _ _ _ _).setCell HN.out.2.2.2.2.2.2.2.2 _⟩)
    obtain ⟨c0, c1, c2, c3, f0, f1, f2, f3⟩ := id hrd
    obtain ⟨d0, d1, d2, d3, d4, d5, dz⟩ := id hfd
    have dz0 := dz 0 (by omega)
    have dz1 := dz 1 (by omega)
    have dz2 := dz 2 (by omega)
    have dz3 := dz 3 (by omega)
    have dz4 := dz 4 (by omega)
    have n27 : b2 ≠ b7 := fun h => HN.out.1 h.symm
    have n72 : b7 ≠ b2 := HN.out.1
    clear hrd hrr hrf hfd dz
    go_wp2_with fail
    generalize (((((w2.setCell ⟨b2, 0, none⟩ (.string s)).setCell ⟨b2, 1, none⟩ (.int .i64 (pa : Int))).setCell ⟨b2, 2, none⟩ (.int .i64 (er : Int))).setCell ⟨b2, 3, none⟩ (.int .i64 (fr : Int))).setCell ⟨b7, 1, none⟩ (.int .i64 0)) = wX at *
    obtain ⟨⟨c0, c1, c2, c3, f0, f1, f2, f3⟩, ⟨d0, d1, d2, d3, d4, d5, dz⟩, ⟨r0, r1, r2, r3, q0, q1, q2, q3⟩, ⟨e0, e1, e2, e3, e4, e5, ez⟩, hbX⟩ := id HX.out
    have ez0 := ez 0 (by omega)
    have ez1 := ez 1 (by omega)
    have ez2 := ez 2 (by omega)
    have ez3 := ez 3 (by omega)
    have ez4 := ez 4 (by omega)
    have ez5 := ez 5 (by omega)
    clear ez dz
    obtain ⟨-, m42, m52, m47, m57, m45, k24, k25, -⟩ := HN.out
    have m54 : b5 ≠ b4 := fun h => m45 h.symm
    go_region_with (fail)
    all_goals go_wp2_with fail
    all_goals
      (try simp only [Exit.inBlock, Exit.then])
      refine bodyPost_ret (v := .tuple #[rdV s (pa : Int) (er : Int) (fr : Int), fdV 0 0 0 false ⟨#[]⟩ none 0 0]) (by simp [results, Tryd.results32, go_sem, r0, r1, r2, r3, e0, e1, e2, e3, e4, e5, m45, m54]) rfl ?_
      with_reducible first | exact HFin.out _ (set6B (set4B hbX b4 k24 _ _ _ _) b5 k25 _ _ _ _ _ _).drew | exact HFin.out _ (set4B (set6B hbX b5 k25 _ _ _ _ _ _) b4 k24 _ _ _ _).drew
end Go.Proofs.YtgikdmognolmoaaDoor
