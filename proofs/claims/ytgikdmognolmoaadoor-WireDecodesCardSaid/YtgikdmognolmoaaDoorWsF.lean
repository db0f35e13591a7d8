/- The document's own reader: one field, letter t. -/
import Derived.Test.YtgikdmognolmoaaDoorWsD
namespace Go.Proofs.YtgikdmognolmoaaDoor
open Go.RowKit Go.Lib Go.Wq
set_option linter.unusedVariables false
set_option linter.unusedSimpArgs false
set_option maxRecDepth 100000

theorem AtEnd.below {w wx w' : World} {b2 b4 b5 b7 : Nat} {s : ByteArray} {p e q : Int} {u : Nat} {i : Int} {f : Nat} {bb : Bool} {t : ByteArray} {ra : Option Addr} {rn rc : Nat} (h : AtEnd w wx b2 b4 b5 b7 s p e q u i f bb t ra rn rc)
    (b : Below wx.heap.size wx w') (h2 : b2 < wx.heap.size) (h4 : b4 < wx.heap.size) (h5 : b5 < wx.heap.size) (h7 : b7 < wx.heap.size) : AtEnd w w' b2 b4 b5 b7 s p e q u i f bb t ra rn rc :=
  ⟨h.rd.below b h2, h.fd.below b h7, h.rr.below b h4, h.rf.below b h5, h.bel.trans (b.mono (by omega))⟩
theorem ext_list (s : ByteArray) (q n : Nat) : (s.extract q (q + n)).data.toList = (s.data.toList.drop q).take n := by
  rw [ByteArray.data_extract, Array.toList_extract, List.extract_eq_take_drop]
  congr 1; omega
theorem varGo_bad {s : List UInt8} {fr0 er fr : Nat} : ∀ (f i p n : Nat), varGo s fr0 f i p n = .bad er fr → er = 42 ∨ er = 43 := by
  intro f
  induction f with
  | zero => intro i p n h; simp only [varGo, R.bad.injEq] at h; exact Or.inr h.1.symm
  | succ f ih =>
    intro i p n h
    simp only [varGo] at h
    cases hc : s[p]? with
    | none => rw [hc] at h; simp only [R.bad.injEq] at h; exact Or.inl h.1.symm
    | some c =>
      rw [hc] at h
      simp only [] at h
      split at h
      · simp only [R.bad.injEq] at h; exact Or.inr h.1.symm
      · split at h
        · split at h
          · simp only [R.bad.injEq] at h; exact Or.inr h.1.symm
          · simp at h
        · exact ih _ _ _ h
theorem rdVar_bad {s : List UInt8} {p er fr : Nat} (h : rdVar s p = .bad er fr) : er = 42 ∨ er = 43 := varGo_bad _ _ _ _ h

set_option maxHeartbeats 4000000 in
theorem one_t (s : ByteArray) : OneSays s .t := by
  intro p ia n ic S w hp hs _ _ _
  have HL := Lib.hid (laid1 w s p 116 ia n ic)
  have hl : s.data.toList.length = s.size := Array.length_toList
  have HV := Lib.hid (fun w => varint_any s p (by omega) hp w)
  have hst := d_store
  show Calls _ _ #[rdV s (p : Int) 0 0, .agg #[.int .u8 116, .slice ia n ic]] w _
  go_enter Tryd.func32, Tryd.ntmps32
  go_wp2_with fail
  refine (HV.out _).mono ?_
  rintro e w2 ⟨hb2, hcase⟩
  obtain ⟨hrd, -, -, hrr, hrf, hfd, hbel, hsiz⟩ := HL.out.below hb2
  generalize hB2 : w.heap.size = b2 at *
  generalize hB3 : b2 + 1 = b3 at *
  generalize hB4 : b3 + 1 = b4 at *
  generalize hB5 : b4 + 1 = b5 at *
  generalize hB7 : b5 + 1 = b7 at *
  have HN := Lib.hid (show b7 ≠ b2 ∧ b4 ≠ b2 ∧ b5 ≠ b2 ∧ b4 ≠ b7 ∧ b5 ≠ b7 ∧ b4 ≠ b5 ∧ b2 ≤ b4 ∧ b2 ≤ b5 ∧ b2 ≤ b7 by omega)
  cases hr : rdVar s.data.toList p with
  | ok n' q =>
    rw [hr] at hcase
    obtain rfl := hcase
    obtain ⟨hn64, -, hqs, -⟩ := rdVar_only hr
    rw [hl] at hqs
    have hsub : IntKind.i64.wrap ((s.size : Int) - (q : Int)) = (s.size : Int) - (q : Int) := by go_arith
    have hsub2 : IntKind.u64.wrap ((s.size : Int) - (q : Int)) = (s.size : Int) - (q : Int) := by rw [IntKind.wrap_u64]; omega
    have HX0 := Lib.hid (show AtEnd w ((((w2.setCell ⟨b2, 0, none⟩ (.string s)).setCell ⟨b2, 1, none⟩ (.int .i64 (q : Int))).setCell ⟨b2, 2, none⟩ (.int .i64 0)).setCell ⟨b2, 3, none⟩ (.int .i64 0)) b2 b4 b5 b7 s q 0 0 0 0 0 false ⟨#[]⟩ none 0 0 from
      ⟨hrd.set, hfd.other4 HN.out.1 _ _ _ _, hrr.other4 HN.out.2.1 _ _ _ _, hrf.other4 HN.out.2.2.1 _ _ _ _, set4B hbel b2 (Nat.le_refl _) _ _ _ _⟩)
    have hszs : w2.heap.size = ((((w2.setCell ⟨b2, 0, none⟩ (.string s)).setCell ⟨b2, 1, none⟩ (.int .i64 (q : Int))).setCell ⟨b2, 2, none⟩ (.int .i64 0)).setCell ⟨b2, 3, none⟩ (.int .i64 0)).heap.size := by simp
    by_cases hlong : s.size < q + n'
    · have hx : rdOne s.data.toList .t p = .bad 42 p := by simp only [rdOne, hr]; rw [if_pos (by omega)]
      have hgt : decide ((s.size : Int) - (q : Int) < (n' : Int)) = true := decide_eq_true (by omega)
      have HFin := Lib.hid (show ∀ w', Below b2 w w' → OneEnds s .t p w (.returned (.tuple #[rdV s (q : Int) 42 (p : Int), fdV 0 0 0 false ⟨#[]⟩ none 0 0])) w' from fun w' hb => one_bad hx (by rw [hB2]; exact hb) q 0 0 0 false ⟨#[]⟩ none 0 0)
      clear hx hr
      obtain ⟨c0, c1, c2, c3, f0, f1, f2, f3⟩ := id hrd
      obtain ⟨d0, d1, d2, d3, d4, d5, dz⟩ := id hfd
      have dz0 := dz 0 (by omega)
      have dz1 := dz 1 (by omega)
      have dz2 := dz 2 (by omega)
      have dz3 := dz 3 (by omega)
      have dz4 := dz 4 (by omega)
      have n27 : b2 ≠ b7 := fun h => HN.out.1 h.symm
      have n72 : b7 ≠ b2 := HN.out.1
      clear hrd hrr hrf hfd dz
      go_wp2_with fail
      generalize ((((w2.setCell ⟨b2, 0, none⟩ (.string s)).setCell ⟨b2, 1, none⟩ (.int .i64 (q : Int))).setCell ⟨b2, 2, none⟩ (.int .i64 0)).setCell ⟨b2, 3, none⟩ (.int .i64 0)) = wl at *
      have hKeep : ∀ w', Below wl.heap.size wl w' → AtEnd w w' b2 b4 b5 b7 s q 0 0 0 0 0 false ⟨#[]⟩ none 0 0 := fun w' h => HX0.out.below h (by omega) (by omega) (by omega) (by omega)
      clear c0 c1 c2 c3 f0 f1 f2 f3 d0 d1 d2 d3 d4 d5
      obtain ⟨⟨c0, c1, c2, c3, f0, f1, f2, f3⟩, ⟨d0, d1, d2, d3, d4, d5, dz⟩, -, -, -⟩ := id HX0.out
      obtain ⟨-, m42, m52, m47, m57, m45, k24, k25, -⟩ := HN.out
      have m54 : b5 ≠ b4 := fun h => m45 h.symm
      go_region_with (go_at_call 50; refine (no_any _ _ _ _ _ _ _).mono ?_; rintro e w3 ⟨rfl, h2⟩; obtain ⟨-, ⟨d0, d1, d2, d3, d4, d5, dz⟩, ⟨r0, r1, r2, r3, q0, q1, q2, q3⟩, ⟨e0, e1, e2, e3, e4, e5, ez⟩, hbX⟩ := hKeep _ (Below.trans (Below.drew (Below.refl _ _)) h2); have ez0 := ez 0 (by omega); have ez1 := ez 1 (by omega); have ez2 := ez 2 (by omega); have ez3 := ez 3 (by omega); have ez4 := ez 4 (by omega); have ez5 := ez 5 (by omega))
      all_goals go_wp2_with fail
      all_goals
        (try simp only [Exit.inBlock, Exit.then])
        refine bodyPost_ret (v := .tuple #[rdV s (q : Int) 42 (p : Int), fdV 0 0 0 false ⟨#[]⟩ none 0 0]) (by simp [results, Tryd.results32, go_sem, r0, r1, r2, r3, e0, e1, e2, e3, e4, e5, m45, m54]) rfl ?_
        with_reducible first | exact HFin.out _ (set6B (set4B hbX _ k24 _ _ _ _) _ k25 _ _ _ _ _ _) | exact HFin.out _ (set4B (set6B hbX _ k25 _ _ _ _ _ _) _ k24 _ _ _ _) | exact HFin.out _ (set6B (set4B hbX _ k24 _ _ _ _) _ k25 _ _ _ _ _ _).drew | exact HFin.out _ (set4B (set6B hbX _ k25 _ _ _ _ _ _) _ k24 _ _ _ _).drew
    · have hx : rdOne s.data.toList .t p = .ok (.mk 0 0 0 false (s.extract q (q + n')).data.toList []) (q + n') := by simp only [rdOne, hr]; rw [if_neg (by omega), ext_list]
      have hgt : decide ((s.size : Int) - (q : Int) < (n' : Int)) = false := decide_eq_false (by omega)
      have hw1 : IntKind.i64.wrap (n' : Int) = (n' : Int) := by go_arith
      have hw2 : IntKind.i64.wrap ((q : Int) + (n' : Int)) = (q : Int) + (n' : Int) := by go_arith
      have hle1 : (q : Int) + (n' : Int) ≤ (s.size : Int) := by omega
      have hle2 : q + n' ≤ s.size := by omega
      obtain ⟨E, hE⟩ : ∃ E : Nat, (q : Int) + (n' : Int) = (E : Int) := ⟨q + n', by omega⟩
      have hE2 : q + n' = E := by omega
      rw [hE2] at hx
      have HFin := Lib.hid (show ∀ w', Below b2 w w' → OneEnds s .t p w (.returned (.tuple #[rdV s (E : Int) 0 0, fdV 0 0 0 false (s.extract q E) none 0 0])) w' from fun w' hb => one_ok hx (by rw [hB2]; exact hb))
      clear hx hr
      have hqE : (q : Int) ≤ (E : Int) := by omega
      have hEs : (E : Int) ≤ (s.size : Int) := by omega
      have hqE' : q ≤ E := by omega
      have hEs' : E ≤ s.size := by omega
      obtain ⟨c0, c1, c2, c3, f0, f1, f2, f3⟩ := id hrd
      obtain ⟨d0, d1, d2, d3, d4, d5, dz⟩ := id hfd
      have dz0 := dz 0 (by omega)
      have dz1 := dz 1 (by omega)
      have dz2 := dz 2 (by omega)
      have dz3 := dz 3 (by omega)
      have dz4 := dz 4 (by omega)
      have n27 : b2 ≠ b7 := fun h => HN.out.1 h.symm
      have n72 : b7 ≠ b2 := HN.out.1
      clear hrd hrr hrf hfd dz
      go_wp2_with fail
      have HX := Lib.hid (show AtEnd w ((((((w2.setCell ⟨b2, 0, none⟩ (.string s)).setCell ⟨b2, 1, none⟩ (.int .i64 (q : Int))).setCell ⟨b2, 2, none⟩ (.int .i64 0)).setCell ⟨b2, 3, none⟩ (.int .i64 0)).setCell ⟨b7, 4, none⟩ (.string (s.extract q E))).setCell ⟨b2, 1, none⟩ (.int .i64 (E : Int))) b2 b4 b5 b7 s E 0 0 0 0 0 false (s.extract q E) none 0 0 from
        ⟨(HX0.out.rd.other n27 _ _).move, HX0.out.fd.setT.other n72 _ _, (HX0.out.rr.other HN.out.2.2.2.1 _ _).other HN.out.2.1 _ _, (HX0.out.rf.other HN.out.2.2.2.2.1 _ _).other HN.out.2.2.1 _ _, (HX0.out.bel.setCell HN.out.2.2.2.2.2.2.2.2 _).setCell (Nat.le_refl _) _⟩)
      clear c0 c1 c2 c3 f0 f1 f2 f3 d0 d1 d2 d3 d4 d5 dz0 dz1 dz2 dz3 dz4
      generalize (((((w2.setCell ⟨b2, 0, none⟩ (.string s)).setCell ⟨b2, 1, none⟩ (.int .i64 (q : Int))).setCell ⟨b2, 2, none⟩ (.int .i64 0)).setCell ⟨b2, 3, none⟩ (.int .i64 0)).setCell ⟨b7, 4, none⟩ (.string (s.extract q E))).setCell ⟨b2, 1, none⟩ (.int .i64 (E : Int)) = wX at *
      obtain ⟨⟨c0, c1, c2, c3, f0, f1, f2, f3⟩, ⟨d0, d1, d2, d3, d4, d5, dz⟩, ⟨r0, r1, r2, r3, q0, q1, q2, q3⟩, ⟨e0, e1, e2, e3, e4, e5, ez⟩, hbX⟩ := id HX.out
      have ez0 := ez 0 (by omega)
      have ez1 := ez 1 (by omega)
      have ez2 := ez 2 (by omega)
      have ez3 := ez 3 (by omega)
      have ez4 := ez 4 (by omega)
      have ez5 := ez 5 (by omega)
      clear ez dz
      obtain ⟨-, m42, m52, m47, m57, m45, k24, k25, -⟩ := HN.out
      have m54 : b5 ≠ b4 := fun h => m45 h.symm
      go_region_with (fail)
      all_goals go_wp2_with fail
      all_goals
        (try simp only [Exit.inBlock, Exit.then])
        refine bodyPost_ret (v := .tuple #[rdV s (E : Int) 0 0, fdV 0 0 0 false (s.extract q E) none 0 0]) (by simp [results, Tryd.results32, go_sem, r0, r1, r2, r3, e0, e1, e2, e3, e4, e5, m45, m54]) rfl ?_
        with_reducible first | exact HFin.out _ (set6B (set4B hbX b4 k24 _ _ _ _) b5 k25 _ _ _ _ _ _).drew | exact HFin.out _ (set4B (set6B hbX b5 k25 _ _ _ _ _ _) b4 k24 _ _ _ _).drew
  | bad er fr =>
    rw [hr] at hcase
    obtain ⟨pa, rfl⟩ := hcase
    have her : ((er : Int) == 0) = false := by
      rcases rdVar_bad hr with rfl | rfl <;> rfl
    have her2 : er ≠ 0 := by
      rcases rdVar_bad hr with rfl | rfl <;> decide
    have hx : rdOne s.data.toList .t p = .bad er fr := by simp only [rdOne, hr]
    have HFin := Lib.hid (show ∀ w', Below b2 w w' → OneEnds s .t p w (.returned (.tuple #[rdV s (pa : Int) (er : Int) (fr : Int), fdV 0 0 0 false ⟨#[]⟩ none 0 0])) w' from fun w' hb => one_bad hx (by rw [hB2]; exact hb) pa 0 0 0 false ⟨#[]⟩ none 0 0)
    clear hx
    have HX := Lib.hid (show AtEnd w ((((w2.setCell ⟨b2, 0, none⟩ (.string s)).setCell ⟨b2, 1, none⟩ (.int .i64 (pa : Int))).setCell ⟨b2, 2, none⟩ (.int .i64 (er : Int))).setCell ⟨b2, 3, none⟩ (.int .i64 (fr : Int))) b2 b4 b5 b7 s pa er fr 0 0 0 false ⟨#[]⟩ none 0 0 from
      ⟨hrd.set, hfd.other4 HN.out.1 _ _ _ _, hrr.other4 HN.out.2.1 _ _ _ _, hrf.other4 HN.out.2.2.1 _ _ _ _, set4B hbel b2 (Nat.le_refl _) _ _ _ _⟩)
    obtain ⟨c0, c1, c2, c3, f0, f1, f2, f3⟩ := id hrd
    obtain ⟨d0, d1, d2, d3, d4, d5, dz⟩ := id hfd
    have dz0 := dz 0 (by omega)
    have dz1 := dz 1 (by omega)
    have dz2 := dz 2 (by omega)
    have dz3 := dz 3 (by omega)
    have dz4 := dz 4 (by omega)
    have n27 : b2 ≠ b7 := fun h => HN.out.1 h.symm
    have n72 : b7 ≠ b2 := HN.out.1
    clear hrd hrr hrf hfd dz
    go_wp2_with fail
    generalize ((((w2.setCell ⟨b2, 0, none⟩ (.string s)).setCell ⟨b2, 1, none⟩ (.int .i64 (pa : Int))).setCell ⟨b2, 2, none⟩ (.int .i64 (er : Int))).setCell ⟨b2, 3, none⟩ (.int .i64 (fr : Int))) = wX at *
    obtain ⟨⟨c0, c1, c2, c3, f0, f1, f2, f3⟩, ⟨d0, d1, d2, d3, d4, d5, dz⟩, ⟨r0, r1, r2, r3, q0, q1, q2, q3⟩, ⟨e0, e1, e2, e3, e4, e5, ez⟩, hbX⟩ := id HX.out
    have ez0 := ez 0 (by omega)
    have ez1 := ez 1 (by omega)
    have ez2 := ez 2 (by omega)
    have ez3 := ez 3 (by omega)
    have ez4 := ez 4 (by omega)
    have ez5 := ez 5 (by omega)
    clear ez dz
    obtain ⟨-, m42, m52, m47, m57, m45, k24, k25, -⟩ := HN.out
    have m54 : b5 ≠ b4 := fun h => m45 h.symm
    go_region_with (fail)
    all_goals go_wp2_with fail
    all_goals
      (try simp only [Exit.inBlock, Exit.then])
      refine bodyPost_ret (v := .tuple #[rdV s (pa : Int) (er : Int) (fr : Int), fdV 0 0 0 false ⟨#[]⟩ none 0 0]) (by simp [results, Tryd.results32, go_sem, r0, r1, r2, r3, e0, e1, e2, e3, e4, e5, m45, m54]) rfl ?_
      with_reducible first | exact HFin.out _ (set6B (set4B hbX b4 k24 _ _ _ _) b5 k25 _ _ _ _ _ _).drew | exact HFin.out _ (set4B (set6B hbX b5 k25 _ _ _ _ _ _) b4 k24 _ _ _ _).drew
end Go.Proofs.YtgikdmognolmoaaDoor
