/- The document's own reader: one field, letter b. -/
import Derived.Test.YtgikdmognolmoaaDoorWsD
namespace Go.Proofs.YtgikdmognolmoaaDoor
open Go.RowKit Go.Lib Go.Wq
set_option linter.unusedVariables false
set_option linter.unusedSimpArgs false
set_option maxRecDepth 100000
theorem below_5 (w : World) (a b c d e : Obj) : Below w.heap.size w (((((w.alloc a).alloc b).alloc c).alloc d).alloc e) :=
  (((((Below.refl w.heap.size w).alloc (Nat.le_refl _) _).alloc (by simp) _).alloc (by simp <;> omega) _).alloc (by simp <;> omega) _).alloc (by simp <;> omega) _

set_option maxHeartbeats 4000000 in
theorem one_b (s : ByteArray) : OneSays s .b := by
  intro p ia n ic S w hp hs _ _ _
  have HL := Lib.hid (laid1 w s p 98 ia n ic)
  have hl : s.data.toList.length = s.size := Array.length_toList
  have hst := d_store
  show Calls _ _ #[rdV s (p : Int) 0 0, .agg #[.int .u8 98, .slice ia n ic]] w _
  go_enter Tryd.func32, Tryd.ntmps32
  by_cases hend : p < s.size
  · obtain ⟨C, hC⟩ : ∃ C : Nat, ((s[p]'hend).toNat : Int) = (C : Int) := ⟨_, rfl⟩
    have hC' : (s[p]'hend).toNat = C := by exact_mod_cast hC
    have hget : s.data.toList[p]? = some (s[p]'hend) := by
      rw [Array.getElem?_toList]
      exact Array.getElem?_eq_getElem hend
    have hge : decide ((s.size : Int) ≤ (p : Int)) = false := decide_eq_false (by omega)
    by_cases hc : 1 < C
    · have hx : rdOne s.data.toList .b p = .bad 43 p := by simp only [rdOne, hget, hC']; rw [if_pos hc]
      have hd1 : decide (1 < (C : Int)) = true := decide_eq_true (by omega)
      have HFin := Lib.hid (show ∀ w', Below w.heap.size w w' → OneEnds s .b p w (.returned (.tuple #[rdV s (p : Int) 43 (p : Int), fdV 0 0 0 false ⟨#[]⟩ none 0 0])) w' from fun w' hb => one_bad hx hb p 0 0 0 false ⟨#[]⟩ none 0 0)
      clear hget hx hC'
      go_wp2_with fail
      have hL := HL.out
      obtain ⟨wl, hwl⟩ : ∃ wl, wl = (((((w.alloc (R0 s p)).alloc (I0 98 ia n ic)).alloc R00).alloc F00).alloc F00) := ⟨_, rfl⟩
      rw [← hwl] at hL ⊢
      have hKeep : ∀ w', Below wl.heap.size wl w' → Laid1 w w' s p 98 ia n ic := fun w' h => hL.below h
      clear hwl
      obtain ⟨⟨c0, c1, c2, c3, f0, f1, f2, f3⟩, -, -, -, -, ⟨d0, d1, d2, d3, d4, d5, dz⟩, hbel, hsiz⟩ := id hL
      go_region_with (go_at_call 50; refine (no_any _ _ _ _ _ _ _).mono ?_; rintro e w2 ⟨rfl, h2⟩; obtain ⟨-, -, -, ⟨r0, r1, r2, r3, q0, q1, q2, q3⟩, ⟨e0, e1, e2, e3, e4, e5, ez⟩, ⟨d0, d1, d2, d3, d4, d5, dz⟩, hbX, -⟩ := hKeep _ (Below.trans (Below.drew (Below.refl _ _)) h2); have ez0 := ez 0 (by omega); have ez1 := ez 1 (by omega); have ez2 := ez 2 (by omega); have ez3 := ez 3 (by omega); have ez4 := ez 4 (by omega); have ez5 := ez 5 (by omega))
      all_goals go_wp2_with fail
      all_goals
        (try simp only [Exit.inBlock, Exit.then])
        refine bodyPost_ret (v := .tuple #[rdV s (p : Int) 43 (p : Int), fdV 0 0 0 false ⟨#[]⟩ none 0 0]) (by simp [results, Tryd.results32, go_sem, r0, r1, r2, r3, e0, e1, e2, e3, e4, e5]) rfl ?_
        with_reducible first | exact HFin.out _ (set6B (set4B hbX _ (by omega) _ _ _ _) _ (by omega) _ _ _ _ _ _) | exact HFin.out _ (set4B (set6B hbX _ (by omega) _ _ _ _ _ _) _ (by omega) _ _ _ _) | exact HFin.out _ (set6B (set4B hbX _ (by omega) _ _ _ _) _ (by omega) _ _ _ _ _ _).drew | exact HFin.out _ (set4B (set6B hbX _ (by omega) _ _ _ _ _ _) _ (by omega) _ _ _ _).drew
    · have hx : rdOne s.data.toList .b p = .ok (.mk 0 0 0 (C == 1) (⟨#[]⟩ : ByteArray).data.toList []) (p + 1) := by simp only [rdOne, hget, hC']; rw [if_neg hc]
      have hd1 : decide (1 < (C : Int)) = false := decide_eq_false (by omega)
      have hP1 : IntKind.i64.wrap ((p : Int) + 1) = (p : Int) + 1 := by go_arith
      have HFin := Lib.hid (show ∀ w', Below w.heap.size w w' → OneEnds s .b p w (.returned (.tuple #[rdV s ((p : Int) + 1) 0 0, fdV 0 0 0 (C == 1) ⟨#[]⟩ none 0 0])) w' from fun w' hb => one_ok hx hb)
      have hCC : ((C : Int) == 1) = (C == 1) := by rw [Bool.eq_iff_iff]; simp; omega
      clear hget hx hC'
      go_wp2_with fail
      go_region_with (fail)
      all_goals go_wp2_with fail
      all_goals
        (try simp only [Exit.inBlock, Exit.then])
        refine bodyPost_ret (v := .tuple #[rdV s ((p : Int) + 1) 0 0, fdV 0 0 0 (C == 1) ⟨#[]⟩ none 0 0]) (by simp [results, Tryd.results32, go_sem, hCC]) rfl ?_
        exact HFin.out _ (below_5 _ _ _ _ _ _).drew
  · have hget : s.data.toList[p]? = none := by rw [List.getElem?_eq_none]; omega
    have hx : rdOne s.data.toList .b p = .bad 42 p := by simp only [rdOne, hget]
    have hge : decide ((s.size : Int) ≤ (p : Int)) = true := decide_eq_true (by omega)
    have HFin := Lib.hid (show ∀ w', Below w.heap.size w w' → OneEnds s .b p w (.returned (.tuple #[rdV s (p : Int) 42 (p : Int), fdV 0 0 0 false ⟨#[]⟩ none 0 0])) w' from fun w' hb => one_bad hx hb p 0 0 0 false ⟨#[]⟩ none 0 0)
    clear hget hx
    go_wp2_with fail
    have hL := HL.out
    obtain ⟨wl, hwl⟩ : ∃ wl, wl = (((((w.alloc (R0 s p)).alloc (I0 98 ia n ic)).alloc R00).alloc F00).alloc F00) := ⟨_, rfl⟩
    rw [← hwl] at hL ⊢
    have hKeep : ∀ w', Below wl.heap.size wl w' → Laid1 w w' s p 98 ia n ic := fun w' h => hL.below h
    clear hwl
    obtain ⟨⟨c0, c1, c2, c3, f0, f1, f2, f3⟩, -, -, -, -, ⟨d0, d1, d2, d3, d4, d5, dz⟩, hbel, hsiz⟩ := id hL
    go_region_with (go_at_call 50; refine (no_any _ _ _ _ _ _ _).mono ?_; rintro e w2 ⟨rfl, h2⟩; obtain ⟨-, -, -, ⟨r0, r1, r2, r3, q0, q1, q2, q3⟩, ⟨e0, e1, e2, e3, e4, e5, ez⟩, ⟨d0, d1, d2, d3, d4, d5, dz⟩, hbX, -⟩ := hKeep _ (Below.trans (Below.drew (Below.refl _ _)) h2); have ez0 := ez 0 (by omega); have ez1 := ez 1 (by omega); have ez2 := ez 2 (by omega); have ez3 := ez 3 (by omega); have ez4 := ez 4 (by omega); have ez5 := ez 5 (by omega))
    all_goals go_wp2_with fail
    all_goals
      (try simp only [Exit.inBlock, Exit.then])
      refine bodyPost_ret (v := .tuple #[rdV s (p : Int) 42 (p : Int), fdV 0 0 0 false ⟨#[]⟩ none 0 0]) (by simp [results, Tryd.results32, go_sem, r0, r1, r2, r3, e0, e1, e2, e3, e4, e5]) rfl ?_
      with_reducible first | exact HFin.out _ (set6B (set4B hbX _ (by omega) _ _ _ _) _ (by omega) _ _ _ _ _ _) | exact HFin.out _ (set4B (set6B hbX _ (by omega) _ _ _ _ _ _) _ (by omega) _ _ _ _) | exact HFin.out _ (set6B (set4B hbX _ (by omega) _ _ _ _) _ (by omega) _ _ _ _ _ _).drew | exact HFin.out _ (set4B (set6B hbX _ (by omega) _ _ _ _ _ _) _ (by omega) _ _ _ _).drew
end Go.Proofs.YtgikdmognolmoaaDoor
