/- The program's Head and Decode, whole. -/
import Derived.Test.YtgikdmognolmoaaDoorWpS
import Derived.Test.YtgikdmognolmoaaDoorWsI
namespace Go.Proofs.YtgikdmognolmoaaDoor
open Go.RowKit Go.Lib Go.Wq
set_option linter.unusedVariables false
set_option linter.unusedSimpArgs false
set_option maxRecDepth 100000

set_option maxHeartbeats 4000000 in
theorem wireHead_any (sh s : ByteArray) (hs : sh.size ≤ 140737488351232) (hs2 : s.size ≤ 140737488351232) (w : World) (hg : Handle w) :
    Calls Tryd.prog 8 #[.string sh, .string s] w (TellEnds (headSays sh.data.toList s.data.toList) w) := by
  obtain ⟨w1, hw1⟩ : ∃ w1, w1 = (((w.alloc (.cells #[.string sh] 9)).alloc (.cells #[.string s] 9)).alloc (.cells #[.slice none 0 0] 22)).alloc (.cells #[.string s, .int .i64 0] 34) := ⟨_, rfl⟩
  have hs1 : w1.heap.size = w.heap.size + 4 := by rw [hw1]; simp
  have hb1 : Below w.heap.size w w1 := by rw [hw1]; exact ((((Below.refl _ w).alloc (Nat.le_refl _) _).alloc (by simp) _).alloc (by simp <;> omega) _).alloc (by simp <;> omega) _
  have k0 : w1.cell? ⟨w.heap.size, 0, none⟩ = some (.string sh) := by rw [hw1]; simp [go_sem]
  have k1 : w1.cell? ⟨w.heap.size + 1, 0, none⟩ = some (.string s) := by rw [hw1]; simp [go_sem]
  have k2 : w1.cell? ⟨w.heap.size + 2, 0, none⟩ = some (.slice none 0 0) := by rw [hw1]; simp [go_sem]
  have kf : w1.frozen? ⟨w.heap.size + 2, 0, none⟩ = false := by rw [hw1]; simp [go_sem]
  have kr : Rd w1 (w.heap.size + 3) s 0 := by rw [hw1]; exact ⟨by simp [go_sem], by simp [go_sem], by simp [go_sem], Nat.zero_le _⟩
  have hg1 := hg.below hb1
  have hu := under_below w1
  have hus := under_size w1
  have HB := headBody sh s (by omega) (w.heap.size + 3) (w.heap.size + 2) (under w1) ⟨w.heap.size, 0, none⟩ ⟨w.heap.size + 1, 0, none⟩ ((hu.cell (p := ⟨w.heap.size, 0, none⟩) (by simp; omega)).trans k0) ((hu.cell (p := ⟨w.heap.size + 1, 0, none⟩) (by simp; omega)).trans k1)
    ⟨by simp, by simp, by simp; omega, by simp; omega⟩ (by omega) (by omega) (by omega) (kr.kept (hu.block _ (by omega))) ((hu.cell (p := ⟨w.heap.size + 2, 0, none⟩) (by simp; omega)).trans k2) ((hu.frozen (p := ⟨w.heap.size + 2, 0, none⟩) (by simp; omega)).trans kf)
  have HTWO : ∀ W, Kept (HTurn (w.heap.size + 3) (w.heap.size + 2)) (under w1) W → (under w1).heap.size ≤ W.heap.size ∧ ∀ k, Two w1.heap.size k → W.heap[k]? = (under w1).heap[k]? := fun W h => ⟨h.size, fun k hk => h.block k (by rcases hk with h | h <;> omega) (fun ho => by rcases hk with h | h <;> rcases ho with h' | h' <;> omega)⟩
  have HBEL : ∀ W w', Kept (HTurn (w.heap.size + 3) (w.heap.size + 2)) (under w1) W → Kept (Two w1.heap.size) W w' → Below w.heap.size w w' := fun W w' h h2 =>
    ((hb1.trans (hu.mono (by omega))).trans (h.below (by omega) (fun k hk => by rcases hk with h | h <;> omega))).trans (h2.below (by have := h.size; omega) (fun k hk => by rcases hk with h | h <;> omega))
  have hmf : ∀ (fn : Fn) (first cap : Array Value) (w : World), (Instr.makeFunc fn first cap).run Tryd.prog w = .ok (.func fn first cap) w := fun _ _ _ _ => rfl
  have HZ := headSays_zero (sh := sh.data.toList) (s := s.data.toList)
  generalize headSays sh.data.toList s.data.toList = t at *
  obtain ⟨l, q, code⟩ := t
  simp only [] at HZ
  by_cases hz : code = 0
  · subst hz
    have HRUN : Hid (Calls Tryd.prog 14 #[.func (.func 15) #[] #[.pointer (some ⟨w.heap.size, 0, none⟩), .pointer (some ⟨w.heap.size + 1, 0, none⟩), .pointer (some ⟨w.heap.size + 3, 0, none⟩), .pointer (some ⟨w.heap.size + 2, 0, none⟩)]] w1 fun e w' => e = .returned (caughtV 0 0 0) ∧ Below w.heap.size w w' ∧ w.heap.size + 3 < w'.heap.size ∧
        Rd w' (w.heap.size + 3) s q ∧ ∃ (a : Option Addr) (c : Nat), w'.cell? ⟨w.heap.size + 2, 0, none⟩ = some (.slice a l.length c) ∧ FldsS w' (New w.heap.size w') l a l.length) := Lib.hid (by
      refine (run_ok 15 _ _ (fun W => Kept (HTurn (w.heap.size + 3) (w.heap.size + 2)) (under w1) W ∧ (∃ (a : Option Addr) (c : Nat), W.cell? ⟨w.heap.size + 2, 0, none⟩ = some (.slice a l.length c) ∧ FldsS W (New (under w1).heap.size W) l a l.length) ∧ Rd W (w.heap.size + 3) s q) entHe (HB.mono ?_)).mono ?_
      · rintro e w' ⟨h1, h2⟩
        rcases h2 with ⟨-, rfl, h3, h4⟩ | ⟨h, -⟩
        · exact ⟨rfl, ⟨h1, h3, h4⟩, HTWO w' h1⟩
        · exact absurd rfl h
      · rintro e w' ⟨rfl, W, ⟨h1, ⟨a, c, h3, h4⟩, h5⟩, hk⟩
        have hsz := h1.size
        have hsz2 := hk.size
        refine ⟨rfl, HBEL W w' h1 hk, by omega, h5.kept (hk.block _ (by omega) (fun h => by rcases h with h | h <;> omega)), a, c, (World.cell?_of_block (hk.block (w.heap.size + 2) (by omega) (fun h => by rcases h with h | h <;> omega))).trans h3, ?_⟩
        exact FldsS.kept (fun k hk2 => hk.block k hk2.2 (fun h => by have := hk2.1; rcases h with h | h <;> omega)) (fun k hk2 => ⟨by have := hk2.1; show w.heap.size ≤ k; omega, Nat.lt_of_lt_of_le hk2.2 hsz2⟩) _ _ _ h4)
    clear hb1 k0 k1 k2 kf kr hg1 hu hus HB HTWO HBEL hg HZ
    go_enter Tryd.func8, Tryd.ntmps8
    go_wp2_with fail
    rw [← hw1]
    refine HRUN.out.mono ?_
    rintro e w3 ⟨rfl, hb3, hs3, ⟨r0, r1, rf, rle⟩, a, c, c3, h3⟩
    have HB3 := Lib.hid hb3
    have HF3 := Lib.hid h3
    unfold caughtV
    clear hb3 h3
    go_wp2_with fail
    have h2s : w.heap.size + 2 < w3.heap.size := by omega
    have hsw : w.heap.size ≤ w3.heap.size := by omega
    have HFin := Lib.hid (show ∀ w', Below w3.heap.size w3 w' → TellEnds (l, q, 0) w (.returned (.tuple #[.slice a l.length c, .int .i64 (q : Int), .int .i64 0])) w' from fun w' hb => ⟨HB3.out.trans (hb.mono hsw), a, c, rfl, FldsS.kept (fun k hk => hb.block k hk.2) (fun k hk => ⟨hk.1, Nat.lt_of_lt_of_le hk.2 hb.size⟩) _ _ _ HF3.out⟩)
    go_region
    all_goals
      go_wp2_with fail
      refine bodyPost_ret (v := .tuple #[.slice a l.length c, .int .i64 (q : Int), .int .i64 0]) (by simp [results, Tryd.results8, go_sem]) rfl ?_
      with_reducible first | exact HFin.out _ ((Below.refl _ _).alloc (Nat.le_refl _) _) | exact HFin.out _ ((Below.refl _ _).alloc (Nat.le_refl _) _).drew
  · obtain rfl := HZ hz
    have HRUN : Hid (Calls Tryd.prog 14 #[.func (.func 15) #[] #[.pointer (some ⟨w.heap.size, 0, none⟩), .pointer (some ⟨w.heap.size + 1, 0, none⟩), .pointer (some ⟨w.heap.size + 3, 0, none⟩), .pointer (some ⟨w.heap.size + 2, 0, none⟩)]] w1 fun e w' => e = .returned (caughtV 2 code q) ∧ Below w.heap.size w w' ∧ w.heap.size ≤ w'.heap.size) := Lib.hid (by
      refine (run_bad 15 _ _ code q (fun W => Kept (HTurn (w.heap.size + 3) (w.heap.size + 2)) (under w1) W) (fun W h => ?_) entHe (HB.mono ?_) hg1.pos).mono ?_
      · exact hg.below (((hb1.trans (hu.mono (by omega))).trans (h.below (by omega) (fun k hk => by rcases hk with h | h <;> omega))))
      · rintro e w' ⟨h1, h2⟩
        rcases h2 with ⟨h, -⟩ | ⟨-, h3⟩
        · exact absurd h hz
        · exact ⟨h3, h1, HTWO w' h1⟩
      · rintro e w' ⟨rfl, W, h1, hk⟩
        have hsz := h1.size
        have hsz2 := hk.size
        exact ⟨rfl, HBEL W w' h1 hk, by omega⟩)
    clear hb1 k0 k1 k2 kf kr hg1 hu hus HB HTWO HBEL hg HZ hz
    go_enter Tryd.func8, Tryd.ntmps8
    go_wp2_with fail
    rw [← hw1]
    refine HRUN.out.mono ?_
    rintro e w3 ⟨rfl, hb3, hsw⟩
    have HB3 := Lib.hid hb3
    unfold caughtV
    clear hb3
    go_wp2_with fail
    have HFin := Lib.hid (show ∀ w', Below w3.heap.size w3 w' → TellEnds ([], q, code) w (.returned (.tuple #[.slice none 0 0, .int .i64 (q : Int), .int .i64 (code : Int)])) w' from fun w' hb => tell_none (HB3.out.trans (hb.mono hsw)))
    go_region
    all_goals
      go_wp2_with fail
      refine bodyPost_ret (v := .tuple #[.slice none 0 0, .int .i64 (q : Int), .int .i64 (code : Int)]) (by simp [results, Tryd.results8, go_sem]) rfl ?_
      with_reducible first | exact HFin.out _ ((Below.refl _ _).alloc (Nat.le_refl _) _) | exact HFin.out _ ((Below.refl _ _).alloc (Nat.le_refl _) _).drew

set_option maxHeartbeats 2000000 in
theorem wireDecode_any (sh s : ByteArray) (hs : sh.size ≤ 140737488351232) (hs2 : s.size ≤ 140737488351232) (w : World) (hg : Handle w) :
    Calls Tryd.prog 6 #[.string sh, .string s] w (TellEnds (decSays sh.data.toList s.data.toList) w) := by
  have hl : s.data.toList.length = s.size := Array.length_toList
  have HC := Lib.hid (wireHead_any sh s hs hs2 w hg)
  have HD : Hid (decSays sh.data.toList s.data.toList = if (headSays sh.data.toList s.data.toList).2.2 ≠ 0 then ([], (headSays sh.data.toList s.data.toList).2.1, (headSays sh.data.toList s.data.toList).2.2) else if (headSays sh.data.toList s.data.toList).2.1 < s.size then ([], (headSays sh.data.toList s.data.toList).2.1, 44) else ((headSays sh.data.toList s.data.toList).1, 0, 0)) := Lib.hid (by unfold decSays; rw [hl])
  generalize decSays sh.data.toList s.data.toList = D at *
  generalize headSays sh.data.toList s.data.toList = H at *
  obtain ⟨l, q, er⟩ := H
  simp only [] at HD
  clear hl hs hs2
  by_cases he : er = 0
  · subst he
    by_cases hq : q < s.size
    · have hqi : (q : Int) < (s.size : Int) := by omega
      obtain rfl : D = ([], q, 44) := by rw [HD.out]; simp [hq]
      clear HD
      go_enter Tryd.func6, Tryd.ntmps6
      go_wp2_with fail
      refine HC.out.mono ?_
      rintro e w2 ⟨b2, a, c, rfl, -⟩
      have HFin := Lib.hid (tell_none (at_ := q) (code := 44) b2)
      clear b2
      go_wp2_with fail
      refine bodyPost_ret (v := .tuple #[.slice none 0 0, .int .i64 (q : Int), .int .i64 44]) (by simp [results, Tryd.results6, go_sem]) rfl ?_
      exact HFin.out
    · have hqi : ¬ (q : Int) < (s.size : Int) := by omega
      obtain rfl : D = (l, 0, 0) := by rw [HD.out]; simp [hq]
      clear HD
      go_enter Tryd.func6, Tryd.ntmps6
      go_wp2_with fail
      refine HC.out.mono ?_
      rintro e w2 ⟨b2, a, c, rfl, hf⟩
      have HFin := Lib.hid (show TellEnds (l, 0, 0) w (.returned (.tuple #[.slice a l.length c, .int .i64 0, .int .i64 0])) w2 from ⟨b2, a, c, rfl, hf⟩)
      clear b2 hf
      go_wp2_with fail
      refine bodyPost_ret (v := .tuple #[.slice a l.length c, .int .i64 0, .int .i64 0]) (by simp [results, Tryd.results6, go_sem]) rfl ?_
      exact HFin.out
  · have hne : ((er : Int) != 0) = true := by simp; omega
    obtain rfl : D = ([], q, er) := by rw [HD.out]; simp [he]
    clear HD he
    go_enter Tryd.func6, Tryd.ntmps6
    go_wp2_with fail
    refine HC.out.mono ?_
    rintro e w2 ⟨b2, a, c, rfl, -⟩
    have HFin := Lib.hid (tell_none (at_ := q) (code := er) b2)
    clear b2
    go_wp2_with fail
    refine bodyPost_ret (v := .tuple #[.slice none 0 0, .int .i64 (q : Int), .int .i64 (er : Int)]) (by simp [results, Tryd.results6, go_sem]) rfl ?_
    exact HFin.out
end Go.Proofs.YtgikdmognolmoaaDoor
