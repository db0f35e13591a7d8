/- The program's Encode, whole. -/
import Derived.Test.YtgikdmognolmoaaDoorWpH
namespace Go.Proofs.YtgikdmognolmoaaDoor
open Go.RowKit Go.Lib Go.Wq
set_option linter.unusedVariables false
set_option linter.unusedSimpArgs false
set_option maxRecDepth 100000

theorem encSays_zero {s : List UInt8} {fs : List Fld} (h : (encSays s fs).2 ≠ 0) : (encSays s fs).1 = [] := by
  unfold encSays at h ⊢
  split
  · rfl
  · split
    · rfl
    · split
      · rfl
      · rename_i h1 _ _ h2 h3
        simp only [h1, h2, if_neg h3] at h
        exact absurd rfl h

set_option maxHeartbeats 4000000 in
theorem wireEncode_any (s : ByteArray) (hs : s.size ≤ 281474976710656) (fs : List Fld) (fa : Option Addr) (fc : Nat) (w : World) (hg : Handle w) (hfs : FldsIn w w.heap.size fs fa fs.length) (hfine : ∀ y ∈ fs, Fine y) (hn : fs.length < 4611686018427387904) :
    Calls Tryd.prog 13 #[.string s, .slice fa fs.length fc] w fun e w' => e = .returned (.tuple #[.string ⟨(encSays s.data.toList fs).1.toArray⟩, .int .i64 (encSays s.data.toList fs).2]) ∧ Below w.heap.size w w' := by
  obtain ⟨w1, hw1⟩ : ∃ w1, w1 = ((w.alloc (.cells #[.string s] 9)).alloc (.cells #[.slice fa fs.length fc] 22)).alloc (.cells #[.slice none 0 0] 58) := ⟨_, rfl⟩
  have hs1 : w1.heap.size = w.heap.size + 3 := by rw [hw1]; simp
  have hb1 : Below w.heap.size w w1 := by rw [hw1]; exact (((Below.refl _ w).alloc (Nat.le_refl _) _).alloc (by simp) _).alloc (by simp; omega) _
  have k0 : w1.cell? ⟨w.heap.size, 0, none⟩ = some (.string s) := by rw [hw1]; simp [go_sem]
  have k1 : w1.cell? ⟨w.heap.size + 1, 0, none⟩ = some (.slice fa fs.length fc) := by rw [hw1]; simp [go_sem]
  have k2 : w1.cell? ⟨w.heap.size + 2, 0, none⟩ = some (.slice none 0 0) := by rw [hw1]; simp [go_sem]
  have kf : w1.frozen? ⟨w.heap.size + 2, 0, none⟩ = false := by rw [hw1]; simp [go_sem]
  have hg1 := hg.below hb1
  have hu := under_below w1
  have hus := under_size w1
  have HB := encBody s hs fs fa fc (w.heap.size + 2) (under w1) ⟨w.heap.size, 0, none⟩ ⟨w.heap.size + 1, 0, none⟩ ((hu.cell (p := ⟨w.heap.size, 0, none⟩) (by simp; omega)).trans k0) ((hu.cell (p := ⟨w.heap.size + 1, 0, none⟩) (by simp; omega)).trans k1)
    ⟨by simp, by simp, by simp; omega, by simp; omega⟩ (by omega) ((hu.cell (p := ⟨w.heap.size + 2, 0, none⟩) (by simp; omega)).trans k2) ((hu.frozen (p := ⟨w.heap.size + 2, 0, none⟩) (by simp; omega)).trans kf)
    ((FldsIn.kept (B := w.heap.size) (fun k hk => by rw [hu.block k (by omega), hb1.block k hk]) _ _ _ hfs).kept_up (by omega)) hfine hn
  have HTWO : ∀ W, Kept (Ours (w.heap.size + 2) (under w1).heap.size) (under w1) W → (under w1).heap.size ≤ W.heap.size ∧ ∀ k, Two w1.heap.size k → W.heap[k]? = (under w1).heap[k]? := fun W h => ⟨h.size, fun k hk => h.block k (by rcases hk with h | h <;> omega) (fun ho => by rcases hk with h | h <;> rcases ho with h' | h' <;> omega)⟩
  have HBEL : ∀ W w', Kept (Ours (w.heap.size + 2) (under w1).heap.size) (under w1) W → Kept (Two w1.heap.size) W w' → Below w.heap.size w w' := fun W w' h h2 =>
    ((hb1.trans (hu.mono (by omega))).trans (h.below (by omega) (fun k hk => by rcases hk with h | h <;> omega))).trans (h2.below (by have := h.size; omega) (fun k hk => by rcases hk with h | h <;> omega))
  have hmf : ∀ (fn : Fn) (first cap : Array Value) (w : World), (Instr.makeFunc fn first cap).run Tryd.prog w = .ok (.func fn first cap) w := fun _ _ _ _ => rfl
  by_cases hz : (encSays s.data.toList fs).2 = 0
  · have HRUN : Hid (Calls Tryd.prog 14 #[.func (.func 23) #[] #[.pointer (some ⟨w.heap.size, 0, none⟩), .pointer (some ⟨w.heap.size + 1, 0, none⟩), .pointer (some ⟨w.heap.size + 2, 0, none⟩)]] w1 fun e w' => e = .returned (caughtV 0 0 0) ∧ Below w.heap.size w w' ∧ w.heap.size + 2 < w'.heap.size ∧
        ∃ (v' : Value) (base : Nat), w'.cell? ⟨w.heap.size + 2, 0, none⟩ = some v' ∧ w'.ownsRow base 5 1 v' (encSays s.data.toList fs).1.length (bcs (encSays s.data.toList fs).1)) := Lib.hid (by
      refine (run_ok 23 _ _ (fun W => Kept (Ours (w.heap.size + 2) (under w1).heap.size) (under w1) W ∧ ∃ (v' : Value) (base : Nat), (under w1).heap.size ≤ base ∧ W.cell? ⟨w.heap.size + 2, 0, none⟩ = some v' ∧ W.ownsRow base 5 1 v' (encSays s.data.toList fs).1.length (bcs (encSays s.data.toList fs).1)) entEn (HB.mono ?_)).mono ?_
      · rintro e w' ⟨h1, h2⟩
        rcases h2 with ⟨-, rfl, h3⟩ | ⟨h, -⟩
        · exact ⟨rfl, ⟨h1, h3⟩, HTWO w' h1⟩
        · exact absurd hz h
      · rintro e w' ⟨rfl, W, ⟨h1, v', base, hbs, h3, h4⟩, hk⟩
        have hsz := h1.size
        have hsz2 := hk.size
        refine ⟨rfl, HBEL W w' h1 hk, by omega, v', base, ?_, own_put h4 (fun g e => ?_)⟩
        · exact (World.cell?_of_block (hk.block (w.heap.size + 2) (by omega) (fun h => by rcases h with h | h <;> omega))).trans h3
        · have := h4.lt g e
          exact hk.block g this.2 (fun h => by rcases h with h | h <;> omega))
    have hfd : ∀ (k c p : Int) (w : World), (Instr.field 36 (.agg #[.int .i64 k, .string ⟨#[]⟩, .int .i64 c, .int .i64 p]) 2).run Tryd.prog w = .ok (.int .i64 c) w := fun _ _ _ _ => by kernel_rfl
    rw [hz]
    generalize (encSays s.data.toList fs).1 = bytes at *
    clear hb1 k0 k1 k2 kf hg1 hu hus HB HTWO HBEL hg hfs hfine hz
    go_enter Tryd.func13, Tryd.ntmps13
    go_wp2_with fail
    rw [← hw1]
    refine HRUN.out.mono ?_
    rintro e w3 ⟨rfl, hb3, hs3, v', base, c3, h3⟩
    have HB3 := Lib.hid hb3
    have hcv : ∀ o, (convert 56 9 v').run Tryd.prog (w3.alloc o) = .ok (.string ⟨bytes.toArray⟩) (w3.alloc o) := fun o => own_text 56 9 Tryd.underlying56 Tryd.underlying5 Tryd.underlying9 (h3.alloc _)
    have hsw : w.heap.size ≤ w3.heap.size := by omega
    unfold caughtV
    clear hb3 h3
    go_wp2_with fail
    refine bodyPost_ret (v := .tuple #[.string ⟨bytes.toArray⟩, .int .i64 0]) (by simp [results, Tryd.results13, go_sem]) rfl ?_
    exact ⟨rfl, HB3.out.alloc hsw _⟩
  · have hzero := encSays_zero hz
    have HRUN : Hid (Calls Tryd.prog 14 #[.func (.func 23) #[] #[.pointer (some ⟨w.heap.size, 0, none⟩), .pointer (some ⟨w.heap.size + 1, 0, none⟩), .pointer (some ⟨w.heap.size + 2, 0, none⟩)]] w1 fun e w' => e = .returned (caughtV 2 (encSays s.data.toList fs).2 0) ∧ Below w.heap.size w w' ∧ w.heap.size ≤ w'.heap.size) := Lib.hid (by
      refine (run_bad 23 _ _ (encSays s.data.toList fs).2 0 (fun W => Kept (Ours (w.heap.size + 2) (under w1).heap.size) (under w1) W) (fun W h => ?_) entEn (HB.mono ?_) hg1.pos).mono ?_
      · exact hg.below (((hb1.trans (hu.mono (by omega))).trans (h.below (by omega) (fun k hk => by rcases hk with h | h <;> omega))))
      · rintro e w' ⟨h1, h2⟩
        rcases h2 with ⟨h, -⟩ | ⟨-, h3⟩
        · exact absurd h hz
        · exact ⟨h3, h1, HTWO w' h1⟩
      · rintro e w' ⟨rfl, W, h1, hk⟩
        have hsz := h1.size
        have hsz2 := hk.size
        exact ⟨rfl, HBEL W w' h1 hk, by omega⟩)
    rw [hzero]
    generalize (encSays s.data.toList fs).2 = code at *
    clear hb1 k0 k1 k2 kf hg1 hu hus HB HTWO HBEL hg hfs hfine hz hzero
    go_enter Tryd.func13, Tryd.ntmps13
    go_wp2_with fail
    rw [← hw1]
    refine HRUN.out.mono ?_
    rintro e w3 ⟨rfl, hb3, hsw⟩
    have HB3 := Lib.hid hb3
    unfold caughtV
    clear hb3
    go_wp2_with fail
    go_region
    all_goals (
      go_wp2_with fail
      refine bodyPost_ret (v := .tuple #[.string ⟨#[]⟩, .int .i64 code]) (by simp [results, Tryd.results13, go_sem]) rfl ?_
      exact ⟨rfl, (HB3.out.alloc hsw _).drew⟩)
end Go.Proofs.YtgikdmognolmoaaDoor
