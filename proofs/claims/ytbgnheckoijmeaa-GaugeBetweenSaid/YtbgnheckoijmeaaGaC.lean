/- Gauges: the program's Feed. -/
import Derived.Test.YtbgnheckoijmeaaGaB
namespace Go.Proofs.Ytbgnheckoijmeaa
open Go.Fq Go.RowKit
open Go.Iq (below_next block_lt)
set_option linter.unusedVariables false
set_option linter.unusedSimpArgs false

/-- A gauge's three cells, that may be written. -/
def G3 (w : World) (b : Nat) (n : Int) (m v : Nat) : Prop :=
  w.cell? ⟨b, 0, none⟩ = some (.int .i64 n) ∧ w.cell? ⟨b, 1, none⟩ = some (.float .f64 m) ∧ w.cell? ⟨b, 2, none⟩ = some (.float .f64 v) ∧
    w.frozen? ⟨b, 0, none⟩ = false ∧ w.frozen? ⟨b, 1, none⟩ = false ∧ w.frozen? ⟨b, 2, none⟩ = false
theorem G3.below {w w' : World} {b : Nat} {n : Int} {m v : Nat} (h : G3 w b n m v) {B : Nat} (bel : Below B w w') (hb : b < B) : G3 w' b n m v := by
  obtain ⟨a0, a1, a2, a3, a4, a5⟩ := h
  exact ⟨(bel.cell (p := ⟨b, 0, none⟩) hb).trans a0, (bel.cell (p := ⟨b, 1, none⟩) hb).trans a1, (bel.cell (p := ⟨b, 2, none⟩) hb).trans a2,
    (bel.frozen (p := ⟨b, 0, none⟩) hb).trans a3, (bel.frozen (p := ⟨b, 1, none⟩) hb).trans a4, (bel.frozen (p := ⟨b, 2, none⟩) hb).trans a5⟩
theorem G3.first (w : World) (n : Int) (m v : Nat) (t : TypeId) : G3 (w.alloc (.cells #[.int .i64 n, .float .f64 m, .float .f64 v] t)) w.heap.size n m v :=
  ⟨by simp [go_sem], by simp [go_sem], by simp [go_sem], by simp [go_sem], by simp [go_sem], by simp [go_sem]⟩
theorem G3.second (w : World) (n : Int) (m v : Nat) (t : TypeId) (o : Obj) : G3 ((w.alloc (.cells #[.int .i64 n, .float .f64 m, .float .f64 v] t)).alloc o) w.heap.size n m v :=
  (G3.first w n m v t).below ((Below.refl _ _).alloc (Nat.le_refl _) o) (by simp)
theorem set3B {B : Nat} {w w1 : World} (h : Below B w w1) (b : Nat) (hb : B ≤ b) (x y z : Value) : Below B w (((w1.setCell ⟨b, 0, none⟩ x).setCell ⟨b, 1, none⟩ y).setCell ⟨b, 2, none⟩ z) :=
  ((h.setCell hb _).setCell hb _).setCell hb _
theorem mg_lt (a : Nat) : mg a < 2 ^ 64 := by unfold mg; omega
theorem set3_G3 {w : World} {b : Nat} {n N : Int} {m v M V : Nat} (h : G3 w b n m v) :
    G3 (((w.setCell ⟨b, 0, none⟩ (.int .i64 N)).setCell ⟨b, 1, none⟩ (.float .f64 M)).setCell ⟨b, 2, none⟩ (.float .f64 V)) b N M V := by
  obtain ⟨c0, c1, c2, f0, f1, f2⟩ := h
  exact ⟨by simp [go_sem, c0, c1, c2], by simp [go_sem, c0, c1, c2], by simp [go_sem, c0, c1, c2], by simp [go_sem, f0], by simp [go_sem, f1], by simp [go_sem, f2]⟩

theorem G3.other {w : World} {b c : Nat} {n : Int} {m v : Nat} (h : G3 w b n m v) (hne : b ≠ c) (x y z : Value) : G3 (((w.setCell ⟨c, 0, none⟩ x).setCell ⟨c, 1, none⟩ y).setCell ⟨c, 2, none⟩ z) b n m v := by
  obtain ⟨c0, c1, c2, f0, f1, f2⟩ := h
  exact ⟨by simp [go_sem, c0, hne], by simp [go_sem, c1, hne], by simp [go_sem, c2, hne], by simp [go_sem, f0], by simp [go_sem, f1], by simp [go_sem, f2]⟩
theorem two_bel {w w1 : World} {o q : Obj} (h : Below ((w.alloc o).alloc q).heap.size ((w.alloc o).alloc q) w1) : Below w.heap.size w w1 := (below2 w o q).trans (h.mono (by simp; omega))

set_option maxHeartbeats 1000000 in
theorem feed_any (n : Int) (m v f : Nat) (hw : n ≤ 9223372036854775807) (hm : m < 2 ^ 64) (hv : v < 2 ^ 64) (hf : f < 2 ^ 64) (w : World) :
    Calls Try.prog 9 #[gaug n m v, .float .f64 f] w fun e w' => e = .returned (.tuple #[gaug (feedF n m v f).1.1 (feedF n m v f).1.2.1 (feedF n m v f).1.2.2, .int .i64 (feedF n m v f).2]) ∧ Below w.heap.size w w' := by
  have HC := Lib.hid (fun w => check_any n m v w hm hv)
  have HF := Lib.hid hf
  have hst := g_store
  rcases chkF_one n m v with hc | hc
  · obtain ⟨a, b, c⟩ := chkF_ok hc
    cases hs : sampB f
    · have he : feedF n m v f = ((0, 0, 0), 50) := by unfold feedF; rw [hc, hs]; rfl
      rw [he]
      rw [hc] at HC
      clear hc a b c hm hv hf he
      go_enter Try.func9, Try.ntmps9
      go_wp2_with fail
      refine (HC.out _).mono ?_
      rintro e w1 ⟨rfl, b1⟩
      obtain ⟨c0, c1, c2, f0, f1, f2⟩ := (G3.first (w.alloc (.cells #[.int .i64 n, .float .f64 m, .float .f64 v] 24)) 0 0 0 24).below b1 (by simp)
      simp only [World.size_alloc] at c0 c1 c2 f0 f1 f2
      go_wp2_with (go_at_call 24; refine (isSample_any _ _).mono ?_; rintro e w' ⟨rfl, rfl⟩)
      (try simp only [Exit.inBlock, Exit.then])
      refine bodyPost_ret (v := .tuple #[gaug 0 0 0, .int .i64 50]) (by simp [results, Try.results9, go_sem, c0, c1, c2]) rfl ?_
      exact ⟨rfl, set3B (two_bel b1) _ (by omega) _ _ _⟩
    · have he : feedF n m v f = (behindF n m v (mg f), 0) := by unfold feedF; rw [hc, hs]; rfl
      have HB := Lib.hid (fun w => behind_any n m v (mg f) a hw b c (samp_fin hs) w)
      have HA := Lib.hid (fun w => abs_any f w hf)
      rw [he]
      rw [hc] at HC
      clear hc a b c hm hv hf he
      generalize behindF n m v (mg f) = r at *
      obtain ⟨N, M, V⟩ := r
      generalize mg f = s at *
      go_enter Try.func9, Try.ntmps9
      go_wp2_with fail
      refine (HC.out _).mono ?_
      rintro e w1 ⟨rfl, b1⟩
      have HG := Lib.hid ((G3.first (w.alloc (.cells #[.int .i64 n, .float .f64 m, .float .f64 v] 24)) 0 0 0 24).below b1 (by simp))
      obtain ⟨d0, d1, d2, _, _, _⟩ := (G3.second w n m v 24 (.cells #[.int .i64 0, .float .f64 0, .float .f64 0] 24)).below b1 (by simp; omega)
      simp only [World.size_alloc] at HG
      have hsz : w.heap.size + 2 ≤ w1.heap.size := by simpa using b1.size
      have HW := Lib.hid (two_bel b1)
      clear b1
      go_wp2_with (go_at_call 24; refine (isSample_any _ _).mono ?_; rintro e w' ⟨rfl, rfl⟩)
      go_region_with (first | (go_at_call 26; refine (HA.out _).mono ?_; rintro e w' ⟨rfl, rfl⟩) | (go_at_call 25; refine (HB.out _).mono ?_; rintro e w2 ⟨rfl, b2⟩; obtain ⟨c0, c1, c2, f0, f1, f2⟩ := (show G3 w1.drew _ _ _ _ from HG.out).below b2 (by simp; omega)))
      all_goals go_wp2_with fail
      all_goals
        (try simp only [Exit.inBlock, Exit.then])
        refine bodyPost_ret (v := .tuple #[gaug N M V, .int .i64 0]) (by simp [results, Try.results9, go_sem, c0, c1, c2]) rfl ?_
        exact ⟨rfl, set3B (below_next HW.out (show Below w1.heap.size w1 _ from (Below.drew (Below.refl _ _)).trans b2)) _ (by omega) _ _ _⟩
  · have he : feedF n m v f = ((0, 0, 0), 1) := by unfold feedF; rw [hc]; rfl
    rw [he]
    rw [hc] at HC
    clear hc hm hv hf he
    go_enter Try.func9, Try.ntmps9
    go_wp2_with fail
    refine (HC.out _).mono ?_
    rintro e w1 ⟨rfl, b1⟩
    obtain ⟨c0, c1, c2, f0, f1, f2⟩ := (G3.first (w.alloc (.cells #[.int .i64 n, .float .f64 m, .float .f64 v] 24)) 0 0 0 24).below b1 (by simp)
    simp only [World.size_alloc] at c0 c1 c2 f0 f1 f2
    go_wp2_with fail
    (try simp only [Exit.inBlock, Exit.then])
    refine bodyPost_ret (v := .tuple #[gaug 0 0 0, .int .i64 1]) (by simp [results, Try.results9, go_sem, c0, c1, c2]) rfl ?_
    exact ⟨rfl, set3B (two_bel b1) _ (by omega) _ _ _⟩
end Go.Proofs.Ytbgnheckoijmeaa
